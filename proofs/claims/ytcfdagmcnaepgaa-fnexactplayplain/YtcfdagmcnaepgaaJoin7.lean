/- Merged by program, in this order: Tw, DrawT, LawUsed. -/
import Derived.Test.YtcfdagmcnaepgaaJoin6
/- A table that is drawn. -/
namespace Go.Proofs.Ytcfdagmcnaepgaa
open Go.RowKit
set_option linter.unusedSimpArgs false
set_option linter.unusedVariables false
set_option maxHeartbeats 400000 in
theorem one_any (Y : Nat → Prop) (C k : Nat) (N : Int) (w : World) (hk : k ≤ 900000) (hN : 1 < N) (h : Cur Y w C k) :
    Calls Try.prog 91 #[.pointer (some ⟨C, 0, none⟩), .int .i64 N] w fun e w' => ∃ r, e = .returned (.bool r) ∧ Cur Y w' C (k + 2) ∧ Mod (fun b => b = C) w w' := by
  go_enter Try.func91, Try.ntmps91
  go_wp2_with fail
  refine (pick_any Y C k N _ hk hN h).mono ?_
  rintro e w1 ⟨x, rfl, hx, hc, hm⟩
  clear h
  go_wp2
  go_ret
  exact ⟨_, rfl, hc, hm⟩
set_option maxRecDepth 10000 in
set_option maxHeartbeats 12800000 in
theorem table_any (Y : Nat → Prop) (C k : Nat) (w : World) (hk : k ≤ 700000) (hY : ∀ b, Y b → b < w.heap.size ∧ b ≠ C) (h : Cur Y w C k) :
    Calls Try.prog 49 #[.pointer (some ⟨C, 0, none⟩)] w fun e w' => ∃ b c kn p m, e = .returned (b.val (T4 c kn p m)) ∧ (1 ≤ kn ∧ kn ≤ 4) ∧ BookOwn (fun x => w.heap.size < x ∧ x < w'.heap.size) w' b (T4 c kn p m) ∧ Cur Y w' C (k + 400) ∧ Mod (fun b => b = C) w w' := by
  have hC := h.lt
  have hYw : ∀ x, Y x → x < w.heap.size := fun x hx => (hY x hx).1
  have hb0 : Blw w (w.alloc (.cells #[.slice none 0 0, .slice none 0 0] 26)) := (Blw.refl _).alloc _
  have r0 := box2 w (.slice none 0 0) (.slice none 0 0) 26
  have HC0 : Hid (Cur Y (w.alloc (.cells #[.slice none 0 0, .slice none 0 0] 26)) C k) := h.blw hb0
  clear h
  go_enter Try.func49, Try.ntmps49
  go_wp2_with fail
  refine (pick_any Y C k 4 _ (by omega) (by omega) HC0.out).mono ?_
  rintro e w0 ⟨x, rfl, hx4, hc0, hm0⟩
  have hs0 := hm0.size
  have r00 := r0.mod hm0 (by omega)
  have HM0 : Hid (Mod (fun b => b = C) w w0) := (hb0.mod _).trans hm0
  have HC1 : Hid (Cur Y w0 C (k + 2)) := hc0
  have HR00 : Hid (Row w0 w.heap.size 2 (fun i => if i = 0 then .slice none 0 0 else .slice none 0 0)) := r00
  have HS0 : Hid (w.heap.size + 1 ≤ w0.heap.size) := by simp only [World.size_alloc] at hs0; exact hs0
  clear hb0 r0 HC0 hc0 hm0 hs0 r00
  go_wp2_with fail
  refine (specNew_any _ _).mono ?_
  rintro e w1 ⟨b1, R1, r1, rfl, ho1, hs1, own1, hb1⟩
  have hcnt : cntOK (1 + (x : Int)) := by unfold cntOK; omega
  have hR1 : R1 = newB (1 + (x : Int)) := by
    rcases ho1 with ⟨_, e, _⟩ | ⟨e, _, _⟩
    · exact e
    · exact absurd hcnt e
  subst hR1
  have hx1 : (1 + (x : Int)).toNat = x + 1 := by omega
  have hA : Blw w1 (w1.alloc (.cells #[.slice b1.a1 4 b1.c1, .slice b1.a2 (x + 1) b1.c2] 26)) := (Blw.refl _).alloc _
  have hz1 := hb1.size
  have hz0 := HS0.out
  have e1 : newB (1 + (x : Int)) = T4 (fun _ => -1) (x + 1) zz zz := by unfold newB; rw [hx1]
  rw [e1] at own1
  have HOW0 : Hid (Tw Y w (w1.alloc (.cells #[.slice b1.a1 4 b1.c1, .slice b1.a2 (x + 1) b1.c2] 26)) C (k + 2) w1.heap.size) :=
    ⟨b1, _, _, _, _, ⟨HM0.out.trans ((hb1.trans hA).mod _), (HC1.out.blw hb1).blw hA, (HR00.out.blw hb1).blw hA, ⟨by omega, by simp⟩, box2 w1 _ _ 26, (own1.blw hA).mono (fun x hx => ⟨by omega, by rw [World.size_alloc]; omega, by omega, id⟩), by omega⟩⟩
  have hval : b1.val (newB (1 + (x : Int))) = .agg #[.slice b1.a1 4 b1.c1, .slice b1.a2 (x + 1) b1.c2] := by rw [e1]
  rw [hval]
  clear own1 hb1 hz1 hz0 hA HC1 HR00 HM0 HS0 ho1 hs1 e1 hval hcnt hx1
  go_wp2_with fail
  generalize w1.heap.size = zs at *
  generalize w1.alloc (.cells #[.slice b1.a1 4 b1.c1, .slice b1.a2 (x + 1) b1.c2] 26) = w2 at *
  obtain ⟨b4, c4, kn, p4, m4, ho4⟩ := HOW0.out
  refine (pick_any Y C (k + 2) 9 _ (by omega) (by omega) ho4.cur).mono ?_
  rintro e w3 ⟨n, rfl, hn9, hc3, hm3⟩
  have HOW1 : Hid (Tw Y w w3 C (k + 2 + 2) zs) := ⟨b4, c4, kn, p4, m4, ho4.go hC hc3 hm3⟩
  clear HOW0 ho4 hc3 hm3 w2 b4 c4 kn p4 m4
  go_wp2_with fail
  go_loopw [5] (fun v wr => ∃ i : Nat, i ≤ 8 ∧ v = .int .i64 i ∧ Tw Y w wr C (k + 4 + 10 * (8 - i)) zs) (fun v _ => (intOf v).toNat)
  case atStart => exact ⟨n, by omega, rfl, by obtain ⟨b, c, kn, p, m, h⟩ := HOW1.out; exact ⟨b, c, kn, p, m, h.le (by omega)⟩⟩
  case round =>
    obtain ⟨i, hi8, rfl, hbk⟩ := hrel
    clear HOW1
    have HOW0 : Hid (Tw Y w wr C (k + 4 + 10 * (8 - i)) zs) := hbk
    clear hbk
    by_cases hi0 : 0 < i
    · have hi0' : (0 : Int) < i := by omega
      obtain ⟨kk, hkk⟩ : ∃ kk, kk = k + 4 + 10 * (8 - i) := ⟨_, rfl⟩
      have hkb : kk ≤ 800000 := by omega
      rw [← hkk] at HOW0
      have HKK : Hid (kk = k + 4 + 10 * (8 - i)) := hkk
      clear hkk
      obtain ⟨b4, c4, kn, p4, m4, ho4⟩ := HOW0.out
      have HO : Hid (TA Y w wr C (kk) zs NoE b4 c4 kn p4 m4) := ho4
      clear ho4 HOW0
      have P0 : ∀ w', Row w' zs 2 (bx2 b4 4 kn) → w'.cell? ⟨zs, 0, none⟩ = some (.slice b4.a1 4 b4.c1) := fun w' hh => (get2 hh).1
      have P1 : ∀ w', Row w' zs 2 (bx2 b4 4 kn) → w'.cell? ⟨zs, 1, none⟩ = some (.slice b4.a2 kn b4.c2) := fun w' hh => (get2 hh).2
      go_upto_region 5 with fail
      go_cut [6, 7] from 19 to 49 (fun v1 v2 wx => Got Y w C (kk + 2 + 2 + 2) zs b4 c4 kn p4 m4 v1 v2 wx)
      case first =>
        replace HO : Hid (TA Y w wr.drew C (kk) zs NoE b4 c4 kn p4 m4) := HO.out.blw (Blw.refl _).drew
        refine wp_region_noPanic ?_
        refine wp_region_held_drew (S := fun w' => Row w' zs 2 (bx2 b4 4 kn)) (by kernel_rfl) HO.out.box (fun hB => ?_)
        clear hB
        generalize wr.drew = wd at *
        refine wpAnyH_take (i := 0) (oi := { dst := some 24, op := Op.load 26 (Operand.tmp 3), type := 26, pos := _, after := #[], guard := none }) (v := (.agg #[.slice b4.a1 4 b4.c1, .slice b4.a2 kn b4.c2])) rfl (by kernel_rfl) (by kernel_rfl) (by kernel_rfl) (fun _ _ _ h => h) (Or.inl ⟨by rfl, fun w' hS => by (try dsimp only at hS); go_simp⟩) HO.out.box ?_
        simp only [Act.put, List.setIfInBounds_toArray, List.set_cons_zero, List.set_cons_succ]
        refine wpAnyH_take (i := 1) (oi := { dst := some 25, op := Op.move (Operand.tmp 0), type := 69, pos := _, after := #[], guard := none }) (v := (.pointer (some ⟨C, 0, none⟩))) rfl (by kernel_rfl) (by kernel_rfl) (by kernel_rfl) (fun _ _ _ h => h) (Or.inl ⟨by rfl, fun w' hS => by (try dsimp only at hS); go_simp⟩) HO.out.box ?_
        simp only [Act.put, List.setIfInBounds_toArray, List.set_cons_zero, List.set_cons_succ]
        refine wpAnyH_take (i := 3) (oi := { dst := some 27, op := Op.move (Operand.tmp 0), type := 69, pos := _, after := #[], guard := none }) (v := (.pointer (some ⟨C, 0, none⟩))) rfl (by kernel_rfl) (by kernel_rfl) (by kernel_rfl) (fun _ _ _ h => h) (Or.inl ⟨by rfl, fun w' hS => by (try dsimp only at hS); go_simp⟩) HO.out.box ?_
        simp only [Act.put, List.setIfInBounds_toArray, List.set_cons_zero, List.set_cons_succ]
        refine wpAnyH_take (i := 5) (oi := { dst := some 29, op := Op.move (Operand.tmp 0), type := 69, pos := _, after := #[], guard := none }) (v := (.pointer (some ⟨C, 0, none⟩))) rfl (by kernel_rfl) (by kernel_rfl) (by kernel_rfl) (fun _ _ _ h => h) (Or.inl ⟨by rfl, fun w' hS => by (try dsimp only at hS); go_simp⟩) HO.out.box ?_
        simp only [Act.put, List.setIfInBounds_toArray, List.set_cons_zero, List.set_cons_succ]
        refine wpAnyH_ready (rs := [2, 12]) (by kernel_rfl) (by simp) ?_
        refine AllReadyH.cons (o := { dst := some 26, op := Op.call { callee := Callee.value (Operand.func 50), args := #[Operand.tmp 25, Operand.const (Value.int IntKind.i64 16)], argTypes := #[69, 3] }, type := 3, pos := _, after := #[{ on := 1, ground := Ground.data }], guard := none }) rfl (fun K hK => ?_) (AllReadyH.cons (o := { dst := some 6, op := Op.alloc 26, type := 0, pos := _, after := #[], guard := none }) rfl (fun K hK => ?_) AllReadyH.nil)
        · go_simp
          refine (pick_any Y C (kk) 16 _ (by omega) (by omega) HO.out.cur).mono ?_
          rintro e wn ⟨x0, rfl, hx0, hc, hm⟩
          have hwx0 := wrap1 x0 (by omega)
          replace HO : Hid (TA Y w wn C (kk + 2) zs NoE b4 c4 kn p4 m4) := HO.out.go hC hc hm
          clear hc hm
          refine hK.out _ _ HO.out.box (fun hB => ?_)
          clear hK K hB
          try simp only [Act.put, List.setIfInBounds_toArray, List.set_cons_zero, List.set_cons_succ]
          refine wpAnyH_ready (rs := [4, 12]) (by kernel_rfl) (by simp) ?_
          refine AllReadyH.cons (o := { dst := some 28, op := Op.call { callee := Callee.value (Operand.func 50), args := #[Operand.tmp 27, Operand.const (Value.int IntKind.i64 16)], argTypes := #[69, 3] }, type := 3, pos := _, after := #[{ on := 3, ground := Ground.data }, { on := 2, ground := Ground.chain }], guard := none }) rfl (fun K hK => ?_) (AllReadyH.cons (o := { dst := some 6, op := Op.alloc 26, type := 0, pos := _, after := #[], guard := none }) rfl (fun K hK => ?_) AllReadyH.nil)
          · go_simp
            refine (pick_any Y C (kk + 2) 16 _ (by omega) (by omega) HO.out.cur).mono ?_
            rintro e wn ⟨x1, rfl, hx1, hc, hm⟩
            have hwx1 := wrap1 x1 (by omega)
            replace HO : Hid (TA Y w wn C (kk + 2 + 2) zs NoE b4 c4 kn p4 m4) := HO.out.go hC hc hm
            clear hc hm
            refine hK.out _ _ HO.out.box (fun hB => ?_)
            clear hK K hB
            try simp only [Act.put, List.setIfInBounds_toArray, List.set_cons_zero, List.set_cons_succ]
            refine wpAnyH_ready (rs := [6, 12]) (by kernel_rfl) (by simp) ?_
            refine AllReadyH.cons (o := { dst := some 30, op := Op.call { callee := Callee.value (Operand.func 50), args := #[Operand.tmp 29, Operand.const (Value.int IntKind.i64 3)], argTypes := #[69, 3] }, type := 3, pos := _, after := #[{ on := 5, ground := Ground.data }, { on := 4, ground := Ground.chain }], guard := none }) rfl (fun K hK => ?_) (AllReadyH.cons (o := { dst := some 6, op := Op.alloc 26, type := 0, pos := _, after := #[], guard := none }) rfl (fun K hK => ?_) AllReadyH.nil)
            · go_simp
              refine (pick_any Y C (kk + 2 + 2) 3 _ (by omega) (by omega) HO.out.cur).mono ?_
              rintro e wn ⟨x2, rfl, hx2, hc, hm⟩
              have hwx2 := wrap1 x2 (by omega)
              replace HO : Hid (TA Y w wn C (kk + 2 + 2 + 2) zs NoE b4 c4 kn p4 m4) := HO.out.go hC hc hm
              clear hc hm
              refine hK.out _ _ HO.out.box (fun hB => ?_)
              clear hK K hB
              try simp only [Act.put, List.setIfInBounds_toArray, List.set_cons_zero, List.set_cons_succ]
              refine wpAnyH_take (i := 7) (oi := { dst := some 31, op := Op.binOp BinOp.add 3 (Operand.const (Value.int IntKind.i64 1)) (Operand.tmp 30) 3, type := 3, pos := _, after := #[{ on := 6, ground := Ground.data }], guard := none }) (v := (.int .i64 (1 + (x2 : Int)))) rfl (by kernel_rfl) (by kernel_rfl) (by kernel_rfl) (fun _ _ _ h => h) (Or.inl ⟨by rfl, fun w' hS => by (try dsimp only at hS); go_simp⟩) HO.out.box ?_
              simp only [Act.put, List.setIfInBounds_toArray, List.set_cons_zero, List.set_cons_succ]
              refine wpAnyH_ready (rs := [8, 12]) (by kernel_rfl) (by simp) ?_
              refine AllReadyH.cons (o := { dst := some 32, op := Op.call { callee := Callee.value (Operand.func 10), args := #[Operand.tmp 24, Operand.tmp 26, Operand.tmp 28, Operand.tmp 31], argTypes := #[26, 3, 3, 3] }, type := 29, pos := _, after := #[{ on := 0, ground := Ground.data }, { on := 2, ground := Ground.data }, { on := 4, ground := Ground.data }, { on := 7, ground := Ground.data }, { on := 6, ground := Ground.chain }], guard := none }) rfl (fun K hK => ?_) (AllReadyH.cons (o := { dst := some 6, op := Op.alloc 26, type := 0, pos := _, after := #[], guard := none }) rfl (fun K hK => ?_) AllReadyH.nil)
              · go_simp
                refine (specMap_any b4 (T4 c4 kn p4 m4) (x0 : Int) (x1 : Int) (1 + (x2 : Int)) _ _ (by show 4 ≤ _; omega) HO.out.own.at).mono ?_
                rintro e wn ⟨b3, R, r3, rfl, ho3, hs3, own3, hbk⟩
                have HRR : Hid (r3 = true → ∃ c' p' m', R = T4 c' kn p' m') := ch_shape ho3
                have hzl := HO.out.zl
                have hsz := hbk.size
                have HOW : Hid (BookOwn (fun x => w.heap.size < x ∧ x < wn.heap.size ∧ x ≠ zs ∧ ¬ NoE x) wn b3 R) := own3.mono (fun x hx => ⟨by omega, hx.2, by omega, id⟩)
                replace HO : Hid (TA Y w wn C (kk + 2 + 2 + 2) zs NoE b4 c4 kn p4 m4) := HO.out.blw hbk
                clear ho3 hs3 own3 hbk hzl hsz
                refine hK.out _ _ HO.out.box (fun hB => ?_)
                clear hK K hB
                try simp only [Act.put, List.setIfInBounds_toArray, List.set_cons_zero, List.set_cons_succ]
                refine wpAnyH_take (i := 9) (oi := { dst := some 23, op := Op.move (Operand.tmp 32), type := 29, pos := _, after := #[{ on := 8, ground := Ground.data }], guard := none }) (v := (.tuple #[b3.val R, .bool r3])) rfl (by kernel_rfl) (by kernel_rfl) (by kernel_rfl) (fun _ _ _ h => h) (Or.inl ⟨by rfl, fun w' hS => by (try dsimp only at hS); go_simp⟩) HO.out.box ?_
                simp only [Act.put, List.setIfInBounds_toArray, List.set_cons_zero, List.set_cons_succ]
                refine wpAnyH_take (i := 10) (oi := { dst := some 33, op := Op.extract (Operand.tmp 23) 0, type := 26, pos := _, after := #[{ on := 9, ground := Ground.data }], guard := none }) (v := (.agg #[.slice b3.a1 R.n b3.c1, .slice b3.a2 R.D.n b3.c2])) rfl (by kernel_rfl) (by kernel_rfl) (by kernel_rfl) (fun _ _ _ h => h) (Or.inl ⟨by rfl, fun w' hS => by (try dsimp only at hS); go_simp⟩) HO.out.box ?_
                simp only [Act.put, List.setIfInBounds_toArray, List.set_cons_zero, List.set_cons_succ]
                refine wpAnyH_take (i := 11) (oi := { dst := some 34, op := Op.extract (Operand.tmp 23) 1, type := 4, pos := _, after := #[{ on := 9, ground := Ground.data }, { on := 13, ground := Ground.gcOnly Departure.lateStores }], guard := none }) (v := (.bool r3)) rfl (by kernel_rfl) (by kernel_rfl) (by kernel_rfl) (fun _ _ _ h => h) (Or.inl ⟨by rfl, fun w' hS => by (try dsimp only at hS); go_simp⟩) HO.out.box ?_
                simp only [Act.put, List.setIfInBounds_toArray, List.set_cons_zero, List.set_cons_succ]
                refine wpAnyH_ready (rs := [12]) (by kernel_rfl) (by simp) ?_
                refine AllReadyH.cons (o := { dst := some 6, op := Op.alloc 26, type := 0, pos := _, after := #[], guard := none }) rfl (fun K hK => ?_) AllReadyH.nil
                go_simp
                have HZ : Hid (Row (wn.alloc (.cells #[.slice none 0 0, .slice none 0 0] 26)) wn.heap.size 2 (fun i => if i = 0 then .slice none 0 0 else .slice none 0 0)) := box2 wn _ _ 26
                have HZB : Hid (wn.heap.size ≠ zs ∧ w.heap.size < wn.heap.size ∧ C < wn.heap.size) := by have := HO.out.zl; show _ ∧ _ ∧ _; omega
                replace HOW : Hid (BookOwn (fun x => w.heap.size < x ∧ x < (wn.alloc (.cells #[.slice none 0 0, .slice none 0 0] 26)).heap.size ∧ x ≠ zs ∧ ¬ OnE wn.heap.size x) (wn.alloc (.cells #[.slice none 0 0, .slice none 0 0] 26)) b3 R) := (HOW.out.blw ((Blw.refl _).alloc _)).mono (fun x hx => ⟨hx.1, by rw [World.size_alloc]; omega, hx.2.2.1, fun e => by have e' : x = wn.heap.size := e; omega⟩)
                replace HO : Hid (TA Y w (wn.alloc (.cells #[.slice none 0 0, .slice none 0 0] 26)) C (kk + 2 + 2 + 2) zs (OnE wn.heap.size) b4 c4 kn p4 m4) := HO.out.alloc _
                refine hK.out _ _ HO.out.box (fun hB => ?_)
                clear hK K hB
                try simp only [Act.put, List.setIfInBounds_toArray, List.set_cons_zero, List.set_cons_succ]
                generalize wn.alloc (.cells #[.slice none 0 0, .slice none 0 0] 26) = wA at *
                generalize wn.heap.size = zb at *
                refine wpAnyH_ready (rs := [13]) (by kernel_rfl) (by simp) ?_
                refine AllReadyH.cons (o := { dst := none, op := Op.store 26 (Operand.tmp 6) (Operand.tmp 33), type := 0, pos := _, after := #[{ on := 12, ground := Ground.data }, { on := 10, ground := Ground.data }, { on := 8, ground := Ground.chain }, { on := 0, ground := Ground.phase }, { on := 1, ground := Ground.phase }, { on := 2, ground := Ground.phase }, { on := 3, ground := Ground.phase }, { on := 4, ground := Ground.phase }, { on := 5, ground := Ground.phase }, { on := 6, ground := Ground.phase }, { on := 7, ground := Ground.phase }, { on := 8, ground := Ground.phase }, { on := 9, ground := Ground.phase }, { on := 10, ground := Ground.phase }, { on := 11, ground := Ground.textOnly Departure.lateStores }, { on := 12, ground := Ground.phase }], guard := none }) rfl (fun K hK => ?_) AllReadyH.nil
                obtain ⟨z0, z1⟩ := get2 HZ.out
                have fz0 := HZ.out.frozen 0
                have fz1 := HZ.out.frozen 1
                have FIN : Hid _ := got_fin hC hYw HO.out HZ.out ⟨HZB.out.1, HZB.out.2.1⟩ HRR.out HOW.out
                go_simp
                refine hK.out _ _ (by obtain ⟨_, _, _, _, _, _, ho, _⟩ := FIN.out; exact ho.box) (fun hB => ?_)
                clear hK K hB
                try simp only [Act.put, List.setIfInBounds_toArray, List.set_cons_zero, List.set_cons_succ]
                clear z0 z1 fz0 fz1
                refine wpAnyH_take (i := 14) (oi := { dst := some 7, op := Op.assign (Operand.tmp 34), type := 4, pos := _, after := #[{ on := 11, ground := Ground.data }, { on := 13, ground := Ground.chain }, { on := 0, ground := Ground.phase }, { on := 1, ground := Ground.phase }, { on := 2, ground := Ground.phase }, { on := 3, ground := Ground.phase }, { on := 4, ground := Ground.phase }, { on := 5, ground := Ground.phase }, { on := 6, ground := Ground.phase }, { on := 7, ground := Ground.phase }, { on := 8, ground := Ground.phase }, { on := 9, ground := Ground.phase }, { on := 10, ground := Ground.phase }, { on := 11, ground := Ground.phase }, { on := 12, ground := Ground.phase }, { on := 13, ground := Ground.phase }], guard := none }) (v := (.bool r3)) rfl (by kernel_rfl) (by kernel_rfl) (by kernel_rfl) (fun _ _ _ h => h) (Or.inl ⟨by rfl, fun w' hS => by (try dsimp only at hS); go_simp⟩) (by obtain ⟨_, _, _, _, _, _, ho, _⟩ := FIN.out; exact ho.box) ?_
                simp only [Act.put, List.setIfInBounds_toArray, List.set_cons_zero, List.set_cons_succ]
                refine wpAnyH_done (by kernel_rfl) ?_ _
                refine NoPanic.normal ?_
                go_wp2_with fail
                go_meet
                exact FIN.out
              · go_simp
                have HZ : Hid (Row (wn.alloc (.cells #[.slice none 0 0, .slice none 0 0] 26)) wn.heap.size 2 (fun i => if i = 0 then .slice none 0 0 else .slice none 0 0)) := box2 wn _ _ 26
                have HZB : Hid (wn.heap.size ≠ zs ∧ w.heap.size < wn.heap.size ∧ C < wn.heap.size) := by have := HO.out.zl; show _ ∧ _ ∧ _; omega
                replace HO : Hid (TA Y w (wn.alloc (.cells #[.slice none 0 0, .slice none 0 0] 26)) C (kk + 2 + 2 + 2) zs (OnE wn.heap.size) b4 c4 kn p4 m4) := HO.out.alloc _
                refine hK.out _ _ HO.out.box (fun hB => ?_)
                clear hK K hB
                try simp only [Act.put, List.setIfInBounds_toArray, List.set_cons_zero, List.set_cons_succ]
                generalize wn.alloc (.cells #[.slice none 0 0, .slice none 0 0] 26) = wA at *
                generalize wn.heap.size = zb at *
                refine wpAnyH_ready (rs := [8]) (by kernel_rfl) (by simp) ?_
                refine AllReadyH.cons (o := { dst := some 32, op := Op.call { callee := Callee.value (Operand.func 10), args := #[Operand.tmp 24, Operand.tmp 26, Operand.tmp 28, Operand.tmp 31], argTypes := #[26, 3, 3, 3] }, type := 29, pos := _, after := #[{ on := 0, ground := Ground.data }, { on := 2, ground := Ground.data }, { on := 4, ground := Ground.data }, { on := 7, ground := Ground.data }, { on := 6, ground := Ground.chain }], guard := none }) rfl (fun K hK => ?_) AllReadyH.nil
                go_simp
                refine (specMap_any b4 (T4 c4 kn p4 m4) (x0 : Int) (x1 : Int) (1 + (x2 : Int)) _ _ (by show 4 ≤ _; omega) HO.out.own.at).mono ?_
                rintro e wn ⟨b3, R, r3, rfl, ho3, hs3, own3, hbk⟩
                have HRR : Hid (r3 = true → ∃ c' p' m', R = T4 c' kn p' m') := ch_shape ho3
                have hzl := HO.out.zl
                have hsz := hbk.size
                have hzz := HZ.out.lt
                replace HZ : Hid (Row wn zb 2 (fun i => if i = 0 then .slice none 0 0 else .slice none 0 0)) := HZ.out.blw hbk
                have HOW : Hid (BookOwn (fun x => w.heap.size < x ∧ x < wn.heap.size ∧ x ≠ zs ∧ ¬ OnE zb x) wn b3 R) := own3.mono (fun x hx => ⟨by omega, hx.2, by omega, fun e => by have e' : x = zb := e; omega⟩)
                replace HO : Hid (TA Y w wn C (kk + 2 + 2 + 2) zs (OnE zb) b4 c4 kn p4 m4) := HO.out.blw hbk
                clear ho3 hs3 own3 hbk hzl hsz hzz
                refine hK.out _ _ HO.out.box (fun hB => ?_)
                clear hK K hB
                try simp only [Act.put, List.setIfInBounds_toArray, List.set_cons_zero, List.set_cons_succ]
                refine wpAnyH_take (i := 9) (oi := { dst := some 23, op := Op.move (Operand.tmp 32), type := 29, pos := _, after := #[{ on := 8, ground := Ground.data }], guard := none }) (v := (.tuple #[b3.val R, .bool r3])) rfl (by kernel_rfl) (by kernel_rfl) (by kernel_rfl) (fun _ _ _ h => h) (Or.inl ⟨by rfl, fun w' hS => by (try dsimp only at hS); go_simp⟩) HO.out.box ?_
                simp only [Act.put, List.setIfInBounds_toArray, List.set_cons_zero, List.set_cons_succ]
                refine wpAnyH_take (i := 10) (oi := { dst := some 33, op := Op.extract (Operand.tmp 23) 0, type := 26, pos := _, after := #[{ on := 9, ground := Ground.data }], guard := none }) (v := (.agg #[.slice b3.a1 R.n b3.c1, .slice b3.a2 R.D.n b3.c2])) rfl (by kernel_rfl) (by kernel_rfl) (by kernel_rfl) (fun _ _ _ h => h) (Or.inl ⟨by rfl, fun w' hS => by (try dsimp only at hS); go_simp⟩) HO.out.box ?_
                simp only [Act.put, List.setIfInBounds_toArray, List.set_cons_zero, List.set_cons_succ]
                refine wpAnyH_take (i := 11) (oi := { dst := some 34, op := Op.extract (Operand.tmp 23) 1, type := 4, pos := _, after := #[{ on := 9, ground := Ground.data }, { on := 13, ground := Ground.gcOnly Departure.lateStores }], guard := none }) (v := (.bool r3)) rfl (by kernel_rfl) (by kernel_rfl) (by kernel_rfl) (fun _ _ _ h => h) (Or.inl ⟨by rfl, fun w' hS => by (try dsimp only at hS); go_simp⟩) HO.out.box ?_
                simp only [Act.put, List.setIfInBounds_toArray, List.set_cons_zero, List.set_cons_succ]
                refine wpAnyH_ready (rs := [13]) (by kernel_rfl) (by simp) ?_
                refine AllReadyH.cons (o := { dst := none, op := Op.store 26 (Operand.tmp 6) (Operand.tmp 33), type := 0, pos := _, after := #[{ on := 12, ground := Ground.data }, { on := 10, ground := Ground.data }, { on := 8, ground := Ground.chain }, { on := 0, ground := Ground.phase }, { on := 1, ground := Ground.phase }, { on := 2, ground := Ground.phase }, { on := 3, ground := Ground.phase }, { on := 4, ground := Ground.phase }, { on := 5, ground := Ground.phase }, { on := 6, ground := Ground.phase }, { on := 7, ground := Ground.phase }, { on := 8, ground := Ground.phase }, { on := 9, ground := Ground.phase }, { on := 10, ground := Ground.phase }, { on := 11, ground := Ground.textOnly Departure.lateStores }, { on := 12, ground := Ground.phase }], guard := none }) rfl (fun K hK => ?_) AllReadyH.nil
                obtain ⟨z0, z1⟩ := get2 HZ.out
                have fz0 := HZ.out.frozen 0
                have fz1 := HZ.out.frozen 1
                have FIN : Hid _ := got_fin hC hYw HO.out HZ.out ⟨HZB.out.1, HZB.out.2.1⟩ HRR.out HOW.out
                go_simp
                refine hK.out _ _ (by obtain ⟨_, _, _, _, _, _, ho, _⟩ := FIN.out; exact ho.box) (fun hB => ?_)
                clear hK K hB
                try simp only [Act.put, List.setIfInBounds_toArray, List.set_cons_zero, List.set_cons_succ]
                clear z0 z1 fz0 fz1
                refine wpAnyH_take (i := 14) (oi := { dst := some 7, op := Op.assign (Operand.tmp 34), type := 4, pos := _, after := #[{ on := 11, ground := Ground.data }, { on := 13, ground := Ground.chain }, { on := 0, ground := Ground.phase }, { on := 1, ground := Ground.phase }, { on := 2, ground := Ground.phase }, { on := 3, ground := Ground.phase }, { on := 4, ground := Ground.phase }, { on := 5, ground := Ground.phase }, { on := 6, ground := Ground.phase }, { on := 7, ground := Ground.phase }, { on := 8, ground := Ground.phase }, { on := 9, ground := Ground.phase }, { on := 10, ground := Ground.phase }, { on := 11, ground := Ground.phase }, { on := 12, ground := Ground.phase }, { on := 13, ground := Ground.phase }], guard := none }) (v := (.bool r3)) rfl (by kernel_rfl) (by kernel_rfl) (by kernel_rfl) (fun _ _ _ h => h) (Or.inl ⟨by rfl, fun w' hS => by (try dsimp only at hS); go_simp⟩) (by obtain ⟨_, _, _, _, _, _, ho, _⟩ := FIN.out; exact ho.box) ?_
                simp only [Act.put, List.setIfInBounds_toArray, List.set_cons_zero, List.set_cons_succ]
                refine wpAnyH_done (by kernel_rfl) ?_ _
                refine NoPanic.normal ?_
                go_wp2_with fail
                go_meet
                exact FIN.out
            · go_simp
              have HZ : Hid (Row (wn.alloc (.cells #[.slice none 0 0, .slice none 0 0] 26)) wn.heap.size 2 (fun i => if i = 0 then .slice none 0 0 else .slice none 0 0)) := box2 wn _ _ 26
              have HZB : Hid (wn.heap.size ≠ zs ∧ w.heap.size < wn.heap.size ∧ C < wn.heap.size) := by have := HO.out.zl; show _ ∧ _ ∧ _; omega
              replace HO : Hid (TA Y w (wn.alloc (.cells #[.slice none 0 0, .slice none 0 0] 26)) C (kk + 2 + 2) zs (OnE wn.heap.size) b4 c4 kn p4 m4) := HO.out.alloc _
              refine hK.out _ _ HO.out.box (fun hB => ?_)
              clear hK K hB
              try simp only [Act.put, List.setIfInBounds_toArray, List.set_cons_zero, List.set_cons_succ]
              generalize wn.alloc (.cells #[.slice none 0 0, .slice none 0 0] 26) = wA at *
              generalize wn.heap.size = zb at *
              refine wpAnyH_ready (rs := [6]) (by kernel_rfl) (by simp) ?_
              refine AllReadyH.cons (o := { dst := some 30, op := Op.call { callee := Callee.value (Operand.func 50), args := #[Operand.tmp 29, Operand.const (Value.int IntKind.i64 3)], argTypes := #[69, 3] }, type := 3, pos := _, after := #[{ on := 5, ground := Ground.data }, { on := 4, ground := Ground.chain }], guard := none }) rfl (fun K hK => ?_) AllReadyH.nil
              go_simp
              refine (pick_any Y C (kk + 2 + 2) 3 _ (by omega) (by omega) HO.out.cur).mono ?_
              rintro e wn ⟨x2, rfl, hx2, hc, hm⟩
              have hwx2 := wrap1 x2 (by omega)
              replace HO : Hid (TA Y w wn C (kk + 2 + 2 + 2) zs (OnE zb) b4 c4 kn p4 m4) := HO.out.go hC hc hm
              replace HZ : Hid (Row wn zb 2 (fun i => if i = 0 then .slice none 0 0 else .slice none 0 0)) := HZ.out.mod hm (by have := HZB.out; omega)
              clear hc hm
              refine hK.out _ _ HO.out.box (fun hB => ?_)
              clear hK K hB
              try simp only [Act.put, List.setIfInBounds_toArray, List.set_cons_zero, List.set_cons_succ]
              refine wpAnyH_take (i := 7) (oi := { dst := some 31, op := Op.binOp BinOp.add 3 (Operand.const (Value.int IntKind.i64 1)) (Operand.tmp 30) 3, type := 3, pos := _, after := #[{ on := 6, ground := Ground.data }], guard := none }) (v := (.int .i64 (1 + (x2 : Int)))) rfl (by kernel_rfl) (by kernel_rfl) (by kernel_rfl) (fun _ _ _ h => h) (Or.inl ⟨by rfl, fun w' hS => by (try dsimp only at hS); go_simp⟩) HO.out.box ?_
              simp only [Act.put, List.setIfInBounds_toArray, List.set_cons_zero, List.set_cons_succ]
              refine wpAnyH_ready (rs := [8]) (by kernel_rfl) (by simp) ?_
              refine AllReadyH.cons (o := { dst := some 32, op := Op.call { callee := Callee.value (Operand.func 10), args := #[Operand.tmp 24, Operand.tmp 26, Operand.tmp 28, Operand.tmp 31], argTypes := #[26, 3, 3, 3] }, type := 29, pos := _, after := #[{ on := 0, ground := Ground.data }, { on := 2, ground := Ground.data }, { on := 4, ground := Ground.data }, { on := 7, ground := Ground.data }, { on := 6, ground := Ground.chain }], guard := none }) rfl (fun K hK => ?_) AllReadyH.nil
              go_simp
              refine (specMap_any b4 (T4 c4 kn p4 m4) (x0 : Int) (x1 : Int) (1 + (x2 : Int)) _ _ (by show 4 ≤ _; omega) HO.out.own.at).mono ?_
              rintro e wn ⟨b3, R, r3, rfl, ho3, hs3, own3, hbk⟩
              have HRR : Hid (r3 = true → ∃ c' p' m', R = T4 c' kn p' m') := ch_shape ho3
              have hzl := HO.out.zl
              have hsz := hbk.size
              have hzz := HZ.out.lt
              replace HZ : Hid (Row wn zb 2 (fun i => if i = 0 then .slice none 0 0 else .slice none 0 0)) := HZ.out.blw hbk
              have HOW : Hid (BookOwn (fun x => w.heap.size < x ∧ x < wn.heap.size ∧ x ≠ zs ∧ ¬ OnE zb x) wn b3 R) := own3.mono (fun x hx => ⟨by omega, hx.2, by omega, fun e => by have e' : x = zb := e; omega⟩)
              replace HO : Hid (TA Y w wn C (kk + 2 + 2 + 2) zs (OnE zb) b4 c4 kn p4 m4) := HO.out.blw hbk
              clear ho3 hs3 own3 hbk hzl hsz hzz
              refine hK.out _ _ HO.out.box (fun hB => ?_)
              clear hK K hB
              try simp only [Act.put, List.setIfInBounds_toArray, List.set_cons_zero, List.set_cons_succ]
              refine wpAnyH_take (i := 9) (oi := { dst := some 23, op := Op.move (Operand.tmp 32), type := 29, pos := _, after := #[{ on := 8, ground := Ground.data }], guard := none }) (v := (.tuple #[b3.val R, .bool r3])) rfl (by kernel_rfl) (by kernel_rfl) (by kernel_rfl) (fun _ _ _ h => h) (Or.inl ⟨by rfl, fun w' hS => by (try dsimp only at hS); go_simp⟩) HO.out.box ?_
              simp only [Act.put, List.setIfInBounds_toArray, List.set_cons_zero, List.set_cons_succ]
              refine wpAnyH_take (i := 10) (oi := { dst := some 33, op := Op.extract (Operand.tmp 23) 0, type := 26, pos := _, after := #[{ on := 9, ground := Ground.data }], guard := none }) (v := (.agg #[.slice b3.a1 R.n b3.c1, .slice b3.a2 R.D.n b3.c2])) rfl (by kernel_rfl) (by kernel_rfl) (by kernel_rfl) (fun _ _ _ h => h) (Or.inl ⟨by rfl, fun w' hS => by (try dsimp only at hS); go_simp⟩) HO.out.box ?_
              simp only [Act.put, List.setIfInBounds_toArray, List.set_cons_zero, List.set_cons_succ]
              refine wpAnyH_take (i := 11) (oi := { dst := some 34, op := Op.extract (Operand.tmp 23) 1, type := 4, pos := _, after := #[{ on := 9, ground := Ground.data }, { on := 13, ground := Ground.gcOnly Departure.lateStores }], guard := none }) (v := (.bool r3)) rfl (by kernel_rfl) (by kernel_rfl) (by kernel_rfl) (fun _ _ _ h => h) (Or.inl ⟨by rfl, fun w' hS => by (try dsimp only at hS); go_simp⟩) HO.out.box ?_
              simp only [Act.put, List.setIfInBounds_toArray, List.set_cons_zero, List.set_cons_succ]
              refine wpAnyH_ready (rs := [13]) (by kernel_rfl) (by simp) ?_
              refine AllReadyH.cons (o := { dst := none, op := Op.store 26 (Operand.tmp 6) (Operand.tmp 33), type := 0, pos := _, after := #[{ on := 12, ground := Ground.data }, { on := 10, ground := Ground.data }, { on := 8, ground := Ground.chain }, { on := 0, ground := Ground.phase }, { on := 1, ground := Ground.phase }, { on := 2, ground := Ground.phase }, { on := 3, ground := Ground.phase }, { on := 4, ground := Ground.phase }, { on := 5, ground := Ground.phase }, { on := 6, ground := Ground.phase }, { on := 7, ground := Ground.phase }, { on := 8, ground := Ground.phase }, { on := 9, ground := Ground.phase }, { on := 10, ground := Ground.phase }, { on := 11, ground := Ground.textOnly Departure.lateStores }, { on := 12, ground := Ground.phase }], guard := none }) rfl (fun K hK => ?_) AllReadyH.nil
              obtain ⟨z0, z1⟩ := get2 HZ.out
              have fz0 := HZ.out.frozen 0
              have fz1 := HZ.out.frozen 1
              have FIN : Hid _ := got_fin hC hYw HO.out HZ.out ⟨HZB.out.1, HZB.out.2.1⟩ HRR.out HOW.out
              go_simp
              refine hK.out _ _ (by obtain ⟨_, _, _, _, _, _, ho, _⟩ := FIN.out; exact ho.box) (fun hB => ?_)
              clear hK K hB
              try simp only [Act.put, List.setIfInBounds_toArray, List.set_cons_zero, List.set_cons_succ]
              clear z0 z1 fz0 fz1
              refine wpAnyH_take (i := 14) (oi := { dst := some 7, op := Op.assign (Operand.tmp 34), type := 4, pos := _, after := #[{ on := 11, ground := Ground.data }, { on := 13, ground := Ground.chain }, { on := 0, ground := Ground.phase }, { on := 1, ground := Ground.phase }, { on := 2, ground := Ground.phase }, { on := 3, ground := Ground.phase }, { on := 4, ground := Ground.phase }, { on := 5, ground := Ground.phase }, { on := 6, ground := Ground.phase }, { on := 7, ground := Ground.phase }, { on := 8, ground := Ground.phase }, { on := 9, ground := Ground.phase }, { on := 10, ground := Ground.phase }, { on := 11, ground := Ground.phase }, { on := 12, ground := Ground.phase }, { on := 13, ground := Ground.phase }], guard := none }) (v := (.bool r3)) rfl (by kernel_rfl) (by kernel_rfl) (by kernel_rfl) (fun _ _ _ h => h) (Or.inl ⟨by rfl, fun w' hS => by (try dsimp only at hS); go_simp⟩) (by obtain ⟨_, _, _, _, _, _, ho, _⟩ := FIN.out; exact ho.box) ?_
              simp only [Act.put, List.setIfInBounds_toArray, List.set_cons_zero, List.set_cons_succ]
              refine wpAnyH_done (by kernel_rfl) ?_ _
              refine NoPanic.normal ?_
              go_wp2_with fail
              go_meet
              exact FIN.out
          · go_simp
            have HZ : Hid (Row (wn.alloc (.cells #[.slice none 0 0, .slice none 0 0] 26)) wn.heap.size 2 (fun i => if i = 0 then .slice none 0 0 else .slice none 0 0)) := box2 wn _ _ 26
            have HZB : Hid (wn.heap.size ≠ zs ∧ w.heap.size < wn.heap.size ∧ C < wn.heap.size) := by have := HO.out.zl; show _ ∧ _ ∧ _; omega
            replace HO : Hid (TA Y w (wn.alloc (.cells #[.slice none 0 0, .slice none 0 0] 26)) C (kk + 2) zs (OnE wn.heap.size) b4 c4 kn p4 m4) := HO.out.alloc _
            refine hK.out _ _ HO.out.box (fun hB => ?_)
            clear hK K hB
            try simp only [Act.put, List.setIfInBounds_toArray, List.set_cons_zero, List.set_cons_succ]
            generalize wn.alloc (.cells #[.slice none 0 0, .slice none 0 0] 26) = wA at *
            generalize wn.heap.size = zb at *
            refine wpAnyH_ready (rs := [4]) (by kernel_rfl) (by simp) ?_
            refine AllReadyH.cons (o := { dst := some 28, op := Op.call { callee := Callee.value (Operand.func 50), args := #[Operand.tmp 27, Operand.const (Value.int IntKind.i64 16)], argTypes := #[69, 3] }, type := 3, pos := _, after := #[{ on := 3, ground := Ground.data }, { on := 2, ground := Ground.chain }], guard := none }) rfl (fun K hK => ?_) AllReadyH.nil
            go_simp
            refine (pick_any Y C (kk + 2) 16 _ (by omega) (by omega) HO.out.cur).mono ?_
            rintro e wn ⟨x1, rfl, hx1, hc, hm⟩
            have hwx1 := wrap1 x1 (by omega)
            replace HO : Hid (TA Y w wn C (kk + 2 + 2) zs (OnE zb) b4 c4 kn p4 m4) := HO.out.go hC hc hm
            replace HZ : Hid (Row wn zb 2 (fun i => if i = 0 then .slice none 0 0 else .slice none 0 0)) := HZ.out.mod hm (by have := HZB.out; omega)
            clear hc hm
            refine hK.out _ _ HO.out.box (fun hB => ?_)
            clear hK K hB
            try simp only [Act.put, List.setIfInBounds_toArray, List.set_cons_zero, List.set_cons_succ]
            refine wpAnyH_ready (rs := [6]) (by kernel_rfl) (by simp) ?_
            refine AllReadyH.cons (o := { dst := some 30, op := Op.call { callee := Callee.value (Operand.func 50), args := #[Operand.tmp 29, Operand.const (Value.int IntKind.i64 3)], argTypes := #[69, 3] }, type := 3, pos := _, after := #[{ on := 5, ground := Ground.data }, { on := 4, ground := Ground.chain }], guard := none }) rfl (fun K hK => ?_) AllReadyH.nil
            go_simp
            refine (pick_any Y C (kk + 2 + 2) 3 _ (by omega) (by omega) HO.out.cur).mono ?_
            rintro e wn ⟨x2, rfl, hx2, hc, hm⟩
            have hwx2 := wrap1 x2 (by omega)
            replace HO : Hid (TA Y w wn C (kk + 2 + 2 + 2) zs (OnE zb) b4 c4 kn p4 m4) := HO.out.go hC hc hm
            replace HZ : Hid (Row wn zb 2 (fun i => if i = 0 then .slice none 0 0 else .slice none 0 0)) := HZ.out.mod hm (by have := HZB.out; omega)
            clear hc hm
            refine hK.out _ _ HO.out.box (fun hB => ?_)
            clear hK K hB
            try simp only [Act.put, List.setIfInBounds_toArray, List.set_cons_zero, List.set_cons_succ]
            refine wpAnyH_take (i := 7) (oi := { dst := some 31, op := Op.binOp BinOp.add 3 (Operand.const (Value.int IntKind.i64 1)) (Operand.tmp 30) 3, type := 3, pos := _, after := #[{ on := 6, ground := Ground.data }], guard := none }) (v := (.int .i64 (1 + (x2 : Int)))) rfl (by kernel_rfl) (by kernel_rfl) (by kernel_rfl) (fun _ _ _ h => h) (Or.inl ⟨by rfl, fun w' hS => by (try dsimp only at hS); go_simp⟩) HO.out.box ?_
            simp only [Act.put, List.setIfInBounds_toArray, List.set_cons_zero, List.set_cons_succ]
            refine wpAnyH_ready (rs := [8]) (by kernel_rfl) (by simp) ?_
            refine AllReadyH.cons (o := { dst := some 32, op := Op.call { callee := Callee.value (Operand.func 10), args := #[Operand.tmp 24, Operand.tmp 26, Operand.tmp 28, Operand.tmp 31], argTypes := #[26, 3, 3, 3] }, type := 29, pos := _, after := #[{ on := 0, ground := Ground.data }, { on := 2, ground := Ground.data }, { on := 4, ground := Ground.data }, { on := 7, ground := Ground.data }, { on := 6, ground := Ground.chain }], guard := none }) rfl (fun K hK => ?_) AllReadyH.nil
            go_simp
            refine (specMap_any b4 (T4 c4 kn p4 m4) (x0 : Int) (x1 : Int) (1 + (x2 : Int)) _ _ (by show 4 ≤ _; omega) HO.out.own.at).mono ?_
            rintro e wn ⟨b3, R, r3, rfl, ho3, hs3, own3, hbk⟩
            have HRR : Hid (r3 = true → ∃ c' p' m', R = T4 c' kn p' m') := ch_shape ho3
            have hzl := HO.out.zl
            have hsz := hbk.size
            have hzz := HZ.out.lt
            replace HZ : Hid (Row wn zb 2 (fun i => if i = 0 then .slice none 0 0 else .slice none 0 0)) := HZ.out.blw hbk
            have HOW : Hid (BookOwn (fun x => w.heap.size < x ∧ x < wn.heap.size ∧ x ≠ zs ∧ ¬ OnE zb x) wn b3 R) := own3.mono (fun x hx => ⟨by omega, hx.2, by omega, fun e => by have e' : x = zb := e; omega⟩)
            replace HO : Hid (TA Y w wn C (kk + 2 + 2 + 2) zs (OnE zb) b4 c4 kn p4 m4) := HO.out.blw hbk
            clear ho3 hs3 own3 hbk hzl hsz hzz
            refine hK.out _ _ HO.out.box (fun hB => ?_)
            clear hK K hB
            try simp only [Act.put, List.setIfInBounds_toArray, List.set_cons_zero, List.set_cons_succ]
            refine wpAnyH_take (i := 9) (oi := { dst := some 23, op := Op.move (Operand.tmp 32), type := 29, pos := _, after := #[{ on := 8, ground := Ground.data }], guard := none }) (v := (.tuple #[b3.val R, .bool r3])) rfl (by kernel_rfl) (by kernel_rfl) (by kernel_rfl) (fun _ _ _ h => h) (Or.inl ⟨by rfl, fun w' hS => by (try dsimp only at hS); go_simp⟩) HO.out.box ?_
            simp only [Act.put, List.setIfInBounds_toArray, List.set_cons_zero, List.set_cons_succ]
            refine wpAnyH_take (i := 10) (oi := { dst := some 33, op := Op.extract (Operand.tmp 23) 0, type := 26, pos := _, after := #[{ on := 9, ground := Ground.data }], guard := none }) (v := (.agg #[.slice b3.a1 R.n b3.c1, .slice b3.a2 R.D.n b3.c2])) rfl (by kernel_rfl) (by kernel_rfl) (by kernel_rfl) (fun _ _ _ h => h) (Or.inl ⟨by rfl, fun w' hS => by (try dsimp only at hS); go_simp⟩) HO.out.box ?_
            simp only [Act.put, List.setIfInBounds_toArray, List.set_cons_zero, List.set_cons_succ]
            refine wpAnyH_take (i := 11) (oi := { dst := some 34, op := Op.extract (Operand.tmp 23) 1, type := 4, pos := _, after := #[{ on := 9, ground := Ground.data }, { on := 13, ground := Ground.gcOnly Departure.lateStores }], guard := none }) (v := (.bool r3)) rfl (by kernel_rfl) (by kernel_rfl) (by kernel_rfl) (fun _ _ _ h => h) (Or.inl ⟨by rfl, fun w' hS => by (try dsimp only at hS); go_simp⟩) HO.out.box ?_
            simp only [Act.put, List.setIfInBounds_toArray, List.set_cons_zero, List.set_cons_succ]
            refine wpAnyH_ready (rs := [13]) (by kernel_rfl) (by simp) ?_
            refine AllReadyH.cons (o := { dst := none, op := Op.store 26 (Operand.tmp 6) (Operand.tmp 33), type := 0, pos := _, after := #[{ on := 12, ground := Ground.data }, { on := 10, ground := Ground.data }, { on := 8, ground := Ground.chain }, { on := 0, ground := Ground.phase }, { on := 1, ground := Ground.phase }, { on := 2, ground := Ground.phase }, { on := 3, ground := Ground.phase }, { on := 4, ground := Ground.phase }, { on := 5, ground := Ground.phase }, { on := 6, ground := Ground.phase }, { on := 7, ground := Ground.phase }, { on := 8, ground := Ground.phase }, { on := 9, ground := Ground.phase }, { on := 10, ground := Ground.phase }, { on := 11, ground := Ground.textOnly Departure.lateStores }, { on := 12, ground := Ground.phase }], guard := none }) rfl (fun K hK => ?_) AllReadyH.nil
            obtain ⟨z0, z1⟩ := get2 HZ.out
            have fz0 := HZ.out.frozen 0
            have fz1 := HZ.out.frozen 1
            have FIN : Hid _ := got_fin hC hYw HO.out HZ.out ⟨HZB.out.1, HZB.out.2.1⟩ HRR.out HOW.out
            go_simp
            refine hK.out _ _ (by obtain ⟨_, _, _, _, _, _, ho, _⟩ := FIN.out; exact ho.box) (fun hB => ?_)
            clear hK K hB
            try simp only [Act.put, List.setIfInBounds_toArray, List.set_cons_zero, List.set_cons_succ]
            clear z0 z1 fz0 fz1
            refine wpAnyH_take (i := 14) (oi := { dst := some 7, op := Op.assign (Operand.tmp 34), type := 4, pos := _, after := #[{ on := 11, ground := Ground.data }, { on := 13, ground := Ground.chain }, { on := 0, ground := Ground.phase }, { on := 1, ground := Ground.phase }, { on := 2, ground := Ground.phase }, { on := 3, ground := Ground.phase }, { on := 4, ground := Ground.phase }, { on := 5, ground := Ground.phase }, { on := 6, ground := Ground.phase }, { on := 7, ground := Ground.phase }, { on := 8, ground := Ground.phase }, { on := 9, ground := Ground.phase }, { on := 10, ground := Ground.phase }, { on := 11, ground := Ground.phase }, { on := 12, ground := Ground.phase }, { on := 13, ground := Ground.phase }], guard := none }) (v := (.bool r3)) rfl (by kernel_rfl) (by kernel_rfl) (by kernel_rfl) (fun _ _ _ h => h) (Or.inl ⟨by rfl, fun w' hS => by (try dsimp only at hS); go_simp⟩) (by obtain ⟨_, _, _, _, _, _, ho, _⟩ := FIN.out; exact ho.box) ?_
            simp only [Act.put, List.setIfInBounds_toArray, List.set_cons_zero, List.set_cons_succ]
            refine wpAnyH_done (by kernel_rfl) ?_ _
            refine NoPanic.normal ?_
            go_wp2_with fail
            go_meet
            exact FIN.out
        · go_simp
          have HZ : Hid (Row (wd.alloc (.cells #[.slice none 0 0, .slice none 0 0] 26)) wd.heap.size 2 (fun i => if i = 0 then .slice none 0 0 else .slice none 0 0)) := box2 wd _ _ 26
          have HZB : Hid (wd.heap.size ≠ zs ∧ w.heap.size < wd.heap.size ∧ C < wd.heap.size) := by have := HO.out.zl; show _ ∧ _ ∧ _; omega
          replace HO : Hid (TA Y w (wd.alloc (.cells #[.slice none 0 0, .slice none 0 0] 26)) C (kk) zs (OnE wd.heap.size) b4 c4 kn p4 m4) := HO.out.alloc _
          refine hK.out _ _ HO.out.box (fun hB => ?_)
          clear hK K hB
          try simp only [Act.put, List.setIfInBounds_toArray, List.set_cons_zero, List.set_cons_succ]
          generalize wd.alloc (.cells #[.slice none 0 0, .slice none 0 0] 26) = wA at *
          generalize wd.heap.size = zb at *
          refine wpAnyH_ready (rs := [2]) (by kernel_rfl) (by simp) ?_
          refine AllReadyH.cons (o := { dst := some 26, op := Op.call { callee := Callee.value (Operand.func 50), args := #[Operand.tmp 25, Operand.const (Value.int IntKind.i64 16)], argTypes := #[69, 3] }, type := 3, pos := _, after := #[{ on := 1, ground := Ground.data }], guard := none }) rfl (fun K hK => ?_) AllReadyH.nil
          go_simp
          refine (pick_any Y C (kk) 16 _ (by omega) (by omega) HO.out.cur).mono ?_
          rintro e wn ⟨x0, rfl, hx0, hc, hm⟩
          have hwx0 := wrap1 x0 (by omega)
          replace HO : Hid (TA Y w wn C (kk + 2) zs (OnE zb) b4 c4 kn p4 m4) := HO.out.go hC hc hm
          replace HZ : Hid (Row wn zb 2 (fun i => if i = 0 then .slice none 0 0 else .slice none 0 0)) := HZ.out.mod hm (by have := HZB.out; omega)
          clear hc hm
          refine hK.out _ _ HO.out.box (fun hB => ?_)
          clear hK K hB
          try simp only [Act.put, List.setIfInBounds_toArray, List.set_cons_zero, List.set_cons_succ]
          refine wpAnyH_ready (rs := [4]) (by kernel_rfl) (by simp) ?_
          refine AllReadyH.cons (o := { dst := some 28, op := Op.call { callee := Callee.value (Operand.func 50), args := #[Operand.tmp 27, Operand.const (Value.int IntKind.i64 16)], argTypes := #[69, 3] }, type := 3, pos := _, after := #[{ on := 3, ground := Ground.data }, { on := 2, ground := Ground.chain }], guard := none }) rfl (fun K hK => ?_) AllReadyH.nil
          go_simp
          refine (pick_any Y C (kk + 2) 16 _ (by omega) (by omega) HO.out.cur).mono ?_
          rintro e wn ⟨x1, rfl, hx1, hc, hm⟩
          have hwx1 := wrap1 x1 (by omega)
          replace HO : Hid (TA Y w wn C (kk + 2 + 2) zs (OnE zb) b4 c4 kn p4 m4) := HO.out.go hC hc hm
          replace HZ : Hid (Row wn zb 2 (fun i => if i = 0 then .slice none 0 0 else .slice none 0 0)) := HZ.out.mod hm (by have := HZB.out; omega)
          clear hc hm
          refine hK.out _ _ HO.out.box (fun hB => ?_)
          clear hK K hB
          try simp only [Act.put, List.setIfInBounds_toArray, List.set_cons_zero, List.set_cons_succ]
          refine wpAnyH_ready (rs := [6]) (by kernel_rfl) (by simp) ?_
          refine AllReadyH.cons (o := { dst := some 30, op := Op.call { callee := Callee.value (Operand.func 50), args := #[Operand.tmp 29, Operand.const (Value.int IntKind.i64 3)], argTypes := #[69, 3] }, type := 3, pos := _, after := #[{ on := 5, ground := Ground.data }, { on := 4, ground := Ground.chain }], guard := none }) rfl (fun K hK => ?_) AllReadyH.nil
          go_simp
          refine (pick_any Y C (kk + 2 + 2) 3 _ (by omega) (by omega) HO.out.cur).mono ?_
          rintro e wn ⟨x2, rfl, hx2, hc, hm⟩
          have hwx2 := wrap1 x2 (by omega)
          replace HO : Hid (TA Y w wn C (kk + 2 + 2 + 2) zs (OnE zb) b4 c4 kn p4 m4) := HO.out.go hC hc hm
          replace HZ : Hid (Row wn zb 2 (fun i => if i = 0 then .slice none 0 0 else .slice none 0 0)) := HZ.out.mod hm (by have := HZB.out; omega)
          clear hc hm
          refine hK.out _ _ HO.out.box (fun hB => ?_)
          clear hK K hB
          try simp only [Act.put, List.setIfInBounds_toArray, List.set_cons_zero, List.set_cons_succ]
          refine wpAnyH_take (i := 7) (oi := { dst := some 31, op := Op.binOp BinOp.add 3 (Operand.const (Value.int IntKind.i64 1)) (Operand.tmp 30) 3, type := 3, pos := _, after := #[{ on := 6, ground := Ground.data }], guard := none }) (v := (.int .i64 (1 + (x2 : Int)))) rfl (by kernel_rfl) (by kernel_rfl) (by kernel_rfl) (fun _ _ _ h => h) (Or.inl ⟨by rfl, fun w' hS => by (try dsimp only at hS); go_simp⟩) HO.out.box ?_
          simp only [Act.put, List.setIfInBounds_toArray, List.set_cons_zero, List.set_cons_succ]
          refine wpAnyH_ready (rs := [8]) (by kernel_rfl) (by simp) ?_
          refine AllReadyH.cons (o := { dst := some 32, op := Op.call { callee := Callee.value (Operand.func 10), args := #[Operand.tmp 24, Operand.tmp 26, Operand.tmp 28, Operand.tmp 31], argTypes := #[26, 3, 3, 3] }, type := 29, pos := _, after := #[{ on := 0, ground := Ground.data }, { on := 2, ground := Ground.data }, { on := 4, ground := Ground.data }, { on := 7, ground := Ground.data }, { on := 6, ground := Ground.chain }], guard := none }) rfl (fun K hK => ?_) AllReadyH.nil
          go_simp
          refine (specMap_any b4 (T4 c4 kn p4 m4) (x0 : Int) (x1 : Int) (1 + (x2 : Int)) _ _ (by show 4 ≤ _; omega) HO.out.own.at).mono ?_
          rintro e wn ⟨b3, R, r3, rfl, ho3, hs3, own3, hbk⟩
          have HRR : Hid (r3 = true → ∃ c' p' m', R = T4 c' kn p' m') := ch_shape ho3
          have hzl := HO.out.zl
          have hsz := hbk.size
          have hzz := HZ.out.lt
          replace HZ : Hid (Row wn zb 2 (fun i => if i = 0 then .slice none 0 0 else .slice none 0 0)) := HZ.out.blw hbk
          have HOW : Hid (BookOwn (fun x => w.heap.size < x ∧ x < wn.heap.size ∧ x ≠ zs ∧ ¬ OnE zb x) wn b3 R) := own3.mono (fun x hx => ⟨by omega, hx.2, by omega, fun e => by have e' : x = zb := e; omega⟩)
          replace HO : Hid (TA Y w wn C (kk + 2 + 2 + 2) zs (OnE zb) b4 c4 kn p4 m4) := HO.out.blw hbk
          clear ho3 hs3 own3 hbk hzl hsz hzz
          refine hK.out _ _ HO.out.box (fun hB => ?_)
          clear hK K hB
          try simp only [Act.put, List.setIfInBounds_toArray, List.set_cons_zero, List.set_cons_succ]
          refine wpAnyH_take (i := 9) (oi := { dst := some 23, op := Op.move (Operand.tmp 32), type := 29, pos := _, after := #[{ on := 8, ground := Ground.data }], guard := none }) (v := (.tuple #[b3.val R, .bool r3])) rfl (by kernel_rfl) (by kernel_rfl) (by kernel_rfl) (fun _ _ _ h => h) (Or.inl ⟨by rfl, fun w' hS => by (try dsimp only at hS); go_simp⟩) HO.out.box ?_
          simp only [Act.put, List.setIfInBounds_toArray, List.set_cons_zero, List.set_cons_succ]
          refine wpAnyH_take (i := 10) (oi := { dst := some 33, op := Op.extract (Operand.tmp 23) 0, type := 26, pos := _, after := #[{ on := 9, ground := Ground.data }], guard := none }) (v := (.agg #[.slice b3.a1 R.n b3.c1, .slice b3.a2 R.D.n b3.c2])) rfl (by kernel_rfl) (by kernel_rfl) (by kernel_rfl) (fun _ _ _ h => h) (Or.inl ⟨by rfl, fun w' hS => by (try dsimp only at hS); go_simp⟩) HO.out.box ?_
          simp only [Act.put, List.setIfInBounds_toArray, List.set_cons_zero, List.set_cons_succ]
          refine wpAnyH_take (i := 11) (oi := { dst := some 34, op := Op.extract (Operand.tmp 23) 1, type := 4, pos := _, after := #[{ on := 9, ground := Ground.data }, { on := 13, ground := Ground.gcOnly Departure.lateStores }], guard := none }) (v := (.bool r3)) rfl (by kernel_rfl) (by kernel_rfl) (by kernel_rfl) (fun _ _ _ h => h) (Or.inl ⟨by rfl, fun w' hS => by (try dsimp only at hS); go_simp⟩) HO.out.box ?_
          simp only [Act.put, List.setIfInBounds_toArray, List.set_cons_zero, List.set_cons_succ]
          refine wpAnyH_ready (rs := [13]) (by kernel_rfl) (by simp) ?_
          refine AllReadyH.cons (o := { dst := none, op := Op.store 26 (Operand.tmp 6) (Operand.tmp 33), type := 0, pos := _, after := #[{ on := 12, ground := Ground.data }, { on := 10, ground := Ground.data }, { on := 8, ground := Ground.chain }, { on := 0, ground := Ground.phase }, { on := 1, ground := Ground.phase }, { on := 2, ground := Ground.phase }, { on := 3, ground := Ground.phase }, { on := 4, ground := Ground.phase }, { on := 5, ground := Ground.phase }, { on := 6, ground := Ground.phase }, { on := 7, ground := Ground.phase }, { on := 8, ground := Ground.phase }, { on := 9, ground := Ground.phase }, { on := 10, ground := Ground.phase }, { on := 11, ground := Ground.textOnly Departure.lateStores }, { on := 12, ground := Ground.phase }], guard := none }) rfl (fun K hK => ?_) AllReadyH.nil
          obtain ⟨z0, z1⟩ := get2 HZ.out
          have fz0 := HZ.out.frozen 0
          have fz1 := HZ.out.frozen 1
          have FIN : Hid _ := got_fin hC hYw HO.out HZ.out ⟨HZB.out.1, HZB.out.2.1⟩ HRR.out HOW.out
          go_simp
          refine hK.out _ _ (by obtain ⟨_, _, _, _, _, _, ho, _⟩ := FIN.out; exact ho.box) (fun hB => ?_)
          clear hK K hB
          try simp only [Act.put, List.setIfInBounds_toArray, List.set_cons_zero, List.set_cons_succ]
          clear z0 z1 fz0 fz1
          refine wpAnyH_take (i := 14) (oi := { dst := some 7, op := Op.assign (Operand.tmp 34), type := 4, pos := _, after := #[{ on := 11, ground := Ground.data }, { on := 13, ground := Ground.chain }, { on := 0, ground := Ground.phase }, { on := 1, ground := Ground.phase }, { on := 2, ground := Ground.phase }, { on := 3, ground := Ground.phase }, { on := 4, ground := Ground.phase }, { on := 5, ground := Ground.phase }, { on := 6, ground := Ground.phase }, { on := 7, ground := Ground.phase }, { on := 8, ground := Ground.phase }, { on := 9, ground := Ground.phase }, { on := 10, ground := Ground.phase }, { on := 11, ground := Ground.phase }, { on := 12, ground := Ground.phase }, { on := 13, ground := Ground.phase }], guard := none }) (v := (.bool r3)) rfl (by kernel_rfl) (by kernel_rfl) (by kernel_rfl) (fun _ _ _ h => h) (Or.inl ⟨by rfl, fun w' hS => by (try dsimp only at hS); go_simp⟩) (by obtain ⟨_, _, _, _, _, _, ho, _⟩ := FIN.out; exact ho.box) ?_
          simp only [Act.put, List.setIfInBounds_toArray, List.set_cons_zero, List.set_cons_succ]
          refine wpAnyH_done (by kernel_rfl) ?_ _
          refine NoPanic.normal ?_
          go_wp2_with fail
          go_meet
          exact FIN.out
      case rest =>
        clear HO P0 P1
        obtain ⟨zb, b3, R, r, rfl, rfl, ho, hzb, hne, hlo, hr, own⟩ := hcut
        have HOZ : Hid (w.heap.size < zb) := hlo
        have HO : Hid (TA Y w wc C (kk + 2 + 2 + 2) zs NoE b4 c4 kn p4 m4) := ho
        have HZ : Hid (Row wc zb 2 (bx2 b3 R.n R.D.n)) := hzb
        have HR : Hid (r = true → ∃ c' p' m', R = T4 c' kn p' m') := hr
        have HOO : Hid (BookOwn (fun x => w.heap.size < x ∧ x < wc.heap.size ∧ x ≠ zs) wc b3 R) := own
        clear ho hzb hr own hlo
        clear wr
        go_upto_if 35 with fail
        go_cut [] from 19 to 49 (fun wx => Tw Y w wx C (kk + 2 + 2 + 2) zs)
        case first =>
          cases r
          · go_wp2_with fail
            go_meet
            exact ⟨_, _, _, _, _, HO.out⟩
          · obtain ⟨z0, z1⟩ := get2 HZ.out
            obtain ⟨t0, t1⟩ := get2 HO.out.box
            have f0 := HO.out.box.frozen 0
            have f1 := HO.out.box.frozen 1
            have FIN : Hid _ := got_yes hC hYw HO.out (HR.out (by first | rfl | trivial)) HOO.out
            clear HZ HO HR HOO
            go_wp2_with fail
            go_meet
            exact FIN.out
        case rest =>
          have HOW0 : Hid (Tw Y w wc C (kk + 2 + 2 + 2) zs) := hcut
          clear hcut HO HZ HR HOO hne HOZ
          obtain ⟨b4, c4, kn, p4, m4, ho4⟩ := HOW0.out
          have HO : Hid (TA Y w wc C (kk + 2 + 2 + 2) zs NoE b4 c4 kn p4 m4) := ho4
          clear ho4 HOW0
          have P0 : ∀ w', Row w' zs 2 (bx2 b4 4 kn) → w'.cell? ⟨zs, 0, none⟩ = some (.slice b4.a1 4 b4.c1) := fun w' hh => (get2 hh).1
          have P1 : ∀ w', Row w' zs 2 (bx2 b4 4 kn) → w'.cell? ⟨zs, 1, none⟩ = some (.slice b4.a2 kn b4.c2) := fun w' hh => (get2 hh).2
          go_upto_region 8 with fail
          go_cut [8, 9] from 19 to 49 (fun v1 v2 wx => Got Y w C (kk + 2 + 2 + 2 + 2) zs b4 c4 kn p4 m4 v1 v2 wx)
          case first =>
            replace HO : Hid (TA Y w wc.drew C (kk + 2 + 2 + 2) zs NoE b4 c4 kn p4 m4) := HO.out.blw (Blw.refl _).drew
            refine wp_region_noPanic ?_
            refine wp_region_held_drew (S := fun w' => Row w' zs 2 (bx2 b4 4 kn)) (by kernel_rfl) HO.out.box (fun hB => ?_)
            clear hB
            generalize wc.drew = wd at *
            refine wpAnyH_take (i := 0) (oi := { dst := some 38, op := Op.load 26 (Operand.tmp 3), type := 26, pos := _, after := #[], guard := none }) (v := (.agg #[.slice b4.a1 4 b4.c1, .slice b4.a2 kn b4.c2])) rfl (by kernel_rfl) (by kernel_rfl) (by kernel_rfl) (fun _ _ _ h => h) (Or.inl ⟨by rfl, fun w' hS => by (try dsimp only at hS); go_simp⟩) HO.out.box ?_
            simp only [Act.put, List.setIfInBounds_toArray, List.set_cons_zero, List.set_cons_succ]
            refine wpAnyH_take (i := 1) (oi := { dst := some 39, op := Op.move (Operand.tmp 0), type := 69, pos := _, after := #[], guard := none }) (v := (.pointer (some ⟨C, 0, none⟩))) rfl (by kernel_rfl) (by kernel_rfl) (by kernel_rfl) (fun _ _ _ h => h) (Or.inl ⟨by rfl, fun w' hS => by (try dsimp only at hS); go_simp⟩) HO.out.box ?_
            simp only [Act.put, List.setIfInBounds_toArray, List.set_cons_zero, List.set_cons_succ]
            refine wpAnyH_ready (rs := [2, 7]) (by kernel_rfl) (by simp) ?_
            refine AllReadyH.cons (o := { dst := some 40, op := Op.call { callee := Callee.value (Operand.func 50), args := #[Operand.tmp 39, Operand.const (Value.int IntKind.i64 16)], argTypes := #[69, 3] }, type := 3, pos := _, after := #[{ on := 1, ground := Ground.data }], guard := none }) rfl (fun K hK => ?_) (AllReadyH.cons (o := { dst := some 8, op := Op.alloc 26, type := 0, pos := _, after := #[], guard := none }) rfl (fun K hK => ?_) AllReadyH.nil)
            · go_simp
              refine (pick_any Y C (kk + 2 + 2 + 2) 16 _ (by omega) (by omega) HO.out.cur).mono ?_
              rintro e wn ⟨x0, rfl, hx0, hc, hm⟩
              have hwx0 := wrap1 x0 (by omega)
              replace HO : Hid (TA Y w wn C (kk + 2 + 2 + 2 + 2) zs NoE b4 c4 kn p4 m4) := HO.out.go hC hc hm
              clear hc hm
              refine hK.out _ _ HO.out.box (fun hB => ?_)
              clear hK K hB
              try simp only [Act.put, List.setIfInBounds_toArray, List.set_cons_zero, List.set_cons_succ]
              refine wpAnyH_ready (rs := [3, 7]) (by kernel_rfl) (by simp) ?_
              refine AllReadyH.cons (o := { dst := some 41, op := Op.call { callee := Callee.value (Operand.func 23), args := #[Operand.tmp 38, Operand.tmp 40], argTypes := #[26, 3] }, type := 29, pos := _, after := #[{ on := 0, ground := Ground.data }, { on := 2, ground := Ground.data }, { on := 2, ground := Ground.chain }], guard := none }) rfl (fun K hK => ?_) (AllReadyH.cons (o := { dst := some 8, op := Op.alloc 26, type := 0, pos := _, after := #[], guard := none }) rfl (fun K hK => ?_) AllReadyH.nil)
              · go_simp
                refine (specUnmap_any b4 (T4 c4 kn p4 m4) (x0 : Int) _ _ (by show 4 ≤ _; omega) HO.out.own.at).mono ?_
                rintro e wn ⟨b3, R, r3, rfl, ho3, hs3, own3, hbk⟩
                have HRR : Hid (r3 = true → ∃ c' p' m', R = T4 c' kn p' m') := ch_shape ho3
                have hzl := HO.out.zl
                have hsz := hbk.size
                have HOW : Hid (BookOwn (fun x => w.heap.size < x ∧ x < wn.heap.size ∧ x ≠ zs ∧ ¬ NoE x) wn b3 R) := own3.mono (fun x hx => ⟨by omega, hx.2, by omega, id⟩)
                replace HO : Hid (TA Y w wn C (kk + 2 + 2 + 2 + 2) zs NoE b4 c4 kn p4 m4) := HO.out.blw hbk
                clear ho3 hs3 own3 hbk hzl hsz
                refine hK.out _ _ HO.out.box (fun hB => ?_)
                clear hK K hB
                try simp only [Act.put, List.setIfInBounds_toArray, List.set_cons_zero, List.set_cons_succ]
                refine wpAnyH_take (i := 4) (oi := { dst := some 37, op := Op.move (Operand.tmp 41), type := 29, pos := _, after := #[{ on := 3, ground := Ground.data }], guard := none }) (v := (.tuple #[b3.val R, .bool r3])) rfl (by kernel_rfl) (by kernel_rfl) (by kernel_rfl) (fun _ _ _ h => h) (Or.inl ⟨by rfl, fun w' hS => by (try dsimp only at hS); go_simp⟩) HO.out.box ?_
                simp only [Act.put, List.setIfInBounds_toArray, List.set_cons_zero, List.set_cons_succ]
                refine wpAnyH_take (i := 5) (oi := { dst := some 42, op := Op.extract (Operand.tmp 37) 0, type := 26, pos := _, after := #[{ on := 4, ground := Ground.data }], guard := none }) (v := (.agg #[.slice b3.a1 R.n b3.c1, .slice b3.a2 R.D.n b3.c2])) rfl (by kernel_rfl) (by kernel_rfl) (by kernel_rfl) (fun _ _ _ h => h) (Or.inl ⟨by rfl, fun w' hS => by (try dsimp only at hS); go_simp⟩) HO.out.box ?_
                simp only [Act.put, List.setIfInBounds_toArray, List.set_cons_zero, List.set_cons_succ]
                refine wpAnyH_take (i := 6) (oi := { dst := some 43, op := Op.extract (Operand.tmp 37) 1, type := 4, pos := _, after := #[{ on := 4, ground := Ground.data }, { on := 8, ground := Ground.gcOnly Departure.lateStores }], guard := none }) (v := (.bool r3)) rfl (by kernel_rfl) (by kernel_rfl) (by kernel_rfl) (fun _ _ _ h => h) (Or.inl ⟨by rfl, fun w' hS => by (try dsimp only at hS); go_simp⟩) HO.out.box ?_
                simp only [Act.put, List.setIfInBounds_toArray, List.set_cons_zero, List.set_cons_succ]
                refine wpAnyH_ready (rs := [7]) (by kernel_rfl) (by simp) ?_
                refine AllReadyH.cons (o := { dst := some 8, op := Op.alloc 26, type := 0, pos := _, after := #[], guard := none }) rfl (fun K hK => ?_) AllReadyH.nil
                go_simp
                have HZ : Hid (Row (wn.alloc (.cells #[.slice none 0 0, .slice none 0 0] 26)) wn.heap.size 2 (fun i => if i = 0 then .slice none 0 0 else .slice none 0 0)) := box2 wn _ _ 26
                have HZB : Hid (wn.heap.size ≠ zs ∧ w.heap.size < wn.heap.size ∧ C < wn.heap.size) := by have := HO.out.zl; show _ ∧ _ ∧ _; omega
                replace HOW : Hid (BookOwn (fun x => w.heap.size < x ∧ x < (wn.alloc (.cells #[.slice none 0 0, .slice none 0 0] 26)).heap.size ∧ x ≠ zs ∧ ¬ OnE wn.heap.size x) (wn.alloc (.cells #[.slice none 0 0, .slice none 0 0] 26)) b3 R) := (HOW.out.blw ((Blw.refl _).alloc _)).mono (fun x hx => ⟨hx.1, by rw [World.size_alloc]; omega, hx.2.2.1, fun e => by have e' : x = wn.heap.size := e; omega⟩)
                replace HO : Hid (TA Y w (wn.alloc (.cells #[.slice none 0 0, .slice none 0 0] 26)) C (kk + 2 + 2 + 2 + 2) zs (OnE wn.heap.size) b4 c4 kn p4 m4) := HO.out.alloc _
                refine hK.out _ _ HO.out.box (fun hB => ?_)
                clear hK K hB
                try simp only [Act.put, List.setIfInBounds_toArray, List.set_cons_zero, List.set_cons_succ]
                generalize wn.alloc (.cells #[.slice none 0 0, .slice none 0 0] 26) = wA at *
                generalize wn.heap.size = zb at *
                refine wpAnyH_ready (rs := [8]) (by kernel_rfl) (by simp) ?_
                refine AllReadyH.cons (o := { dst := none, op := Op.store 26 (Operand.tmp 8) (Operand.tmp 42), type := 0, pos := _, after := #[{ on := 7, ground := Ground.data }, { on := 5, ground := Ground.data }, { on := 3, ground := Ground.chain }, { on := 0, ground := Ground.phase }, { on := 1, ground := Ground.phase }, { on := 2, ground := Ground.phase }, { on := 3, ground := Ground.phase }, { on := 4, ground := Ground.phase }, { on := 5, ground := Ground.phase }, { on := 6, ground := Ground.textOnly Departure.lateStores }, { on := 7, ground := Ground.phase }], guard := none }) rfl (fun K hK => ?_) AllReadyH.nil
                obtain ⟨z0, z1⟩ := get2 HZ.out
                have fz0 := HZ.out.frozen 0
                have fz1 := HZ.out.frozen 1
                have FIN : Hid _ := got_fin hC hYw HO.out HZ.out ⟨HZB.out.1, HZB.out.2.1⟩ HRR.out HOW.out
                go_simp
                refine hK.out _ _ (by obtain ⟨_, _, _, _, _, _, ho, _⟩ := FIN.out; exact ho.box) (fun hB => ?_)
                clear hK K hB
                try simp only [Act.put, List.setIfInBounds_toArray, List.set_cons_zero, List.set_cons_succ]
                clear z0 z1 fz0 fz1
                refine wpAnyH_take (i := 9) (oi := { dst := some 9, op := Op.assign (Operand.tmp 43), type := 4, pos := _, after := #[{ on := 6, ground := Ground.data }, { on := 8, ground := Ground.chain }, { on := 0, ground := Ground.phase }, { on := 1, ground := Ground.phase }, { on := 2, ground := Ground.phase }, { on := 3, ground := Ground.phase }, { on := 4, ground := Ground.phase }, { on := 5, ground := Ground.phase }, { on := 6, ground := Ground.phase }, { on := 7, ground := Ground.phase }, { on := 8, ground := Ground.phase }], guard := none }) (v := (.bool r3)) rfl (by kernel_rfl) (by kernel_rfl) (by kernel_rfl) (fun _ _ _ h => h) (Or.inl ⟨by rfl, fun w' hS => by (try dsimp only at hS); go_simp⟩) (by obtain ⟨_, _, _, _, _, _, ho, _⟩ := FIN.out; exact ho.box) ?_
                simp only [Act.put, List.setIfInBounds_toArray, List.set_cons_zero, List.set_cons_succ]
                refine wpAnyH_done (by kernel_rfl) ?_ _
                refine NoPanic.normal ?_
                go_wp2_with fail
                go_meet
                exact FIN.out
              · go_simp
                have HZ : Hid (Row (wn.alloc (.cells #[.slice none 0 0, .slice none 0 0] 26)) wn.heap.size 2 (fun i => if i = 0 then .slice none 0 0 else .slice none 0 0)) := box2 wn _ _ 26
                have HZB : Hid (wn.heap.size ≠ zs ∧ w.heap.size < wn.heap.size ∧ C < wn.heap.size) := by have := HO.out.zl; show _ ∧ _ ∧ _; omega
                replace HO : Hid (TA Y w (wn.alloc (.cells #[.slice none 0 0, .slice none 0 0] 26)) C (kk + 2 + 2 + 2 + 2) zs (OnE wn.heap.size) b4 c4 kn p4 m4) := HO.out.alloc _
                refine hK.out _ _ HO.out.box (fun hB => ?_)
                clear hK K hB
                try simp only [Act.put, List.setIfInBounds_toArray, List.set_cons_zero, List.set_cons_succ]
                generalize wn.alloc (.cells #[.slice none 0 0, .slice none 0 0] 26) = wA at *
                generalize wn.heap.size = zb at *
                refine wpAnyH_ready (rs := [3]) (by kernel_rfl) (by simp) ?_
                refine AllReadyH.cons (o := { dst := some 41, op := Op.call { callee := Callee.value (Operand.func 23), args := #[Operand.tmp 38, Operand.tmp 40], argTypes := #[26, 3] }, type := 29, pos := _, after := #[{ on := 0, ground := Ground.data }, { on := 2, ground := Ground.data }, { on := 2, ground := Ground.chain }], guard := none }) rfl (fun K hK => ?_) AllReadyH.nil
                go_simp
                refine (specUnmap_any b4 (T4 c4 kn p4 m4) (x0 : Int) _ _ (by show 4 ≤ _; omega) HO.out.own.at).mono ?_
                rintro e wn ⟨b3, R, r3, rfl, ho3, hs3, own3, hbk⟩
                have HRR : Hid (r3 = true → ∃ c' p' m', R = T4 c' kn p' m') := ch_shape ho3
                have hzl := HO.out.zl
                have hsz := hbk.size
                have hzz := HZ.out.lt
                replace HZ : Hid (Row wn zb 2 (fun i => if i = 0 then .slice none 0 0 else .slice none 0 0)) := HZ.out.blw hbk
                have HOW : Hid (BookOwn (fun x => w.heap.size < x ∧ x < wn.heap.size ∧ x ≠ zs ∧ ¬ OnE zb x) wn b3 R) := own3.mono (fun x hx => ⟨by omega, hx.2, by omega, fun e => by have e' : x = zb := e; omega⟩)
                replace HO : Hid (TA Y w wn C (kk + 2 + 2 + 2 + 2) zs (OnE zb) b4 c4 kn p4 m4) := HO.out.blw hbk
                clear ho3 hs3 own3 hbk hzl hsz hzz
                refine hK.out _ _ HO.out.box (fun hB => ?_)
                clear hK K hB
                try simp only [Act.put, List.setIfInBounds_toArray, List.set_cons_zero, List.set_cons_succ]
                refine wpAnyH_take (i := 4) (oi := { dst := some 37, op := Op.move (Operand.tmp 41), type := 29, pos := _, after := #[{ on := 3, ground := Ground.data }], guard := none }) (v := (.tuple #[b3.val R, .bool r3])) rfl (by kernel_rfl) (by kernel_rfl) (by kernel_rfl) (fun _ _ _ h => h) (Or.inl ⟨by rfl, fun w' hS => by (try dsimp only at hS); go_simp⟩) HO.out.box ?_
                simp only [Act.put, List.setIfInBounds_toArray, List.set_cons_zero, List.set_cons_succ]
                refine wpAnyH_take (i := 5) (oi := { dst := some 42, op := Op.extract (Operand.tmp 37) 0, type := 26, pos := _, after := #[{ on := 4, ground := Ground.data }], guard := none }) (v := (.agg #[.slice b3.a1 R.n b3.c1, .slice b3.a2 R.D.n b3.c2])) rfl (by kernel_rfl) (by kernel_rfl) (by kernel_rfl) (fun _ _ _ h => h) (Or.inl ⟨by rfl, fun w' hS => by (try dsimp only at hS); go_simp⟩) HO.out.box ?_
                simp only [Act.put, List.setIfInBounds_toArray, List.set_cons_zero, List.set_cons_succ]
                refine wpAnyH_take (i := 6) (oi := { dst := some 43, op := Op.extract (Operand.tmp 37) 1, type := 4, pos := _, after := #[{ on := 4, ground := Ground.data }, { on := 8, ground := Ground.gcOnly Departure.lateStores }], guard := none }) (v := (.bool r3)) rfl (by kernel_rfl) (by kernel_rfl) (by kernel_rfl) (fun _ _ _ h => h) (Or.inl ⟨by rfl, fun w' hS => by (try dsimp only at hS); go_simp⟩) HO.out.box ?_
                simp only [Act.put, List.setIfInBounds_toArray, List.set_cons_zero, List.set_cons_succ]
                refine wpAnyH_ready (rs := [8]) (by kernel_rfl) (by simp) ?_
                refine AllReadyH.cons (o := { dst := none, op := Op.store 26 (Operand.tmp 8) (Operand.tmp 42), type := 0, pos := _, after := #[{ on := 7, ground := Ground.data }, { on := 5, ground := Ground.data }, { on := 3, ground := Ground.chain }, { on := 0, ground := Ground.phase }, { on := 1, ground := Ground.phase }, { on := 2, ground := Ground.phase }, { on := 3, ground := Ground.phase }, { on := 4, ground := Ground.phase }, { on := 5, ground := Ground.phase }, { on := 6, ground := Ground.textOnly Departure.lateStores }, { on := 7, ground := Ground.phase }], guard := none }) rfl (fun K hK => ?_) AllReadyH.nil
                obtain ⟨z0, z1⟩ := get2 HZ.out
                have fz0 := HZ.out.frozen 0
                have fz1 := HZ.out.frozen 1
                have FIN : Hid _ := got_fin hC hYw HO.out HZ.out ⟨HZB.out.1, HZB.out.2.1⟩ HRR.out HOW.out
                go_simp
                refine hK.out _ _ (by obtain ⟨_, _, _, _, _, _, ho, _⟩ := FIN.out; exact ho.box) (fun hB => ?_)
                clear hK K hB
                try simp only [Act.put, List.setIfInBounds_toArray, List.set_cons_zero, List.set_cons_succ]
                clear z0 z1 fz0 fz1
                refine wpAnyH_take (i := 9) (oi := { dst := some 9, op := Op.assign (Operand.tmp 43), type := 4, pos := _, after := #[{ on := 6, ground := Ground.data }, { on := 8, ground := Ground.chain }, { on := 0, ground := Ground.phase }, { on := 1, ground := Ground.phase }, { on := 2, ground := Ground.phase }, { on := 3, ground := Ground.phase }, { on := 4, ground := Ground.phase }, { on := 5, ground := Ground.phase }, { on := 6, ground := Ground.phase }, { on := 7, ground := Ground.phase }, { on := 8, ground := Ground.phase }], guard := none }) (v := (.bool r3)) rfl (by kernel_rfl) (by kernel_rfl) (by kernel_rfl) (fun _ _ _ h => h) (Or.inl ⟨by rfl, fun w' hS => by (try dsimp only at hS); go_simp⟩) (by obtain ⟨_, _, _, _, _, _, ho, _⟩ := FIN.out; exact ho.box) ?_
                simp only [Act.put, List.setIfInBounds_toArray, List.set_cons_zero, List.set_cons_succ]
                refine wpAnyH_done (by kernel_rfl) ?_ _
                refine NoPanic.normal ?_
                go_wp2_with fail
                go_meet
                exact FIN.out
            · go_simp
              have HZ : Hid (Row (wd.alloc (.cells #[.slice none 0 0, .slice none 0 0] 26)) wd.heap.size 2 (fun i => if i = 0 then .slice none 0 0 else .slice none 0 0)) := box2 wd _ _ 26
              have HZB : Hid (wd.heap.size ≠ zs ∧ w.heap.size < wd.heap.size ∧ C < wd.heap.size) := by have := HO.out.zl; show _ ∧ _ ∧ _; omega
              replace HO : Hid (TA Y w (wd.alloc (.cells #[.slice none 0 0, .slice none 0 0] 26)) C (kk + 2 + 2 + 2) zs (OnE wd.heap.size) b4 c4 kn p4 m4) := HO.out.alloc _
              refine hK.out _ _ HO.out.box (fun hB => ?_)
              clear hK K hB
              try simp only [Act.put, List.setIfInBounds_toArray, List.set_cons_zero, List.set_cons_succ]
              generalize wd.alloc (.cells #[.slice none 0 0, .slice none 0 0] 26) = wA at *
              generalize wd.heap.size = zb at *
              refine wpAnyH_ready (rs := [2]) (by kernel_rfl) (by simp) ?_
              refine AllReadyH.cons (o := { dst := some 40, op := Op.call { callee := Callee.value (Operand.func 50), args := #[Operand.tmp 39, Operand.const (Value.int IntKind.i64 16)], argTypes := #[69, 3] }, type := 3, pos := _, after := #[{ on := 1, ground := Ground.data }], guard := none }) rfl (fun K hK => ?_) AllReadyH.nil
              go_simp
              refine (pick_any Y C (kk + 2 + 2 + 2) 16 _ (by omega) (by omega) HO.out.cur).mono ?_
              rintro e wn ⟨x0, rfl, hx0, hc, hm⟩
              have hwx0 := wrap1 x0 (by omega)
              replace HO : Hid (TA Y w wn C (kk + 2 + 2 + 2 + 2) zs (OnE zb) b4 c4 kn p4 m4) := HO.out.go hC hc hm
              replace HZ : Hid (Row wn zb 2 (fun i => if i = 0 then .slice none 0 0 else .slice none 0 0)) := HZ.out.mod hm (by have := HZB.out; omega)
              clear hc hm
              refine hK.out _ _ HO.out.box (fun hB => ?_)
              clear hK K hB
              try simp only [Act.put, List.setIfInBounds_toArray, List.set_cons_zero, List.set_cons_succ]
              refine wpAnyH_ready (rs := [3]) (by kernel_rfl) (by simp) ?_
              refine AllReadyH.cons (o := { dst := some 41, op := Op.call { callee := Callee.value (Operand.func 23), args := #[Operand.tmp 38, Operand.tmp 40], argTypes := #[26, 3] }, type := 29, pos := _, after := #[{ on := 0, ground := Ground.data }, { on := 2, ground := Ground.data }, { on := 2, ground := Ground.chain }], guard := none }) rfl (fun K hK => ?_) AllReadyH.nil
              go_simp
              refine (specUnmap_any b4 (T4 c4 kn p4 m4) (x0 : Int) _ _ (by show 4 ≤ _; omega) HO.out.own.at).mono ?_
              rintro e wn ⟨b3, R, r3, rfl, ho3, hs3, own3, hbk⟩
              have HRR : Hid (r3 = true → ∃ c' p' m', R = T4 c' kn p' m') := ch_shape ho3
              have hzl := HO.out.zl
              have hsz := hbk.size
              have hzz := HZ.out.lt
              replace HZ : Hid (Row wn zb 2 (fun i => if i = 0 then .slice none 0 0 else .slice none 0 0)) := HZ.out.blw hbk
              have HOW : Hid (BookOwn (fun x => w.heap.size < x ∧ x < wn.heap.size ∧ x ≠ zs ∧ ¬ OnE zb x) wn b3 R) := own3.mono (fun x hx => ⟨by omega, hx.2, by omega, fun e => by have e' : x = zb := e; omega⟩)
              replace HO : Hid (TA Y w wn C (kk + 2 + 2 + 2 + 2) zs (OnE zb) b4 c4 kn p4 m4) := HO.out.blw hbk
              clear ho3 hs3 own3 hbk hzl hsz hzz
              refine hK.out _ _ HO.out.box (fun hB => ?_)
              clear hK K hB
              try simp only [Act.put, List.setIfInBounds_toArray, List.set_cons_zero, List.set_cons_succ]
              refine wpAnyH_take (i := 4) (oi := { dst := some 37, op := Op.move (Operand.tmp 41), type := 29, pos := _, after := #[{ on := 3, ground := Ground.data }], guard := none }) (v := (.tuple #[b3.val R, .bool r3])) rfl (by kernel_rfl) (by kernel_rfl) (by kernel_rfl) (fun _ _ _ h => h) (Or.inl ⟨by rfl, fun w' hS => by (try dsimp only at hS); go_simp⟩) HO.out.box ?_
              simp only [Act.put, List.setIfInBounds_toArray, List.set_cons_zero, List.set_cons_succ]
              refine wpAnyH_take (i := 5) (oi := { dst := some 42, op := Op.extract (Operand.tmp 37) 0, type := 26, pos := _, after := #[{ on := 4, ground := Ground.data }], guard := none }) (v := (.agg #[.slice b3.a1 R.n b3.c1, .slice b3.a2 R.D.n b3.c2])) rfl (by kernel_rfl) (by kernel_rfl) (by kernel_rfl) (fun _ _ _ h => h) (Or.inl ⟨by rfl, fun w' hS => by (try dsimp only at hS); go_simp⟩) HO.out.box ?_
              simp only [Act.put, List.setIfInBounds_toArray, List.set_cons_zero, List.set_cons_succ]
              refine wpAnyH_take (i := 6) (oi := { dst := some 43, op := Op.extract (Operand.tmp 37) 1, type := 4, pos := _, after := #[{ on := 4, ground := Ground.data }, { on := 8, ground := Ground.gcOnly Departure.lateStores }], guard := none }) (v := (.bool r3)) rfl (by kernel_rfl) (by kernel_rfl) (by kernel_rfl) (fun _ _ _ h => h) (Or.inl ⟨by rfl, fun w' hS => by (try dsimp only at hS); go_simp⟩) HO.out.box ?_
              simp only [Act.put, List.setIfInBounds_toArray, List.set_cons_zero, List.set_cons_succ]
              refine wpAnyH_ready (rs := [8]) (by kernel_rfl) (by simp) ?_
              refine AllReadyH.cons (o := { dst := none, op := Op.store 26 (Operand.tmp 8) (Operand.tmp 42), type := 0, pos := _, after := #[{ on := 7, ground := Ground.data }, { on := 5, ground := Ground.data }, { on := 3, ground := Ground.chain }, { on := 0, ground := Ground.phase }, { on := 1, ground := Ground.phase }, { on := 2, ground := Ground.phase }, { on := 3, ground := Ground.phase }, { on := 4, ground := Ground.phase }, { on := 5, ground := Ground.phase }, { on := 6, ground := Ground.textOnly Departure.lateStores }, { on := 7, ground := Ground.phase }], guard := none }) rfl (fun K hK => ?_) AllReadyH.nil
              obtain ⟨z0, z1⟩ := get2 HZ.out
              have fz0 := HZ.out.frozen 0
              have fz1 := HZ.out.frozen 1
              have FIN : Hid _ := got_fin hC hYw HO.out HZ.out ⟨HZB.out.1, HZB.out.2.1⟩ HRR.out HOW.out
              go_simp
              refine hK.out _ _ (by obtain ⟨_, _, _, _, _, _, ho, _⟩ := FIN.out; exact ho.box) (fun hB => ?_)
              clear hK K hB
              try simp only [Act.put, List.setIfInBounds_toArray, List.set_cons_zero, List.set_cons_succ]
              clear z0 z1 fz0 fz1
              refine wpAnyH_take (i := 9) (oi := { dst := some 9, op := Op.assign (Operand.tmp 43), type := 4, pos := _, after := #[{ on := 6, ground := Ground.data }, { on := 8, ground := Ground.chain }, { on := 0, ground := Ground.phase }, { on := 1, ground := Ground.phase }, { on := 2, ground := Ground.phase }, { on := 3, ground := Ground.phase }, { on := 4, ground := Ground.phase }, { on := 5, ground := Ground.phase }, { on := 6, ground := Ground.phase }, { on := 7, ground := Ground.phase }, { on := 8, ground := Ground.phase }], guard := none }) (v := (.bool r3)) rfl (by kernel_rfl) (by kernel_rfl) (by kernel_rfl) (fun _ _ _ h => h) (Or.inl ⟨by rfl, fun w' hS => by (try dsimp only at hS); go_simp⟩) (by obtain ⟨_, _, _, _, _, _, ho, _⟩ := FIN.out; exact ho.box) ?_
              simp only [Act.put, List.setIfInBounds_toArray, List.set_cons_zero, List.set_cons_succ]
              refine wpAnyH_done (by kernel_rfl) ?_ _
              refine NoPanic.normal ?_
              go_wp2_with fail
              go_meet
              exact FIN.out
          case rest =>
            clear HO P0 P1
            obtain ⟨zb, b3, R, r, rfl, rfl, ho, hzb, hne, hlo, hr, own⟩ := hcut
            have HOZ : Hid (w.heap.size < zb) := hlo
            have HO : Hid (TA Y w wc C (kk + 2 + 2 + 2 + 2) zs NoE b4 c4 kn p4 m4) := ho
            have HZ : Hid (Row wc zb 2 (bx2 b3 R.n R.D.n)) := hzb
            have HR : Hid (r = true → ∃ c' p' m', R = T4 c' kn p' m') := hr
            have HOO : Hid (BookOwn (fun x => w.heap.size < x ∧ x < wc.heap.size ∧ x ≠ zs) wc b3 R) := own
            clear ho hzb hr own hlo
            cases r
            · have FIN : Hid (Tw Y w wc C (kk + 2 + 2 + 2 + 2) zs) := ⟨_, _, _, _, _, HO.out⟩
              obtain ⟨b9, c9, kn9, p9, m9, ho9⟩ := FIN.out
              have HFN : Hid (Tw Y w _ C (k + 4 + 10 * (8 - (i - 1))) zs) := ⟨b9, c9, kn9, p9, m9, ho9.le (by have := HKK.out; omega)⟩
              clear ho9 FIN HZ HO HR HOO
              go_wp2
              go_roundw
              case rel => exact ⟨i - 1, by omega, by congr 1; omega, HFN.out⟩
              case measure => simp [intOf]; omega
            · go_wp2_with fail
              refine (one_any Y C (kk + 2 + 2 + 2 + 2) 3 _ (by omega) (by omega) HO.out.cur).mono ?_
              rintro e w9 ⟨ro, rfl, hc, hm⟩
              replace HZ : Hid (Row w9 zb 2 (bx2 b3 R.n R.D.n)) := HZ.out.mod hm (by have := HOZ.out; omega)
              replace HOO : Hid (BookOwn (fun x => w.heap.size < x ∧ x < w9.heap.size ∧ x ≠ zs) w9 b3 R) := (HOO.out.mod hm (fun x hx e => by omega)).mono (fun x hx => ⟨hx.1, by have := hm.size; omega, hx.2.2⟩)
              replace HO : Hid (TA Y w w9 C (kk + 2 + 2 + 2 + 2 + 2) zs NoE b4 c4 kn p4 m4) := HO.out.go hC hc hm
              clear hc hm
              cases ro
              · have FIN : Hid (Tw Y w w9 C (kk + 2 + 2 + 2 + 2 + 2) zs) := ⟨_, _, _, _, _, HO.out⟩
                obtain ⟨b9, c9, kn9, p9, m9, ho9⟩ := FIN.out
                have HFN : Hid (Tw Y w _ C (k + 4 + 10 * (8 - (i - 1))) zs) := ⟨b9, c9, kn9, p9, m9, ho9.le (by have := HKK.out; omega)⟩
                clear ho9 FIN HZ HO HR HOO
                go_wp2
                go_roundw
                case rel => exact ⟨i - 1, by omega, by congr 1; omega, HFN.out⟩
                case measure => simp [intOf]; omega
              · obtain ⟨z0, z1⟩ := get2 HZ.out
                obtain ⟨t0, t1⟩ := get2 HO.out.box
                have f0 := HO.out.box.frozen 0
                have f1 := HO.out.box.frozen 1
                have FIN : Hid _ := got_yes hC hYw HO.out (HR.out (by first | rfl | trivial)) HOO.out
                obtain ⟨b9, c9, kn9, p9, m9, ho9⟩ := FIN.out
                have HFN : Hid (Tw Y w _ C (k + 4 + 10 * (8 - (i - 1))) zs) := ⟨b9, c9, kn9, p9, m9, ho9.le (by have := HKK.out; omega)⟩
                clear ho9 FIN HZ HO HR HOO
                go_wp2
                go_roundw
                case rel => exact ⟨i - 1, by omega, by congr 1; omega, HFN.out⟩
                case measure => simp [intOf]; omega
    · obtain rfl : i = 0 := by omega
      obtain ⟨b4, c4, kn, p4, m4, ho4⟩ := HOW0.out
      go_wp2_with fail
      refine (pick_any Y C (k + 4 + 10 * (8 - 0)) 30 _ (by omega) (by omega) ho4.cur).mono ?_
      rintro e w5 ⟨x, rfl, hx30, hc5, hm5⟩
      have HO : Hid (TA Y w w5 C (k + 4 + 10 * (8 - 0) + 2) zs NoE b4 c4 kn p4 m4) := ho4.go hC hc5 hm5
      clear HOW0 ho4 hc5 hm5
      obtain ⟨a1, a2, q1, q2⟩ := b4
      by_cases x0 : x = 0
      · subst x0
        obtain ⟨y, ea, hy, -⟩ := table_owned HO.out.own 0
        dsimp only at ea
        subst ea
        have P0 : ∀ w', Row w' zs 2 (bx2 ⟨some ⟨y, 0, none⟩, a2, q1, q2⟩ 4 kn) → w'.cell? ⟨zs, 0, none⟩ = some (.slice (some ⟨y, 0, none⟩) 4 q1) := fun w' hh => (get2 hh).1
        have P1 : ∀ w', Row w' zs 2 (bx2 ⟨some ⟨y, 0, none⟩, a2, q1, q2⟩ 4 kn) → w'.cell? ⟨zs, 1, none⟩ = some (.slice a2 kn q2) := fun w' hh => (get2 hh).2
        go_upto_region 13 with fail
        replace HO : Hid (TA Y w w5.drew C (k + 4 + 10 * (8 - 0) + 2) zs NoE ⟨some ⟨y, 0, none⟩, a2, q1, q2⟩ c4 kn p4 m4) := HO.out.blw (Blw.refl _).drew
        refine wp_region_noPanic ?_
        refine wp_region_held_drew (S := fun w' => Row w' zs 2 (bx2 ⟨some ⟨y, 0, none⟩, a2, q1, q2⟩ 4 kn)) (by kernel_rfl) HO.out.box (fun hB => ?_)
        clear hB
        generalize w5.drew = wd at *
        refine wpAnyH_take (i := 0) (oi := { dst := some 54, op := Op.fieldAddr 26 (Operand.tmp 3) 0, type := 0, pos := _, after := #[], guard := none }) (v := (.pointer (some ⟨zs, 0, none⟩))) rfl (by kernel_rfl) (by kernel_rfl) (by kernel_rfl) (fun _ _ _ h => h) (Or.inl ⟨by rfl, fun w' hS => by (try dsimp only at hS); go_simp⟩) HO.out.box ?_
        simp only [Act.put, List.setIfInBounds_toArray, List.set_cons_zero, List.set_cons_succ]
        refine wpAnyH_take (i := 2) (oi := { dst := some 56, op := Op.move (Operand.tmp 0), type := 69, pos := _, after := #[], guard := none }) (v := (.pointer (some ⟨C, 0, none⟩))) rfl (by kernel_rfl) (by kernel_rfl) (by kernel_rfl) (fun _ _ _ h => h) (Or.inl ⟨by rfl, fun w' hS => by (try dsimp only at hS); go_simp⟩) HO.out.box ?_
        simp only [Act.put, List.setIfInBounds_toArray, List.set_cons_zero, List.set_cons_succ]
        refine wpAnyH_take (i := 1) (oi := { dst := some 55, op := Op.load 23 (Operand.tmp 54), type := 23, pos := _, after := #[{ on := 0, ground := Ground.data }], guard := none }) (v := (.slice (some ⟨y, 0, none⟩) 4 q1)) rfl (by kernel_rfl) (by kernel_rfl) (by kernel_rfl) (fun _ _ _ h => h) (Or.inl ⟨by rfl, fun w' hS => by (try dsimp only at hS); go_simp⟩) HO.out.box ?_
        simp only [Act.put, List.setIfInBounds_toArray, List.set_cons_zero, List.set_cons_succ]
        refine wpAnyH_ready (rs := [3]) (by kernel_rfl) (by simp) ?_
        refine AllReadyH.cons (o := { dst := some 57, op := Op.buildSlice 23 3 #[(0, Operand.const (Value.int IntKind.i64 (-2))), (1, Operand.const (Value.int IntKind.i64 3)), (2, Operand.const (Value.int IntKind.i64 4))], type := 23, pos := _, after := #[], guard := none }) rfl (fun K hK => ?_) AllReadyH.nil
        have HI3 : Hid (IntsAt (fun b => b = wd.heap.size) (wd.alloc (.cells #[.int .i64 (-2), .int .i64 3, .int .i64 4] 3)) (some ⟨wd.heap.size, 0, none⟩) 3 (fun i => if i = 0 then -2 else if i = 1 then 3 else 4)) := by
          have r3 := box3 wd (.int .i64 (-2)) (.int .i64 3) (.int .i64 4) 3
          refine ⟨by omega, fun i hi => ⟨wd.heap.size, 0, rfl, rfl, ?_⟩⟩
          rw [Nat.zero_add, r3.cell hi]
          match i, hi with
          | 0, _ => rfl
          | 1, _ => rfl
          | 2, _ => rfl
        have HCW : Hid (C < wd.heap.size) := by have := HO.out.mod.size; show _ < _; omega
        replace HO : Hid (TA Y w (wd.alloc (.cells #[.int .i64 (-2), .int .i64 3, .int .i64 4] 3)) C (k + 4 + 10 * (8 - 0) + 2) zs NoE ⟨some ⟨y, 0, none⟩, a2, q1, q2⟩ c4 kn p4 m4) := HO.out.blw ((Blw.refl _).alloc _)
        go_simp
        refine hK.out _ _ HO.out.box (fun hB => ?_)
        clear hK K hB
        try simp only [Act.put, List.setIfInBounds_toArray, List.set_cons_zero, List.set_cons_succ]
        generalize (wd.alloc (.cells #[.int .i64 (-2), .int .i64 3, .int .i64 4] 3)) = wA at *
        refine wpAnyH_ready (rs := [4]) (by kernel_rfl) (by simp) ?_
        refine AllReadyH.cons (o := { dst := some 58, op := Op.call { callee := Callee.value (Operand.func 51), args := #[Operand.tmp 56, Operand.tmp 57], argTypes := #[69, 23] }, type := 3, pos := _, after := #[{ on := 2, ground := Ground.data }, { on := 3, ground := Ground.data }], guard := none }) rfl (fun K hK => ?_) AllReadyH.nil
        go_simp
        refine (among_any Y _ C (k + 4 + 10 * (8 - 0) + 2) _ 3 3 _ _ (by omega) (by omega) HI3.out (fun b hb => by have := HCW.out; omega) HO.out.cur).mono ?_
        rintro e w6 ⟨xa, rfl, hc6, hm6⟩
        replace HO : Hid (TA Y w w6 C (k + 4 + 10 * (8 - 0) + 2 + 2) zs NoE ⟨some ⟨y, 0, none⟩, a2, q1, q2⟩ c4 kn p4 m4) := HO.out.go hC hc6 hm6
        clear hc6 hm6 HI3 HCW
        refine hK.out _ _ HO.out.box (fun hB => ?_)
        clear hK K hB
        try simp only [Act.put, List.setIfInBounds_toArray, List.set_cons_zero, List.set_cons_succ]
        refine wpAnyH_take (i := 5) (oi := { dst := some 59, op := Op.indexAddr 23 (Operand.tmp 55) (Operand.const (Value.int IntKind.i64 0)), type := 0, pos := _, after := #[{ on := 1, ground := Ground.data }, { on := 0, ground := Ground.phase }, { on := 1, ground := Ground.phase }, { on := 2, ground := Ground.phase }, { on := 3, ground := Ground.phase }, { on := 4, ground := Ground.phase }], guard := none }) (v := (.pointer (some ⟨y, 0, none⟩))) rfl (by kernel_rfl) (by kernel_rfl) (by kernel_rfl) (fun _ _ _ h => h) (Or.inl ⟨by rfl, fun w' hS => by (try dsimp only at hS); go_simp⟩) HO.out.box ?_
        simp only [Act.put, List.setIfInBounds_toArray, List.set_cons_zero, List.set_cons_succ]
        refine wpAnyH_ready (rs := [6]) (by kernel_rfl) (by simp) ?_
        refine AllReadyH.cons (o := { dst := none, op := Op.store 3 (Operand.tmp 59) (Operand.tmp 58), type := 0, pos := _, after := #[{ on := 5, ground := Ground.data }, { on := 4, ground := Ground.data }, { on := 4, ground := Ground.chain }, { on := 0, ground := Ground.phase }, { on := 1, ground := Ground.phase }, { on := 2, ground := Ground.phase }, { on := 3, ground := Ground.phase }, { on := 4, ground := Ground.phase }], guard := none }) rfl (fun K hK => ?_) AllReadyH.nil
        obtain ⟨y', ea, hy2, hcell, hfr, hnew⟩ := table_owned HO.out.own xa
        cases ea
        replace HO : Hid (TA Y w (w6.setCell ⟨y, 0, none⟩ (.int .i64 xa)) C (k + 4 + 10 * (8 - 0) + 2 + 2) zs NoE ⟨some ⟨y, 0, none⟩, a2, q1, q2⟩ (upd c4 0 xa) kn p4 m4) := HO.out.put hC hYw ⟨hy2.1, hy2.2.1, hy2.2.2.1⟩ (Mod.setCell (X := fun z => z = y) _ (p := ⟨y, 0, none⟩) rfl _) hnew
        clear hnew hy2 hy
        go_simp
        refine hK.out _ _ HO.out.box (fun hB => ?_)
        clear hK K hB
        try simp only [Act.put, List.setIfInBounds_toArray, List.set_cons_zero, List.set_cons_succ]
        clear hcell hfr P0 P1
        refine wpAnyH_done (by kernel_rfl) ?_ _
        refine NoPanic.normal ?_
        generalize w6.setCell ⟨y, 0, none⟩ (.int .i64 xa) = w7 at *
        obtain ⟨g0, g1⟩ := get2 HO.out.box
        obtain ⟨t0, t1⟩ := get2 HO.out.out
        have f0 := HO.out.out.frozen 0
        have f1 := HO.out.out.frozen 1
        have hkn := HO.out.kn
        have HKN : Hid (1 ≤ kn ∧ kn ≤ 4) := hkn
        have FIN : Hid _ := tw_fin (K := k + 400) hC hYw HO.out (by omega)
        clear HO hkn
        go_wp2
        exact bodyPost_ret (v := .agg #[.slice (some ⟨y, 0, none⟩) 4 q1, .slice a2 kn q2]) (by simp [results, Try.results49, go_sem, t0, t1, BV.val]) rfl ⟨⟨some ⟨y, 0, none⟩, a2, q1, q2⟩, _, _, _, _, rfl, HKN.out, FIN.out⟩
      · have d0 : ((x : Int) == 0) = false := by simp; omega
        by_cases x1 : x = 1
        · subst x1
          obtain ⟨bl, A, Cc, gb, ea, -⟩ := table_leaf HO.out.kn.1 HO.out.own
          dsimp only at ea
          subst ea
          have P1 : ∀ w', Row w' zs 2 (bx2 ⟨a1, some ⟨bl, 0, none⟩, q1, q2⟩ 4 kn) → w'.cell? ⟨zs, 1, none⟩ = some (.slice (some ⟨bl, 0, none⟩) kn q2) := fun w' hh => (get2 hh).2
          have P0 : ∀ w', Row w' zs 2 (bx2 ⟨a1, some ⟨bl, 0, none⟩, q1, q2⟩ 4 kn) → w'.cell? ⟨zs, 0, none⟩ = some (.slice a1 4 q1) := fun w' hh => (get2 hh).1
          clear A Cc gb
          go_upto_region 15 with fail
          replace HO : Hid (TA Y w w5.drew C (k + 4 + 10 * (8 - 0) + 2) zs NoE ⟨a1, some ⟨bl, 0, none⟩, q1, q2⟩ c4 kn p4 m4) := HO.out.blw (Blw.refl _).drew
          obtain ⟨bl', A, Cc, gb, ea, hls, hX, hXl, hne, -⟩ := table_leaf HO.out.kn.1 HO.out.own
          cases ea
          have hkn1 := HO.out.kn.1
          have hkn1' : (0 : Int) < (kn : Int) := by omega
          have hkn0 : ¬ kn = 0 := by omega
          have HLS : Hid (w5.drew.cell? ⟨bl, 0, none⟩ = some (.slice (some ⟨gb, 0, none⟩) 4 Cc)) := hls
          have HXL : Hid (bl ≠ C ∧ bl ≠ gb ∧ gb ≠ zs ∧ bl < w5.drew.heap.size) := by show _ ∧ _ ∧ _ ∧ _; exact ⟨by omega, fun e => hne e.symm, hX.2.2.1, hXl.2.1⟩
          have PL : ∀ w', (Row w' zs 2 (bx2 ⟨a1, some ⟨bl, 0, none⟩, q1, q2⟩ 4 kn) ∧ w'.cell? ⟨bl, 0, none⟩ = some (.slice (some ⟨gb, 0, none⟩) 4 Cc)) → w'.cell? ⟨zs, 1, none⟩ = some (.slice (some ⟨bl, 0, none⟩) kn q2) := fun w' hh => (get2 hh.1).2
          have PM : ∀ w', (Row w' zs 2 (bx2 ⟨a1, some ⟨bl, 0, none⟩, q1, q2⟩ 4 kn) ∧ w'.cell? ⟨bl, 0, none⟩ = some (.slice (some ⟨gb, 0, none⟩) 4 Cc)) → w'.cell? ⟨bl, 0, none⟩ = some (.slice (some ⟨gb, 0, none⟩) 4 Cc) := fun w' hh => hh.2
          clear hls hX hXl hne A
          refine wp_region_noPanic ?_
          refine wp_region_held_drew (S := fun w' => Row w' zs 2 (bx2 ⟨a1, some ⟨bl, 0, none⟩, q1, q2⟩ 4 kn) ∧ w'.cell? ⟨bl, 0, none⟩ = some (.slice (some ⟨gb, 0, none⟩) 4 Cc)) (by kernel_rfl) (And.intro HO.out.box HLS.out) (fun hB => ?_)
          clear hB
          generalize w5.drew = wd at *
          refine wpAnyH_take (i := 0) (oi := { dst := some 62, op := Op.fieldAddr 26 (Operand.tmp 3) 1, type := 0, pos := _, after := #[], guard := none }) (v := (.pointer (some ⟨zs, 1, none⟩))) rfl (by kernel_rfl) (by kernel_rfl) (by kernel_rfl) (fun _ _ _ h => h) (Or.inl ⟨by rfl, fun w' hS => by (try dsimp only at hS); go_simp⟩) (And.intro HO.out.box HLS.out) ?_
          simp only [Act.put, List.setIfInBounds_toArray, List.set_cons_zero, List.set_cons_succ]
          refine wpAnyH_take (i := 4) (oi := { dst := some 66, op := Op.move (Operand.tmp 0), type := 69, pos := _, after := #[], guard := none }) (v := (.pointer (some ⟨C, 0, none⟩))) rfl (by kernel_rfl) (by kernel_rfl) (by kernel_rfl) (fun _ _ _ h => h) (Or.inl ⟨by rfl, fun w' hS => by (try dsimp only at hS); go_simp⟩) (And.intro HO.out.box HLS.out) ?_
          simp only [Act.put, List.setIfInBounds_toArray, List.set_cons_zero, List.set_cons_succ]
          refine wpAnyH_take (i := 6) (oi := { dst := some 68, op := Op.move (Operand.tmp 0), type := 69, pos := _, after := #[], guard := none }) (v := (.pointer (some ⟨C, 0, none⟩))) rfl (by kernel_rfl) (by kernel_rfl) (by kernel_rfl) (fun _ _ _ h => h) (Or.inl ⟨by rfl, fun w' hS => by (try dsimp only at hS); go_simp⟩) (And.intro HO.out.box HLS.out) ?_
          simp only [Act.put, List.setIfInBounds_toArray, List.set_cons_zero, List.set_cons_succ]
          refine wpAnyH_take (i := 1) (oi := { dst := some 63, op := Op.load 24 (Operand.tmp 62), type := 24, pos := _, after := #[{ on := 0, ground := Ground.data }], guard := none }) (v := (.slice (some ⟨bl, 0, none⟩) kn q2)) rfl (by kernel_rfl) (by kernel_rfl) (by kernel_rfl) (fun _ _ _ h => h) (Or.inl ⟨by rfl, fun w' hS => by (try dsimp only at hS); go_simp⟩) (And.intro HO.out.box HLS.out) ?_
          simp only [Act.put, List.setIfInBounds_toArray, List.set_cons_zero, List.set_cons_succ]
          refine wpAnyH_take (i := 2) (oi := { dst := some 64, op := Op.indexAddr 24 (Operand.tmp 63) (Operand.const (Value.int IntKind.i64 0)), type := 0, pos := _, after := #[{ on := 1, ground := Ground.data }], guard := none }) (v := (.pointer (some ⟨bl, 0, none⟩))) rfl (by kernel_rfl) (by kernel_rfl) (by kernel_rfl) (fun _ _ _ h => h) (Or.inl ⟨by rfl, fun w' hS => by (try dsimp only at hS); go_simp⟩) (And.intro HO.out.box HLS.out) ?_
          simp only [Act.put, List.setIfInBounds_toArray, List.set_cons_zero, List.set_cons_succ]
          refine wpAnyH_take (i := 3) (oi := { dst := some 65, op := Op.load 83 (Operand.tmp 64), type := 83, pos := _, after := #[{ on := 2, ground := Ground.data }], guard := none }) (v := (.slice (some ⟨gb, 0, none⟩) 4 Cc)) rfl (by kernel_rfl) (by kernel_rfl) (by kernel_rfl) (fun _ _ _ h => h) (Or.inl ⟨by rfl, fun w' hS => by (try dsimp only at hS); go_simp⟩) (And.intro HO.out.box HLS.out) ?_
          simp only [Act.put, List.setIfInBounds_toArray, List.set_cons_zero, List.set_cons_succ]
          refine wpAnyH_ready (rs := [5]) (by kernel_rfl) (by simp) ?_
          refine AllReadyH.cons (o := { dst := some 67, op := Op.call { callee := Callee.value (Operand.func 50), args := #[Operand.tmp 66, Operand.const (Value.int IntKind.i64 18)], argTypes := #[69, 3] }, type := 3, pos := _, after := #[{ on := 4, ground := Ground.data }], guard := none }) rfl (fun K hK => ?_) AllReadyH.nil
          go_simp
          refine (pick_any Y C (k + 4 + 10 * (8 - 0) + 2) 18 _ (by omega) (by omega) HO.out.cur).mono ?_
          rintro e w6 ⟨x3, rfl, hx3, hc, hm⟩
          replace HO : Hid (TA Y w w6 C (k + 4 + 10 * (8 - 0) + 2 + 2) zs NoE ⟨a1, some ⟨bl, 0, none⟩, q1, q2⟩ c4 kn p4 m4) := HO.out.go hC hc hm
          replace HLS : Hid (w6.cell? ⟨bl, 0, none⟩ = some (.slice (some ⟨gb, 0, none⟩) 4 Cc)) := hm.cell HLS.out HXL.out.1
          clear hc hm
          refine hK.out _ _ (And.intro HO.out.box HLS.out) (fun hB => ?_)
          clear hK K hB
          try simp only [Act.put, List.setIfInBounds_toArray, List.set_cons_zero, List.set_cons_succ]
          refine wpAnyH_ready (rs := [7]) (by kernel_rfl) (by simp) ?_
          refine AllReadyH.cons (o := { dst := some 69, op := Op.call { callee := Callee.value (Operand.func 50), args := #[Operand.tmp 68, Operand.const (Value.int IntKind.i64 5)], argTypes := #[69, 3] }, type := 3, pos := _, after := #[{ on := 6, ground := Ground.data }, { on := 5, ground := Ground.chain }], guard := none }) rfl (fun K hK => ?_) AllReadyH.nil
          go_simp
          refine (pick_any Y C (k + 4 + 10 * (8 - 0) + 2 + 2) 5 _ (by omega) (by omega) HO.out.cur).mono ?_
          rintro e w7 ⟨x4, rfl, hx4, hc, hm⟩
          replace HO : Hid (TA Y w w7 C (k + 4 + 10 * (8 - 0) + 2 + 2 + 2) zs NoE ⟨a1, some ⟨bl, 0, none⟩, q1, q2⟩ c4 kn p4 m4) := HO.out.go hC hc hm
          replace HLS : Hid (w7.cell? ⟨bl, 0, none⟩ = some (.slice (some ⟨gb, 0, none⟩) 4 Cc)) := hm.cell HLS.out HXL.out.1
          clear hc hm
          refine hK.out _ _ (And.intro HO.out.box HLS.out) (fun hB => ?_)
          clear hK K hB
          try simp only [Act.put, List.setIfInBounds_toArray, List.set_cons_zero, List.set_cons_succ]
          refine wpAnyH_take (i := 8) (oi := { dst := some 70, op := Op.build 78 #[(0, Operand.tmp 67), (1, Operand.tmp 69)], type := 78, pos := _, after := #[{ on := 5, ground := Ground.data }, { on := 7, ground := Ground.data }], guard := none }) (v := (.agg #[.int .i64 x3, .int .i64 x4])) rfl (by kernel_rfl) (by kernel_rfl) (by kernel_rfl) (fun _ _ _ h => h) (Or.inl ⟨by rfl, fun w' hS => by (try dsimp only at hS); go_simp⟩) (And.intro HO.out.box HLS.out) ?_
          simp only [Act.put, List.setIfInBounds_toArray, List.set_cons_zero, List.set_cons_succ]
          refine wpAnyH_take (i := 9) (oi := { dst := some 71, op := Op.indexAddr 83 (Operand.tmp 65) (Operand.const (Value.int IntKind.i64 0)), type := 0, pos := _, after := #[{ on := 3, ground := Ground.data }, { on := 0, ground := Ground.phase }, { on := 1, ground := Ground.phase }, { on := 2, ground := Ground.phase }, { on := 3, ground := Ground.phase }, { on := 4, ground := Ground.phase }, { on := 5, ground := Ground.phase }, { on := 6, ground := Ground.phase }, { on := 7, ground := Ground.phase }, { on := 8, ground := Ground.phase }], guard := none }) (v := (.pointer (some ⟨gb, 0, none⟩))) rfl (by kernel_rfl) (by kernel_rfl) (by kernel_rfl) (fun _ _ _ h => h) (Or.inl ⟨by rfl, fun w' hS => by (try dsimp only at hS); go_simp⟩) (And.intro HO.out.box HLS.out) ?_
          simp only [Act.put, List.setIfInBounds_toArray, List.set_cons_zero, List.set_cons_succ]
          refine wpAnyH_ready (rs := [10]) (by kernel_rfl) (by simp) ?_
          refine AllReadyH.cons (o := { dst := none, op := Op.store 78 (Operand.tmp 71) (Operand.tmp 70), type := 0, pos := _, after := #[{ on := 9, ground := Ground.data }, { on := 8, ground := Ground.data }, { on := 7, ground := Ground.chain }, { on := 0, ground := Ground.phase }, { on := 1, ground := Ground.phase }, { on := 2, ground := Ground.phase }, { on := 3, ground := Ground.phase }, { on := 4, ground := Ground.phase }, { on := 5, ground := Ground.phase }, { on := 6, ground := Ground.phase }, { on := 7, ground := Ground.phase }, { on := 8, ground := Ground.phase }], guard := none }) rfl (fun K hK => ?_) AllReadyH.nil
          obtain ⟨bl2, A2, C2, gb2, ea2, hls2, hX2, hXl2, hne2, -, l0, l1, f0, f1, hnew⟩ := table_leaf HO.out.kn.1 HO.out.own
          cases ea2
          have hgb : gb2 = gb := by have h1 := HLS.out; rw [hls2] at h1; simp only [Option.some.injEq, Value.slice.injEq, Addr.mk.injEq] at h1; exact h1.1.1
          subst hgb
          have ms : Mod (fun z => z = gb2) w7 ((w7.setCell ⟨gb2, 0, none⟩ (.int .i64 x3)).setCell ⟨gb2, 1, none⟩ (.int .i64 x4)) := set2_mod (X := fun z => z = gb2) w7 rfl _ _
          replace HO : Hid (TA Y w ((w7.setCell ⟨gb2, 0, none⟩ (.int .i64 x3)).setCell ⟨gb2, 1, none⟩ (.int .i64 x4)) C (k + 4 + 10 * (8 - 0) + 2 + 2 + 2) zs NoE ⟨a1, some ⟨bl, 0, none⟩, q1, q2⟩ c4 kn (upd2 p4 0 0 x3) (upd2 m4 0 0 x4)) := HO.out.put hC hYw ⟨hX2.1, hX2.2.1, hX2.2.2.1⟩ ms (hnew _ _)
          have hls3 := ms.cell HLS.out HXL.out.2.1
          clear hnew hX2 hXl2 hne2 hls2 ms
          go_simp
          refine hK.out _ _ (And.intro HO.out.box hls3) (fun hB => ?_)
          clear hK K hB
          try simp only [Act.put, List.setIfInBounds_toArray, List.set_cons_zero, List.set_cons_succ]
          clear hls3 l0 l1 f0 f1 P0 P1 PL PM HLS HXL
          refine wpAnyH_done (by kernel_rfl) ?_ _
          refine NoPanic.normal ?_
          generalize ((w7.setCell ⟨gb2, 0, none⟩ (.int .i64 x3)).setCell ⟨gb2, 1, none⟩ (.int .i64 x4)) = w8 at *
          obtain ⟨g0, g1⟩ := get2 HO.out.box
          obtain ⟨t0, t1⟩ := get2 HO.out.out
          have f0 := HO.out.out.frozen 0
          have f1 := HO.out.out.frozen 1
          have hkn := HO.out.kn
          have HKN : Hid (1 ≤ kn ∧ kn ≤ 4) := hkn
          have FIN : Hid _ := tw_fin (K := k + 400) hC hYw HO.out (by omega)
          clear HO hkn
          go_wp2
          exact bodyPost_ret (v := .agg #[.slice a1 4 q1, .slice (some ⟨bl, 0, none⟩) kn q2]) (by simp [results, Try.results49, go_sem, t0, t1, BV.val]) rfl ⟨⟨a1, some ⟨bl, 0, none⟩, q1, q2⟩, _, _, _, _, rfl, HKN.out, FIN.out⟩
        · have d1 : ((x : Int) == 1) = false := by simp; omega
          obtain ⟨g0, g1⟩ := get2 HO.out.box
          obtain ⟨t0, t1⟩ := get2 HO.out.out
          have f0 := HO.out.out.frozen 0
          have f1 := HO.out.out.frozen 1
          have hkn := HO.out.kn
          have HKN : Hid (1 ≤ kn ∧ kn ≤ 4) := hkn
          have FIN : Hid _ := tw_fin (K := k + 400) hC hYw HO.out (by omega)
          clear HO hkn
          go_wp2
          exact bodyPost_ret (v := .agg #[.slice a1 4 q1, .slice a2 kn q2]) (by simp [results, Try.results49, go_sem, t0, t1, BV.val]) rfl ⟨⟨a1, a2, q1, q2⟩, _, _, _, _, rfl, HKN.out, FIN.out⟩
end Go.Proofs.Ytcfdagmcnaepgaa
/- What the laws on tables draw. -/
namespace Go.Proofs.Ytcfdagmcnaepgaa
open Go.RowKit
set_option linter.unusedSimpArgs false
set_option linter.unusedVariables false
theorem bytes_more {w w' : World} {ao : Option Addr} {n : Nat} {f : Nat → Int} (h : BytesAt (fun b => b < w.heap.size) w ao n f) (hb : Blw w w') : BytesAt (fun b => b < w'.heap.size) w' ao n f :=
  ⟨h.1, fun i hi => let ⟨b, o, h1, hX, h2⟩ := (h.blw hb).2 i hi; ⟨b, o, h1, Nat.lt_of_lt_of_le hX hb.size, h2⟩⟩
theorem draw_start (w : World) (ao : Option Addr) (n cc : Nat) (f : Nat → Int) (h : BytesAt (fun b => b < w.heap.size) w ao n f) :
    Blw w ((w.alloc (.cells #[.slice none 0 0, .slice none 0 0] 26)).alloc (.cells #[.slice ao n cc, .int .i64 0, .int .u64 0] 72)) ∧ Cur (fun b => b < w.heap.size) ((w.alloc (.cells #[.slice none 0 0, .slice none 0 0] 26)).alloc (.cells #[.slice ao n cc, .int .i64 0, .int .u64 0] 72)) (w.heap.size + 1) 0 ∧ Row ((w.alloc (.cells #[.slice none 0 0, .slice none 0 0] 26)).alloc (.cells #[.slice ao n cc, .int .i64 0, .int .u64 0] 72)) w.heap.size 2 (fun i => if i = 0 then .slice none 0 0 else .slice none 0 0) ∧ ((w.alloc (.cells #[.slice none 0 0, .slice none 0 0] 26)).alloc (.cells #[.slice ao n cc, .int .i64 0, .int .u64 0] 72)).heap.size = w.heap.size + 2 := by
  have hb0 : Blw w ((w.alloc (.cells #[.slice none 0 0, .slice none 0 0] 26)).alloc (.cells #[.slice ao n cc, .int .i64 0, .int .u64 0] 72)) := ((Blw.refl _).alloc _).alloc _
  refine ⟨hb0, ⟨ao, n, cc, 0, f, 0, ?_, h.blw hb0, Nat.le_refl _, fun b hb => by omega⟩, (box2 w _ _ 26).blw ((Blw.refl _).alloc _), by simp⟩
  have := box3 (w.alloc (.cells #[.slice none 0 0, .slice none 0 0] 26)) (.slice ao n cc) (.int .i64 0) (.int .u64 0) 72
  rw [World.size_alloc] at this
  exact this
/-- A table that was drawn, the cursor at w's size and one. -/
structure Dr (w wr : World) (k : Nat) (b : BV) (B : BD) : Prop where
  blw : Blw w wr
  cur : Cur (fun x => x < w.heap.size) wr (w.heap.size + 1) k
  out : Row wr w.heap.size 2 (fun i => if i = 0 then .slice none 0 0 else .slice none 0 0)
  at_ : BookAt (fun x => w.heap.size + 1 < x ∧ x < wr.heap.size) wr b B
theorem Dr.go {w wr w1 : World} {k k' : Nat} {b : BV} {B : BD} (h : Dr w wr k b B) (hc : Cur (fun x => x < w.heap.size) w1 (w.heap.size + 1) k') (hm : Mod (fun b => b = w.heap.size + 1) wr w1) : Dr w w1 k' b B := by
  have hs := hm.size
  exact ⟨Mod.blw h.blw hm (fun i hi => by omega), hc, h.out.mod hm (by omega), (h.at_.mod hm (fun x hx e => by omega)).mono (fun x hx => by omega)⟩
theorem Dr.step {w wr w1 : World} {k : Nat} {b : BV} {B : BD} (h : Dr w wr k b B) (hb : Blw wr w1) : Dr w w1 k b B := by
  have hs := hb.size
  exact ⟨h.blw.trans hb, h.cur.blw hb, h.out.blw hb, (h.at_.blw hb).mono (fun x hx => by omega)⟩
abbrev bput (w wr : World) (b : BV) (B : BD) : World := (wr.setCell ⟨w.heap.size, 0, none⟩ (.slice b.a1 B.n b.c1)).setCell ⟨w.heap.size, 1, none⟩ (.slice b.a2 B.D.n b.c2)
def Drawn (w w' : World) (b : BV) (B : BD) : Prop := BookAt (fun x => w.heap.size < x ∧ x < w'.heap.size) w' b B ∧ Blw w w'
theorem Dr.fin {w wr : World} {k : Nat} {b : BV} {B : BD} (h : Dr w wr k b B) : Drawn w (bput w wr b B) b B := by
  have ms := set2_mod (X := fun x => x = w.heap.size) wr rfl (.slice b.a1 B.n b.c1) (.slice b.a2 B.D.n b.c2)
  have hs := ms.size
  exact ⟨(h.at_.mod ms (fun x hx e => by omega)).mono (fun x hx => ⟨by omega, Nat.lt_of_lt_of_le hx.2 hs⟩), Mod.blw h.blw ms (fun i hi => by omega)⟩
theorem five_ints (W : World) : IntsAt (fun b => b = W.heap.size) (W.alloc (.cells #[.int .i64 (-1), .int .i64 0, .int .i64 7, .int .i64 15, .int .i64 16] 3)) (some ⟨W.heap.size, 0, none⟩) 5 (fun i => if i = 0 then -1 else if i = 1 then 0 else if i = 2 then 7 else if i = 3 then 15 else 16) := by
  have r5 := row5 W (.int .i64 (-1)) (.int .i64 0) (.int .i64 7) (.int .i64 15) (.int .i64 16) 3
  refine ⟨by omega, fun i hi => ⟨W.heap.size, 0, rfl, rfl, ?_⟩⟩
  rw [Nat.zero_add, r5.cell hi]
  match i, hi with
  | 0, _ => rfl
  | 1, _ => rfl
  | 2, _ => rfl
  | 3, _ => rfl
  | 4, _ => rfl
set_option maxHeartbeats 3200000 in
theorem goodTable_any (ao : Option Addr) (n cc : Nat) (f : Nat → Int) (w : World) (h : BytesAt (fun b => b < w.heap.size) w ao n f) :
    Calls Try.prog 70 #[.slice ao n cc] w fun e w' => ∃ b B, e = .returned (b.val B) ∧ B.n = 4 ∧ Drawn w w' b B := by
  obtain ⟨hb0, c0, rR, sz⟩ := draw_start w ao n cc f h
  clear h
  go_enter Try.func70, Try.ntmps70
  go_wp2_with fail
  refine (table_any _ (w.heap.size + 1) 0 _ (by omega) (fun b hb => by omega) c0).mono ?_
  rintro e w1 ⟨b, c, kn, p, m, rfl, -, own, c1, m1⟩
  have HD : Hid (Dr w w1 (0 + 400) b (T4 c kn p m)) := ⟨Mod.blw hb0 m1 (fun i hi => by omega), c1, rR.mod m1 (by omega), own.at.mono (fun x hx => by omega)⟩
  clear hb0 c0 rR sz own c1 m1
  obtain ⟨t0, t1⟩ := get2 HD.out.out
  have f0 := HD.out.out.frozen 0
  have f1 := HD.out.out.frozen 1
  have FIN : Hid (Drawn w (bput w w1 b (T4 c kn p m)) b (T4 c kn p m)) := HD.out.fin
  clear HD
  go_wp2
  exact bodyPost_ret (v := b.val (T4 c kn p m)) (by simp [results, Try.results70, go_sem, t0, t1, BV.val]) rfl ⟨b, _, rfl, rfl, FIN.out⟩
set_option maxHeartbeats 3200000 in
theorem drawMap_any (ao : Option Addr) (n cc : Nat) (f : Nat → Int) (w : World) (h : BytesAt (fun b => b < w.heap.size) w ao n f) :
    Calls Try.prog 8 #[.slice ao n cc] w fun e w' => ∃ b B y0 y1 y2, e = .returned (.tuple #[b.val B, .int .i64 y0, .int .i64 y1, .int .i64 y2]) ∧ B.n = 4 ∧ Drawn w w' b B := by
  obtain ⟨hb0, c0, rR, sz⟩ := draw_start w ao n cc f h
  clear h
  go_enter Try.func8, Try.ntmps8
  go_wp2_with fail
  refine (table_any _ (w.heap.size + 1) 0 _ (by omega) (fun b hb => by omega) c0).mono ?_
  rintro e w1 ⟨b, c, kn, p, m, rfl, -, own, c1, m1⟩
  have HD : Hid (Dr w w1 (0 + 400) b (T4 c kn p m)) := ⟨Mod.blw hb0 m1 (fun i hi => by omega), c1, rR.mod m1 (by omega), own.at.mono (fun x hx => by omega)⟩
  clear hb0 c0 rR sz own c1 m1
  go_wp2_with fail
  refine (pick_any _ (w.heap.size + 1) _ 18 _ (by omega) (by omega) HD.out.cur).mono ?_
  rintro e v0 ⟨x0, rfl, hx0, hc, hm⟩
  replace HD : Hid (Dr w v0 (0 + 400 + 2) b (T4 c kn p m)) := HD.out.go hc hm
  clear hc hm
  have HF5 : Hid (IntsAt (fun b => b = v0.heap.size) (v0.alloc (.cells #[.int .i64 (-1), .int .i64 0, .int .i64 7, .int .i64 15, .int .i64 16] 3)) (some ⟨v0.heap.size, 0, none⟩) 5 (fun i => if i = 0 then -1 else if i = 1 then 0 else if i = 2 then 7 else if i = 3 then 15 else 16)) := five_ints v0
  have HCW : Hid (w.heap.size + 1 < v0.heap.size) := HD.out.cur.lt
  replace HD : Hid (Dr w (v0.alloc (.cells #[.int .i64 (-1), .int .i64 0, .int .i64 7, .int .i64 15, .int .i64 16] 3)) (0 + 400 + 2) b (T4 c kn p m)) := HD.out.step ((Blw.refl _).alloc _)
  go_wp2_with fail
  refine (among_any _ _ (w.heap.size + 1) _ _ 5 5 _ _ (by omega) (by omega) HF5.out (fun b hb => by have := HCW.out; omega) HD.out.cur).mono ?_
  rintro e v1 ⟨x1, rfl, hc, hm⟩
  replace HD : Hid (Dr w v1 (0 + 400 + 2 + 2) b (T4 c kn p m)) := HD.out.go hc hm
  clear hc hm HF5 HCW
  go_wp2_with fail
  refine (pick_any _ (w.heap.size + 1) _ 5 _ (by omega) (by omega) HD.out.cur).mono ?_
  rintro e v2 ⟨x2, rfl, hx2, hc, hm⟩
  replace HD : Hid (Dr w v2 (0 + 400 + 2 + 2 + 2) b (T4 c kn p m)) := HD.out.go hc hm
  clear hc hm
  obtain ⟨t0, t1⟩ := get2 HD.out.out
  have f0 := HD.out.out.frozen 0
  have f1 := HD.out.out.frozen 1
  have FIN : Hid (Drawn w (bput w v2 b (T4 c kn p m)) b (T4 c kn p m)) := HD.out.fin
  clear HD
  go_wp2
  exact bodyPost_ret (v := .tuple #[b.val (T4 c kn p m), .int .i64 ((x0 : Int) - 1), .int .i64 (x1), .int .i64 ((x2 : Int))]) (by simp [results, Try.results8, go_sem, t0, t1, BV.val]) rfl ⟨b, _, _, _, _, rfl, rfl, FIN.out⟩
set_option maxHeartbeats 3200000 in
theorem drawProt_any (ao : Option Addr) (n cc : Nat) (f : Nat → Int) (w : World) (h : BytesAt (fun b => b < w.heap.size) w ao n f) :
    Calls Try.prog 19 #[.slice ao n cc] w fun e w' => ∃ b B y0 y1, e = .returned (.tuple #[b.val B, .int .i64 y0, .int .i64 y1]) ∧ B.n = 4 ∧ Drawn w w' b B := by
  obtain ⟨hb0, c0, rR, sz⟩ := draw_start w ao n cc f h
  clear h
  go_enter Try.func19, Try.ntmps19
  go_wp2_with fail
  refine (table_any _ (w.heap.size + 1) 0 _ (by omega) (fun b hb => by omega) c0).mono ?_
  rintro e w1 ⟨b, c, kn, p, m, rfl, -, own, c1, m1⟩
  have HD : Hid (Dr w w1 (0 + 400) b (T4 c kn p m)) := ⟨Mod.blw hb0 m1 (fun i hi => by omega), c1, rR.mod m1 (by omega), own.at.mono (fun x hx => by omega)⟩
  clear hb0 c0 rR sz own c1 m1
  go_wp2_with fail
  refine (pick_any _ (w.heap.size + 1) _ 18 _ (by omega) (by omega) HD.out.cur).mono ?_
  rintro e v0 ⟨x0, rfl, hx0, hc, hm⟩
  replace HD : Hid (Dr w v0 (0 + 400 + 2) b (T4 c kn p m)) := HD.out.go hc hm
  clear hc hm
  go_wp2_with fail
  refine (pick_any _ (w.heap.size + 1) _ 5 _ (by omega) (by omega) HD.out.cur).mono ?_
  rintro e v1 ⟨x1, rfl, hx1, hc, hm⟩
  replace HD : Hid (Dr w v1 (0 + 400 + 2 + 2) b (T4 c kn p m)) := HD.out.go hc hm
  clear hc hm
  obtain ⟨t0, t1⟩ := get2 HD.out.out
  have f0 := HD.out.out.frozen 0
  have f1 := HD.out.out.frozen 1
  have FIN : Hid (Drawn w (bput w v1 b (T4 c kn p m)) b (T4 c kn p m)) := HD.out.fin
  clear HD
  go_wp2
  exact bodyPost_ret (v := .tuple #[b.val (T4 c kn p m), .int .i64 ((x0 : Int) - 1), .int .i64 ((x1 : Int))]) (by simp [results, Try.results19, go_sem, t0, t1, BV.val]) rfl ⟨b, _, _, _, rfl, rfl, FIN.out⟩
set_option maxHeartbeats 3200000 in
theorem drawUnmap_any (ao : Option Addr) (n cc : Nat) (f : Nat → Int) (w : World) (h : BytesAt (fun b => b < w.heap.size) w ao n f) :
    Calls Try.prog 22 #[.slice ao n cc] w fun e w' => ∃ b B y0, e = .returned (.tuple #[b.val B, .int .i64 y0]) ∧ B.n = 4 ∧ Drawn w w' b B := by
  obtain ⟨hb0, c0, rR, sz⟩ := draw_start w ao n cc f h
  clear h
  go_enter Try.func22, Try.ntmps22
  go_wp2_with fail
  refine (table_any _ (w.heap.size + 1) 0 _ (by omega) (fun b hb => by omega) c0).mono ?_
  rintro e w1 ⟨b, c, kn, p, m, rfl, -, own, c1, m1⟩
  have HD : Hid (Dr w w1 (0 + 400) b (T4 c kn p m)) := ⟨Mod.blw hb0 m1 (fun i hi => by omega), c1, rR.mod m1 (by omega), own.at.mono (fun x hx => by omega)⟩
  clear hb0 c0 rR sz own c1 m1
  go_wp2_with fail
  refine (pick_any _ (w.heap.size + 1) _ 18 _ (by omega) (by omega) HD.out.cur).mono ?_
  rintro e v0 ⟨x0, rfl, hx0, hc, hm⟩
  replace HD : Hid (Dr w v0 (0 + 400 + 2) b (T4 c kn p m)) := HD.out.go hc hm
  clear hc hm
  obtain ⟨t0, t1⟩ := get2 HD.out.out
  have f0 := HD.out.out.frozen 0
  have f1 := HD.out.out.frozen 1
  have FIN : Hid (Drawn w (bput w v0 b (T4 c kn p m)) b (T4 c kn p m)) := HD.out.fin
  clear HD
  go_wp2
  exact bodyPost_ret (v := .tuple #[b.val (T4 c kn p m), .int .i64 ((x0 : Int) - 1)]) (by simp [results, Try.results22, go_sem, t0, t1, BV.val]) rfl ⟨b, _, _, rfl, rfl, FIN.out⟩
set_option maxHeartbeats 3200000 in
theorem drawWalk_any (ao : Option Addr) (n cc : Nat) (f : Nat → Int) (w : World) (h : BytesAt (fun b => b < w.heap.size) w ao n f) :
    Calls Try.prog 17 #[.slice ao n cc] w fun e w' => ∃ b B y0 y1, e = .returned (.tuple #[b.val B, .int .i64 y0, .int .i64 y1]) ∧ B.n = 4 ∧ Drawn w w' b B := by
  have hb0 : Blw w (w.alloc (.cells #[.slice none 0 0, .slice none 0 0] 26)) := (Blw.refl _).alloc _
  have rR := box2 w (.slice none 0 0) (.slice none 0 0) 26
  have HH : Hid (BytesAt (fun b => b < (w.alloc (.cells #[.slice none 0 0, .slice none 0 0] 26)).heap.size) (w.alloc (.cells #[.slice none 0 0, .slice none 0 0] 26)) ao n f) := bytes_more h hb0
  clear h
  go_enter Try.func17, Try.ntmps17
  go_wp2_with fail
  refine (drawProt_any ao n cc f _ HH.out).mono ?_
  rintro e w1 ⟨b, B, y0, y1, rfl, h4, hat, hb1⟩
  have sz : (w.alloc (.cells #[.slice none 0 0, .slice none 0 0] 26)).heap.size = w.heap.size + 1 := by simp
  have r1 := rR.blw hb1
  have ms := set2_mod (X := fun x => x = w.heap.size) w1 rfl (.slice b.a1 B.n b.c1) (.slice b.a2 B.D.n b.c2)
  have hs2 := ms.size
  have FIN : Hid (Drawn w (bput w w1 b B) b B) := ⟨(hat.mod ms (fun x hx e => by omega)).mono (fun x hx => ⟨by omega, Nat.lt_of_lt_of_le hx.2 hs2⟩), Mod.blw (hb0.trans hb1) ms (fun i hi => by omega)⟩
  have H4 : Hid (B.n = 4) := h4
  obtain ⟨t0, t1⟩ := get2 r1
  have f0 := r1.frozen 0
  have f1 := r1.frozen 1
  clear hb0 rR HH hat hb1 sz r1 ms hs2 h4
  go_wp2
  exact bodyPost_ret (v := .tuple #[b.val B, .int .i64 y0, .int .i64 y1]) (by simp [results, Try.results17, go_sem, t0, t1, BV.val]) rfl ⟨b, B, _, _, rfl, H4.out, FIN.out⟩
set_option maxHeartbeats 3200000 in
theorem drawMapped_any (ao : Option Addr) (n cc : Nat) (f : Nat → Int) (w : World) (h : BytesAt (fun b => b < w.heap.size) w ao n f) :
    Calls Try.prog 26 #[.slice ao n cc] w fun e w' => ∃ b B, e = .returned (b.val B) ∧ B.n = 4 ∧ Drawn w w' b B := by
  have hb0 : Blw w (w.alloc (.cells #[.slice none 0 0, .slice none 0 0] 26)) := (Blw.refl _).alloc _
  have rR := box2 w (.slice none 0 0) (.slice none 0 0) 26
  have HH : Hid (BytesAt (fun b => b < (w.alloc (.cells #[.slice none 0 0, .slice none 0 0] 26)).heap.size) (w.alloc (.cells #[.slice none 0 0, .slice none 0 0] 26)) ao n f) := bytes_more h hb0
  clear h
  go_enter Try.func26, Try.ntmps26
  go_wp2_with fail
  refine (goodTable_any ao n cc f _ HH.out).mono ?_
  rintro e w1 ⟨b, B, rfl, h4, hat, hb1⟩
  have sz : (w.alloc (.cells #[.slice none 0 0, .slice none 0 0] 26)).heap.size = w.heap.size + 1 := by simp
  have r1 := rR.blw hb1
  have ms := set2_mod (X := fun x => x = w.heap.size) w1 rfl (.slice b.a1 B.n b.c1) (.slice b.a2 B.D.n b.c2)
  have hs2 := ms.size
  have FIN : Hid (Drawn w (bput w w1 b B) b B) := ⟨(hat.mod ms (fun x hx e => by omega)).mono (fun x hx => ⟨by omega, Nat.lt_of_lt_of_le hx.2 hs2⟩), Mod.blw (hb0.trans hb1) ms (fun i hi => by omega)⟩
  have H4 : Hid (B.n = 4) := h4
  obtain ⟨t0, t1⟩ := get2 r1
  have f0 := r1.frozen 0
  have f1 := r1.frozen 1
  clear hb0 rR HH hat hb1 sz r1 ms hs2 h4
  go_wp2
  exact bodyPost_ret (v := b.val B) (by simp [results, Try.results26, go_sem, t0, t1, BV.val]) rfl ⟨b, B, rfl, H4.out, FIN.out⟩
set_option maxHeartbeats 3200000 in
theorem drawUsed_any (ao : Option Addr) (n cc : Nat) (f : Nat → Int) (w : World) (h : BytesAt (fun b => b < w.heap.size) w ao n f) :
    Calls Try.prog 28 #[.slice ao n cc] w fun e w' => ∃ b B, e = .returned (b.val B) ∧ B.n = 4 ∧ Drawn w w' b B := by
  have hb0 : Blw w (w.alloc (.cells #[.slice none 0 0, .slice none 0 0] 26)) := (Blw.refl _).alloc _
  have rR := box2 w (.slice none 0 0) (.slice none 0 0) 26
  have HH : Hid (BytesAt (fun b => b < (w.alloc (.cells #[.slice none 0 0, .slice none 0 0] 26)).heap.size) (w.alloc (.cells #[.slice none 0 0, .slice none 0 0] 26)) ao n f) := bytes_more h hb0
  clear h
  go_enter Try.func28, Try.ntmps28
  go_wp2_with fail
  refine (goodTable_any ao n cc f _ HH.out).mono ?_
  rintro e w1 ⟨b, B, rfl, h4, hat, hb1⟩
  have sz : (w.alloc (.cells #[.slice none 0 0, .slice none 0 0] 26)).heap.size = w.heap.size + 1 := by simp
  have r1 := rR.blw hb1
  have ms := set2_mod (X := fun x => x = w.heap.size) w1 rfl (.slice b.a1 B.n b.c1) (.slice b.a2 B.D.n b.c2)
  have hs2 := ms.size
  have FIN : Hid (Drawn w (bput w w1 b B) b B) := ⟨(hat.mod ms (fun x hx e => by omega)).mono (fun x hx => ⟨by omega, Nat.lt_of_lt_of_le hx.2 hs2⟩), Mod.blw (hb0.trans hb1) ms (fun i hi => by omega)⟩
  have H4 : Hid (B.n = 4) := h4
  obtain ⟨t0, t1⟩ := get2 r1
  have f0 := r1.frozen 0
  have f1 := r1.frozen 1
  clear hb0 rR HH hat hb1 sz r1 ms hs2 h4
  go_wp2
  exact bodyPost_ret (v := b.val B) (by simp [results, Try.results28, go_sem, t0, t1, BV.val]) rfl ⟨b, B, rfl, H4.out, FIN.out⟩
set_option maxHeartbeats 3200000 in
theorem drawNew_any (ao : Option Addr) (n cc : Nat) (f : Nat → Int) (w : World) (h : BytesAt (fun b => b < w.heap.size) w ao n f) :
    Calls Try.prog 31 #[.slice ao n cc] w fun e w' => ∃ y : Int, e = .returned (.int .i64 y) ∧ Blw w w' := by
  have hb0 : Blw w (w.alloc (.cells #[.slice ao n cc, .int .i64 0, .int .u64 0] 72)) := (Blw.refl _).alloc _
  have hc : Cur (fun b => b < w.heap.size) (w.alloc (.cells #[.slice ao n cc, .int .i64 0, .int .u64 0] 72)) w.heap.size 0 := ⟨ao, n, cc, 0, f, 0, box3 w _ _ _ 72, h.blw hb0, Nat.le_refl _, fun b hb => by omega⟩
  clear h
  go_enter Try.func31, Try.ntmps31
  go_wp2_with fail
  refine (pick_any _ w.heap.size 0 7 _ (by omega) (by omega) hc).mono ?_
  rintro e w1 ⟨x, rfl, hx, -, hm⟩
  have FIN : Hid (Blw w w1) := Mod.blw hb0 hm (fun i hi => by omega)
  clear hm hb0 hc
  go_wp2
  go_ret
  exact ⟨_, rfl, FIN.out⟩
end Go.Proofs.Ytcfdagmcnaepgaa
/- UsedTables: the model's, the program's, and the law. -/
namespace Go.Proofs.Ytcfdagmcnaepgaa
open Go.RowKit
set_option linter.unusedSimpArgs false
set_option linter.unusedVariables false
/-- How many of the first j tops have a list. -/
def cu (c : Nat → Int) : Nat → Nat
  | 0 => 0
  | j + 1 => cu c j + (if 0 ≤ c j then 1 else 0)
theorem cu_le (c : Nat → Int) : ∀ j, cu c j ≤ j
  | 0 => Nat.le_refl _
  | j + 1 => by have := cu_le c j; simp only [cu]; split <;> omega
theorem cu_yes {c : Nat → Int} {j : Nat} (h : 0 ≤ c j) : cu c (j + 1) = cu c j + 1 := by simp only [cu]; rw [if_pos h]
theorem cu_no {c : Nat → Int} {j : Nat} (h : ¬ 0 ≤ c j) : cu c (j + 1) = cu c j := by simp only [cu]; rw [if_neg h]; rfl
def usOut (B : BD) (n : Int) (r : Bool) : Prop := (B.Good ∧ n = (cu B.c 4 : Nat) ∧ r = true) ∨ (¬ B.Good ∧ n = 0 ∧ r = false)
theorem usOut_same {B : BD} {n n' : Int} {r r' : Bool} (h : usOut B n r) (k : usOut B n' r') : n = n' ∧ r = r' := by
  rcases h with ⟨g, rfl, rfl⟩ | ⟨g, rfl, rfl⟩
  · rcases k with ⟨_, rfl, rfl⟩ | ⟨g', _⟩
    · exact ⟨rfl, rfl⟩
    · exact absurd g g'
  · rcases k with ⟨g', _⟩ | ⟨_, rfl, rfl⟩
    · exact absurd g' g
    · exact ⟨rfl, rfl⟩
set_option maxHeartbeats 1600000 in
theorem specUsed_any (b : BV) (B : BD) (Y : Nat → Prop) (w : World) (hn : B.n ≤ 1048576) (h : BookAt Y w b B) :
    Calls Try.prog 30 #[b.val B] w fun e w' => ∃ n r, e = .returned (.tuple #[.int .i64 n, .bool r]) ∧ usOut B n r ∧ Blw w w' := by
  have hb0 : Blw w (w.alloc (.cells #[.slice b.a1 B.n b.c1, .slice b.a2 B.D.n b.c2] 26)) := (Blw.refl _).alloc _
  have r0 := box2 w (.slice b.a1 B.n b.c1) (.slice b.a2 B.D.n b.c2) 26
  have HA : Hid (BookAt Y (w.alloc (.cells #[.slice b.a1 B.n b.c1, .slice b.a2 B.D.n b.c2] 26)) b B) := h.blw hb0
  clear h
  go_enter Try.func30, Try.ntmps30
  go_wp2_with fail
  refine (specGood_any b B Y _ hn HA.out).mono ?_
  rintro e w1 ⟨r, rfl, hr, hb1⟩
  have HT : Hid (r = true ↔ B.Good) := hr
  have HB : Hid (Blw w w1) := hb0.trans hb1
  have HR0 : Hid (Row w1 w.heap.size 2 (fun i => if i = 0 then .slice b.a1 B.n b.c1 else .slice b.a2 B.D.n b.c2)) := r0.blw hb1
  replace HA : Hid (BookAt Y w1 b B) := HA.out.blw hb1
  clear hr hb0 hb1 r0
  cases r
  · have HN : Hid (¬ B.Good) := fun g => by have := HT.out.2 g; simp at this
    clear HT
    go_wp2
    exact bodyPost_ret (v := .tuple #[.int .i64 0, .bool false]) (by simp [results, Try.results30, go_sem]) rfl ⟨_, _, rfl, Or.inr ⟨HN.out, rfl, rfl⟩, HB.out⟩
  have HG : Hid (B.Good) := HT.out.1 (by first | rfl | trivial)
  clear HT
  obtain ⟨n, c, D⟩ := B
  obtain ⟨a1, a2, q1, q2⟩ := b
  have hn4 : n = 4 := HG.out.n
  subst hn4
  simp only [BV.val] at *
  obtain ⟨bb, oo, ea, -, -⟩ := HA.out.c.2 0 (by show 0 < 4; omega)
  dsimp only at ea
  subst ea
  obtain ⟨p0, p1⟩ := get2 HR0.out
  go_wp2_with fail
  clear p0 p1
  go_loopw [4, 13] (fun v i wr => ∃ j : Nat, j ≤ 4 ∧ i = .int .i64 j ∧ v = .int .i64 (cu c j : Nat) ∧ wr = w1) (fun _ i _ => 4 - (intOf i).toNat)
  case atStart => exact ⟨0, by omega, rfl, rfl, rfl⟩
  case round =>
    obtain ⟨j, hj, rfl, rfl, hw⟩ := hrel
    subst hw
    by_cases hlt : j < 4
    · have hlt' : (j : Int) < 4 := by omega
      obtain ⟨b', o', e', -, gj⟩ := HA.out.c.2 j hlt
      cases e'
      dsimp only at gj
      have hle := cu_le c j
      by_cases h0 : 0 ≤ c j
      · have d0 : decide (c j ≥ 0) = true := by simp; omega
        have HN : Hid (cu c (j + 1) = cu c j + 1) := cu_yes h0
        clear h0
        generalize cu c j = x at *
        go_wp2
        go_roundw
        case rel => exact ⟨j + 1, by omega, by go_num, (by rw [HN.out]; go_num), by first | rfl | trivial⟩
        case measure => simp [intOf]; omega
      · have d0 : decide (c j ≥ 0) = false := by simp; omega
        have HN : Hid (cu c (j + 1) = cu c j) := cu_no h0
        clear h0
        go_wp2
        go_roundw
        case rel => exact ⟨j + 1, by omega, by go_num, by rw [HN.out], by first | rfl | trivial⟩
        case measure => simp [intOf]; omega
    · obtain rfl : j = 4 := by omega
      go_wp2
      exact bodyPost_ret (v := .tuple #[.int .i64 (cu c 4 : Nat), .bool true]) (by simp [results, Try.results30, go_sem]) rfl ⟨_, _, rfl, Or.inl ⟨HG.out, rfl, rfl⟩, HB.out⟩
set_option maxHeartbeats 800000 in
theorem notNone_any (x : Int) (w : World) (hx : -1 ≤ x) : Calls Try.prog 72 #[.int .i64 x] w fun e w' => ∃ r, e = .returned (.bool r) ∧ (r = true ↔ 0 ≤ x) ∧ w' = w := by
  by_cases h : x = -1
  · have d : (x != -1) = false := by simp [h]
    have HN : Hid (¬ 0 ≤ x) := by show ¬ _; omega
    clear h hx
    go_enter Try.func72, Try.ntmps72
    go_wp2
    go_ret
    first | exact ⟨false, rfl, iff_f HN.out, rfl⟩ | exact Or.inl ⟨rfl, by have := HN.out; omega, rfl⟩
  · have d : (x != -1) = true := by simp [h]
    have HN : Hid (0 ≤ x) := by show _ ≤ _; omega
    clear h hx
    go_enter Try.func72, Try.ntmps72
    go_wp2
    go_ret
    first | exact ⟨true, rfl, iff_t HN.out, rfl⟩ | exact Or.inr ⟨rfl, HN.out, rfl⟩
set_option maxRecDepth 10000 in
set_option maxHeartbeats 1600000 in
theorem placesUsed_any (z : Nat) (c : Nat → Int) (v5 : Value) (w : World) (hc : ∀ i, i < 4 → -1 ≤ c i) (h : Row w z 5 (row5f c v5)) :
    Calls Try.prog 71 #[.slice (some ⟨z, 0, none⟩) 4 4, .func (.func 72) #[] #[]] w fun e w' => ∃ ao cap, e = .returned (.slice ao (cu c 4) cap) ∧ Blw w w' := by
  have hcell : ∀ i, i < 4 → w.cell? ⟨z, i, none⟩ = some (.int .i64 (c i)) := fun i hi => by
    have := h.cell (i := i) (by omega)
    rw [this]
    match i, hi with
    | 0, _ => rfl
    | 1, _ => rfl
    | 2, _ => rfl
    | 3, _ => rfl
  have H : Hid (∀ i, i < 4 → w.cell? ⟨z, i, none⟩ = some (.int .i64 (c i))) := hcell
  have HC : Hid (∀ i, i < 4 → -1 ≤ c i) := hc
  clear h hcell hc
  go_enter Try.func71, Try.ntmps71
  go_wp2_with fail
  go_loopw [5, 10] (fun v i wr => ∃ j : Nat, j ≤ 4 ∧ i = .int .i64 j ∧ ∃ f, Gr w wr v (cu c j) f) (fun _ i _ => 4 - (intOf i).toNat)
  case atStart => exact ⟨0, by omega, rfl, fun _ => 0, ⟨Buf.nil _ _ _ _ _, Blw.refl _⟩⟩
  case round =>
    obtain ⟨j, hj, rfl, f, hG⟩ := hrel
    have HG : Hid (Gr w wr u5 (cu c j) f) := hG
    clear hG
    by_cases hlt : j < 4
    · have hlt' : (j : Int) < 4 := by omega
      have g0 := HG.out.blw.cell (H.out j hlt)
      go_wp2_with fail
      clear g0
      refine (notNone_any (c j) _ (HC.out j hlt)).mono ?_
      rintro e wr ⟨r, rfl, hr, rfl⟩
      have HR : Hid (r = true ↔ 0 ≤ c j) := hr
      clear hr
      cases r
      · have HN : Hid (Gr w wr u5 (cu c (j + 1)) f) := by rw [cu_no (fun q => by have := HR.out.2 q; simp at this)]; exact HG.out
        clear HR HG
        go_wp2
        go_roundw
        case rel => exact ⟨j + 1, by omega, by go_num, f, HN.out⟩
        case measure => simp [intOf]; omega
      · have hle := cu_le c j
        obtain ⟨ao, cap, w2, hrun, hG2⟩ := HG.out.push (by omega) (j : Int)
        have HRN : Hid _ := hrun
        have HN : Hid (∃ f, Gr w w2 (.slice ao (cu c j + 1) cap) (cu c (j + 1)) f) := by rw [cu_yes (HR.out.1 (by first | rfl | trivial))]; exact ⟨_, hG2⟩
        clear hrun hG2 HR HG hle
        go_wp2_with (first | (at_builtin; refine wpList_app (.tmp 18) (.tmp 20) 23 (by rfl) ?_; refine ⟨_, _, HRN.out, ?_⟩) | fail)
        go_roundw
        case rel => exact ⟨j + 1, by omega, by go_num, HN.out⟩
        case measure => simp [intOf]; omega
    · obtain rfl : j = 4 := by omega
      obtain ⟨ao, cap, rfl, -⟩ := HG.out.at (by have := cu_le c 4; omega)
      have HB : Hid (Blw w wr) := HG.out.blw
      clear HG
      go_wp2
      exact bodyPost_ret (v := .slice ao (cu c 4) cap) (by simp [results, Try.results71, go_sem]) rfl ⟨ao, cap, rfl, HB.out⟩
set_option maxHeartbeats 1600000 in
theorem implUsed_any (b : BV) (B : BD) (Y : Nat → Prop) (w : World) (h : BookAt Y w b B) (hY : ∀ x, Y x → x < w.heap.size) :
    Calls Try.prog 29 #[b.val B] w fun e w' => ∃ n r, e = .returned (.tuple #[.int .i64 n, .bool r]) ∧ usOut B n r ∧ Blw w w' := by
  have hb0 : Blw w (w.alloc (.cells #[.slice b.a1 B.n b.c1, .slice b.a2 B.D.n b.c2] 26)) := (Blw.refl _).alloc _
  have HB : Hid (BookAt Y (w.alloc (.cells #[.slice b.a1 B.n b.c1, .slice b.a2 B.D.n b.c2] 26)) b B) := h.blw hb0
  clear h
  go_enter Try.func29, Try.ntmps29
  go_wp2_with fail
  refine (hold_any b B Y _ HB.out (fun x hx => by have := hY x hx; simp; omega)).mono ?_
  rintro e w1 ⟨h1, hb1⟩
  replace hb1 := hb0.trans hb1
  clear hb0 HB
  rcases h1 with ⟨z, hg, rfl, -, -⟩ | ⟨hg, rfl⟩
  · have HG : Hid B.Good := hg
    have hA : Blw w1 (w1.alloc (.cells (held5 B.c z B.D.n) 87)) := (Blw.refl _).alloc _
    have r5 := row5 w1 (.int .i64 (B.c 0)) (.int .i64 (B.c 1)) (.int .i64 (B.c 2)) (.int .i64 (B.c 3)) (.slice (some ⟨z, 0, none⟩) B.D.n B.D.n) 87
    have HR5 : Hid (Row (w1.alloc (.cells (held5 B.c z B.D.n) 87)) w1.heap.size 5 (row5f B.c (.slice (some ⟨z, 0, none⟩) B.D.n B.D.n))) := r5
    have HW : Hid (Blw w (w1.alloc (.cells (held5 B.c z B.D.n) 87))) := hb1.trans hA
    clear hg hA r5 hb1
    go_wp2_with fail
    refine (placesUsed_any w1.heap.size B.c _ _ (fun i hi => (HG.out.top i (by rw [HG.out.n]; exact hi)).1) HR5.out).mono ?_
    rintro e w2 ⟨ao, cap, rfl, hb2⟩
    replace HW : Hid (Blw w w2) := HW.out.trans hb2
    clear hb2 HR5
    go_wp2
    exact bodyPost_ret (v := .tuple #[.int .i64 (cu B.c 4 : Nat), .bool true]) (by simp [results, Try.results29, go_sem]) rfl ⟨_, _, rfl, Or.inl ⟨HG.out, rfl, rfl⟩, HW.out⟩
  · have HG : Hid (¬ B.Good) := hg
    clear hg
    go_wp2
    exact bodyPost_ret (v := .tuple #[.int .i64 0, .bool false]) (by simp [results, Try.results29, go_sem]) rfl ⟨_, _, rfl, Or.inr ⟨HG.out, rfl, rfl⟩, hb1.alloc _⟩
end Go.Proofs.Ytcfdagmcnaepgaa
