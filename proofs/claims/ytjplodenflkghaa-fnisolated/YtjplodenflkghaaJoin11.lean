/- Merged by program, in this order: Wt, DrawT, DrawN, DrawM, LawX. -/
import Derived.Test.YtjplodenflkghaaJoin10
/- Whole tables that are drawn. -/
namespace Go.Proofs.Ytjplodenflkghaa
open Go.RowKit
set_option linter.unusedSimpArgs false
set_option linter.unusedVariables false
def Tw4 (Y : Nat → Prop) (w wr : World) (C k zs : Nat) : Prop := ∃ b c p m, TA Y w wr C k zs NoE b c 4 p m
theorem wrapF (a x : Nat) (h : (a : Int) < 1000) (h' : (x : Int) < 1000) : IntKind.i64.wrap ((a : Int) + (x : Int)) = (a : Int) + (x : Int) := by rw [IntKind.wrap_i64] <;> omega
theorem wrap2 (x : Nat) (h : (x : Int) < 1000) : IntKind.i64.wrap (2 + (x : Int)) = 2 + (x : Int) := by rw [IntKind.wrap_i64] <;> omega
theorem got_yes4 {Y : Nat → Prop} {w wx : World} {C k zs : Nat} {b : BV} {c : Nat → Int} {p m : Nat → Nat → Int} {b3 : BV} {R : BD} (hC : C < w.heap.size) (hY : ∀ x, Y x → x < w.heap.size) (h : TA Y w wx C k zs NoE b c 4 p m) (hn : ∃ c' p' m', R = T4 c' 4 p' m') (own : BookOwn (fun x => w.heap.size < x ∧ x < wx.heap.size ∧ x ≠ zs) wx b3 R) :
    Tw4 Y w ((wx.setCell ⟨zs, 0, none⟩ (.slice b3.a1 R.n b3.c1)).setCell ⟨zs, 1, none⟩ (.slice b3.a2 R.D.n b3.c2)) C k zs := by
  obtain ⟨c', p', m', rfl⟩ := hn
  show Tw4 Y w ((wx.setCell ⟨zs, 0, none⟩ (.slice b3.a1 4 b3.c1)).setCell ⟨zs, 1, none⟩ (.slice b3.a2 4 b3.c2)) C k zs
  have ms := set2_mod (X := fun x => x = zs) wx rfl (.slice b3.a1 4 b3.c1) (.slice b3.a2 4 b3.c2)
  have hs := ms.size
  have hzl := h.zl
  exact ⟨b3, c', p', m', ⟨h.mod.newer' ms (fun i hi => by omega), h.cur.mod ms (by omega) (fun x hx e => by have := hY x hx; omega), h.out.mod ms (by omega), by omega, row2_set h.box, (own.mod ms (fun x hx e => by omega)).mono (fun x hx => ⟨by omega, by omega, hx.2.2, id⟩), h.kn⟩⟩
set_option maxRecDepth 10000 in
set_option maxHeartbeats 12800000 in
theorem wholeTable_any (Y : Nat → Prop) (C k fr : Nat) (w : World) (hfr : fr ≤ 8) (hk : k ≤ 700000) (hY : ∀ b, Y b → b < w.heap.size ∧ b ≠ C) (h : Cur Y w C k) :
    Calls Try.prog 173 #[.pointer (some ⟨C, 0, none⟩), .int .i64 (fr : Int), .int .i64 8] w fun e w' => ∃ b c p m, e = .returned (b.val (T4 c 4 p m)) ∧ BookOwn (fun x => w.heap.size < x ∧ x < w'.heap.size) w' b (T4 c 4 p m) ∧ Cur Y w' C (k + 200) ∧ Mod (fun b => b = C) w w' := by
  have hC := h.lt
  have hYw : ∀ x, Y x → x < w.heap.size := fun x hx => (hY x hx).1
  have hb0 : Blw w (w.alloc (.cells #[.slice none 0 0, .slice none 0 0] 29)) := (Blw.refl _).alloc _
  have HR00 : Hid (Row (w.alloc (.cells #[.slice none 0 0, .slice none 0 0] 29)) w.heap.size 2 (fun i => if i = 0 then .slice none 0 0 else .slice none 0 0)) := box2 w (.slice none 0 0) (.slice none 0 0) 29
  have HC1 : Hid (Cur Y (w.alloc (.cells #[.slice none 0 0, .slice none 0 0] 29)) C k) := h.blw hb0
  have HM0 : Hid (Mod (fun b => b = C) w (w.alloc (.cells #[.slice none 0 0, .slice none 0 0] 29))) := hb0.mod _
  have HS0 : Hid ((w.alloc (.cells #[.slice none 0 0, .slice none 0 0] 29)).heap.size = w.heap.size + 1) := by show _ = _; simp
  clear h hb0
  go_enter Try.func173, Try.ntmps173
  go_upto_region 1 with fail
  generalize (w.alloc (.cells #[.slice none 0 0, .slice none 0 0] 29)) = w0 at *
  go_wp2_with fail
  refine (specNew_any 4 _).mono ?_
  rintro e w1 ⟨b1, R1, r1, rfl, ho1, hs1, own1, hb1⟩
  have hR1 : R1 = newB 4 := by
    rcases ho1 with ⟨_, e, _⟩ | ⟨e, _, _⟩
    · exact e
    · exact absurd (by unfold cntOK; omega) e
  subst hR1
  have hA : Blw w1 (w1.alloc (.cells #[.slice b1.a1 4 b1.c1, .slice b1.a2 4 b1.c2] 29)) := (Blw.refl _).alloc _
  have hz1 := hb1.size
  have hz0 := HS0.out
  have e1 : newB 4 = T4 (fun _ => -1) 4 zz zz := rfl
  rw [e1] at own1
  have HOW0 : Hid (Tw4 Y w (w1.alloc (.cells #[.slice b1.a1 4 b1.c1, .slice b1.a2 4 b1.c2] 29)) C k w1.heap.size) :=
    ⟨b1, _, _, _, ⟨HM0.out.trans ((hb1.trans hA).mod _), (HC1.out.blw hb1).blw hA, (HR00.out.blw hb1).blw hA, ⟨by omega, by simp⟩, box2 w1 _ _ 29, (own1.blw hA).mono (fun x hx => ⟨by omega, by rw [World.size_alloc]; omega, by omega, id⟩), by omega⟩⟩
  have hval : b1.val (newB 4) = .agg #[.slice b1.a1 4 b1.c1, .slice b1.a2 4 b1.c2] := rfl
  rw [hval]
  clear own1 hb1 hz1 hz0 hA HC1 HR00 HM0 HS0 ho1 hs1 e1 hval
  go_upto_region 2 with fail
  generalize w1.heap.size = zs at *
  generalize (w1.alloc (.cells #[.slice b1.a1 4 b1.c1, .slice b1.a2 4 b1.c2] 29)) = w2 at *
  obtain ⟨b4, c4, p4, m4, ho4⟩ := HOW0.out
  go_wp2_with fail
  refine (pick_any Y C k 8 _ (by omega) (by omega) ho4.cur).mono ?_
  rintro e w3 ⟨n, rfl, hn9, hc3, hm3⟩
  have hwn := wrap2 n (by omega)
  have HOW1 : Hid (Tw4 Y w w3 C (k + 2) zs) := ⟨b4, c4, p4, m4, ho4.go hC hc3 hm3⟩
  clear HOW0 ho4 hc3 hm3 w2 b4 c4 p4 m4
  go_wp2_with fail
  go_loopw [9] (fun v wr => ∃ i : Nat, i ≤ 10 ∧ v = .int .i64 i ∧ Tw4 Y w wr C (k + 2 + 6 * (10 - i)) zs) (fun v _ => (intOf v).toNat)
  case atStart => exact ⟨2 + n, by omega, by congr 1 <;> omega, by obtain ⟨b, c, p, m, h⟩ := HOW1.out; exact ⟨b, c, p, m, h.le (by omega)⟩⟩
  case round =>
    obtain ⟨i, hi8, rfl, hbk⟩ := hrel
    clear HOW1 hwn
    have HOW0 : Hid (Tw4 Y w wr C (k + 2 + 6 * (10 - i)) zs) := hbk
    clear hbk
    by_cases hi0 : 0 < i
    · have hi0' : (0 : Int) < i := by omega
      obtain ⟨kk, hkk⟩ : ∃ kk, kk = k + 2 + 6 * (10 - i) := ⟨_, rfl⟩
      have hkb : kk ≤ 800000 := by omega
      rw [← hkk] at HOW0
      have HKK : Hid (kk = k + 2 + 6 * (10 - i)) := hkk
      clear hkk
      obtain ⟨b4, c4, p4, m4, ho4⟩ := HOW0.out
      have HO : Hid (TA Y w wr C (kk) zs NoE b4 c4 4 p4 m4) := ho4
      clear ho4 HOW0
      have P0 : ∀ w', Row w' zs 2 (bx2 b4 4 4) → w'.cell? ⟨zs, 0, none⟩ = some (.slice b4.a1 4 b4.c1) := fun w' hh => (get2 hh).1
      have P1 : ∀ w', Row w' zs 2 (bx2 b4 4 4) → w'.cell? ⟨zs, 1, none⟩ = some (.slice b4.a2 4 b4.c2) := fun w' hh => (get2 hh).2
      go_upto_region 5 with fail
      go_cut [10, 11] from 19 to 39 (fun v1 v2 wx => Got Y w C (kk + 2 + 2 + 2) zs b4 c4 4 p4 m4 v1 v2 wx)
      case first =>
        replace HO : Hid (TA Y w wr.drew C (kk) zs NoE b4 c4 4 p4 m4) := HO.out.blw (Blw.refl _).drew
        refine wp_region_noPanic ?_
        refine wp_region_held_drew (S := fun w' => Row w' zs 2 (bx2 b4 4 4)) (by kernel_rfl) HO.out.box (fun hB => ?_)
        clear hB
        generalize wr.drew = wd at *
        refine wpAnyH_take (i := 0) (oi := { dst := some 24, op := Op.load 29 (Operand.tmp 7), type := 29, pos := _, after := #[], guard := none }) (v := (.agg #[.slice b4.a1 4 b4.c1, .slice b4.a2 4 b4.c2])) rfl (by kernel_rfl) (by kernel_rfl) (by kernel_rfl) (fun _ _ _ h => h) (Or.inl ⟨by rfl, fun w' hS => by (try dsimp only at hS); go_simp⟩) HO.out.box ?_
        simp only [Act.put, List.setIfInBounds_toArray, List.set_cons_zero, List.set_cons_succ]
        refine wpAnyH_take (i := 1) (oi := { dst := some 25, op := Op.move (Operand.tmp 0), type := 101, pos := _, after := #[], guard := none }) (v := (.pointer (some ⟨C, 0, none⟩))) rfl (by kernel_rfl) (by kernel_rfl) (by kernel_rfl) (fun _ _ _ h => h) (Or.inl ⟨by rfl, fun w' hS => by (try dsimp only at hS); go_simp⟩) HO.out.box ?_
        simp only [Act.put, List.setIfInBounds_toArray, List.set_cons_zero, List.set_cons_succ]
        refine wpAnyH_take (i := 3) (oi := { dst := some 27, op := Op.move (Operand.tmp 1), type := 3, pos := _, after := #[], guard := none }) (v := (.int .i64 (fr : Int))) rfl (by kernel_rfl) (by kernel_rfl) (by kernel_rfl) (fun _ _ _ h => h) (Or.inl ⟨by rfl, fun w' hS => by (try dsimp only at hS); go_simp⟩) HO.out.box ?_
        simp only [Act.put, List.setIfInBounds_toArray, List.set_cons_zero, List.set_cons_succ]
        refine wpAnyH_take (i := 4) (oi := { dst := some 28, op := Op.move (Operand.tmp 0), type := 101, pos := _, after := #[], guard := none }) (v := (.pointer (some ⟨C, 0, none⟩))) rfl (by kernel_rfl) (by kernel_rfl) (by kernel_rfl) (fun _ _ _ h => h) (Or.inl ⟨by rfl, fun w' hS => by (try dsimp only at hS); go_simp⟩) HO.out.box ?_
        simp only [Act.put, List.setIfInBounds_toArray, List.set_cons_zero, List.set_cons_succ]
        refine wpAnyH_take (i := 5) (oi := { dst := some 29, op := Op.move (Operand.tmp 2), type := 3, pos := _, after := #[], guard := none }) (v := (.int .i64 8)) rfl (by kernel_rfl) (by kernel_rfl) (by kernel_rfl) (fun _ _ _ h => h) (Or.inl ⟨by rfl, fun w' hS => by (try dsimp only at hS); go_simp⟩) HO.out.box ?_
        simp only [Act.put, List.setIfInBounds_toArray, List.set_cons_zero, List.set_cons_succ]
        refine wpAnyH_take (i := 8) (oi := { dst := some 32, op := Op.move (Operand.tmp 0), type := 101, pos := _, after := #[], guard := none }) (v := (.pointer (some ⟨C, 0, none⟩))) rfl (by kernel_rfl) (by kernel_rfl) (by kernel_rfl) (fun _ _ _ h => h) (Or.inl ⟨by rfl, fun w' hS => by (try dsimp only at hS); go_simp⟩) HO.out.box ?_
        simp only [Act.put, List.setIfInBounds_toArray, List.set_cons_zero, List.set_cons_succ]
        refine wpAnyH_ready (rs := [2, 15]) (by kernel_rfl) (by simp) ?_
        refine AllReadyH.cons (o := { dst := some 26, op := Op.call { callee := Callee.value (Operand.func 78), args := #[Operand.tmp 25, Operand.const (Value.int IntKind.i64 8)], argTypes := #[101, 3] }, type := 3, pos := _, after := #[{ on := 1, ground := Ground.data }], guard := none }) rfl (fun K hK => ?_) (AllReadyH.cons (o := { dst := some 10, op := Op.alloc 29, type := 0, pos := _, after := #[], guard := none }) rfl (fun K hK => ?_) AllReadyH.nil)
        · go_simp
          refine (pick_any Y C (kk) 8 _ (by omega) (by omega) HO.out.cur).mono ?_
          rintro e wn ⟨x0, rfl, hx0, hc, hm⟩
          have hwx0 := wrap1 x0 (by omega)
          replace HO : Hid (TA Y w wn C (kk + 2) zs NoE b4 c4 4 p4 m4) := HO.out.go hC hc hm
          clear hc hm
          refine hK.out _ _ HO.out.box (fun hB => ?_)
          clear hK K hB
          try simp only [Act.put, List.setIfInBounds_toArray, List.set_cons_zero, List.set_cons_succ]
          refine wpAnyH_ready (rs := [6, 15]) (by kernel_rfl) (by simp) ?_
          refine AllReadyH.cons (o := { dst := some 30, op := Op.call { callee := Callee.value (Operand.func 78), args := #[Operand.tmp 28, Operand.tmp 29], argTypes := #[101, 3] }, type := 3, pos := _, after := #[{ on := 4, ground := Ground.data }, { on := 5, ground := Ground.data }, { on := 2, ground := Ground.chain }], guard := none }) rfl (fun K hK => ?_) (AllReadyH.cons (o := { dst := some 10, op := Op.alloc 29, type := 0, pos := _, after := #[], guard := none }) rfl (fun K hK => ?_) AllReadyH.nil)
          · go_simp
            refine (pick_any Y C (kk + 2) 8 _ (by omega) (by omega) HO.out.cur).mono ?_
            rintro e wn ⟨x1, rfl, hx1, hc, hm⟩
            have hwx1 := wrapF fr x1 (by omega) (by omega)
            replace HO : Hid (TA Y w wn C (kk + 2 + 2) zs NoE b4 c4 4 p4 m4) := HO.out.go hC hc hm
            clear hc hm
            refine hK.out _ _ HO.out.box (fun hB => ?_)
            clear hK K hB
            try simp only [Act.put, List.setIfInBounds_toArray, List.set_cons_zero, List.set_cons_succ]
            refine wpAnyH_take (i := 7) (oi := { dst := some 31, op := Op.binOp BinOp.add 3 (Operand.tmp 27) (Operand.tmp 30) 3, type := 3, pos := _, after := #[{ on := 3, ground := Ground.data }, { on := 6, ground := Ground.data }], guard := none }) (v := (.int .i64 ((fr : Int) + (x1 : Int)))) rfl (by kernel_rfl) (by kernel_rfl) (by kernel_rfl) (fun _ _ _ h => h) (Or.inl ⟨by rfl, fun w' hS => by (try dsimp only at hS); go_simp⟩) HO.out.box ?_
            simp only [Act.put, List.setIfInBounds_toArray, List.set_cons_zero, List.set_cons_succ]
            refine wpAnyH_ready (rs := [9, 15]) (by kernel_rfl) (by simp) ?_
            refine AllReadyH.cons (o := { dst := some 33, op := Op.call { callee := Callee.value (Operand.func 78), args := #[Operand.tmp 32, Operand.const (Value.int IntKind.i64 3)], argTypes := #[101, 3] }, type := 3, pos := _, after := #[{ on := 8, ground := Ground.data }, { on := 6, ground := Ground.chain }], guard := none }) rfl (fun K hK => ?_) (AllReadyH.cons (o := { dst := some 10, op := Op.alloc 29, type := 0, pos := _, after := #[], guard := none }) rfl (fun K hK => ?_) AllReadyH.nil)
            · go_simp
              refine (pick_any Y C (kk + 2 + 2) 3 _ (by omega) (by omega) HO.out.cur).mono ?_
              rintro e wn ⟨x2, rfl, hx2, hc, hm⟩
              have hwx2 := wrap1 x2 (by omega)
              replace HO : Hid (TA Y w wn C (kk + 2 + 2 + 2) zs NoE b4 c4 4 p4 m4) := HO.out.go hC hc hm
              clear hc hm
              refine hK.out _ _ HO.out.box (fun hB => ?_)
              clear hK K hB
              try simp only [Act.put, List.setIfInBounds_toArray, List.set_cons_zero, List.set_cons_succ]
              refine wpAnyH_take (i := 10) (oi := { dst := some 34, op := Op.binOp BinOp.add 3 (Operand.const (Value.int IntKind.i64 1)) (Operand.tmp 33) 3, type := 3, pos := _, after := #[{ on := 9, ground := Ground.data }], guard := none }) (v := (.int .i64 (1 + (x2 : Int)))) rfl (by kernel_rfl) (by kernel_rfl) (by kernel_rfl) (fun _ _ _ h => h) (Or.inl ⟨by rfl, fun w' hS => by (try dsimp only at hS); go_simp⟩) HO.out.box ?_
              simp only [Act.put, List.setIfInBounds_toArray, List.set_cons_zero, List.set_cons_succ]
              refine wpAnyH_ready (rs := [11, 15]) (by kernel_rfl) (by simp) ?_
              refine AllReadyH.cons (o := { dst := some 35, op := Op.call { callee := Callee.value (Operand.func 115), args := #[Operand.tmp 24, Operand.tmp 26, Operand.tmp 31, Operand.tmp 34], argTypes := #[29, 3, 3, 3] }, type := 62, pos := _, after := #[{ on := 0, ground := Ground.data }, { on := 2, ground := Ground.data }, { on := 7, ground := Ground.data }, { on := 10, ground := Ground.data }, { on := 9, ground := Ground.chain }], guard := none }) rfl (fun K hK => ?_) (AllReadyH.cons (o := { dst := some 10, op := Op.alloc 29, type := 0, pos := _, after := #[], guard := none }) rfl (fun K hK => ?_) AllReadyH.nil)
              · go_simp
                refine (specMap_any b4 (T4 c4 4 p4 m4) (x0 : Int) ((fr : Int) + (x1 : Int)) (1 + (x2 : Int)) _ _ (by show 4 ≤ _; omega) HO.out.own.at).mono ?_
                rintro e wn ⟨b3, R, r3, rfl, ho3, hs3, own3, hbk⟩
                have HRR : Hid (r3 = true → ∃ c' p' m', R = T4 c' 4 p' m') := ch_shape ho3
                have hzl := HO.out.zl
                have hsz := hbk.size
                have HOW : Hid (BookOwn (fun x => w.heap.size < x ∧ x < wn.heap.size ∧ x ≠ zs ∧ ¬ NoE x) wn b3 R) := own3.mono (fun x hx => ⟨by omega, hx.2, by omega, id⟩)
                replace HO : Hid (TA Y w wn C (kk + 2 + 2 + 2) zs NoE b4 c4 4 p4 m4) := HO.out.blw hbk
                clear ho3 hs3 own3 hbk hzl hsz
                refine hK.out _ _ HO.out.box (fun hB => ?_)
                clear hK K hB
                try simp only [Act.put, List.setIfInBounds_toArray, List.set_cons_zero, List.set_cons_succ]
                refine wpAnyH_take (i := 12) (oi := { dst := some 23, op := Op.move (Operand.tmp 35), type := 62, pos := _, after := #[{ on := 11, ground := Ground.data }], guard := none }) (v := (.tuple #[b3.val R, .bool r3])) rfl (by kernel_rfl) (by kernel_rfl) (by kernel_rfl) (fun _ _ _ h => h) (Or.inl ⟨by rfl, fun w' hS => by (try dsimp only at hS); go_simp⟩) HO.out.box ?_
                simp only [Act.put, List.setIfInBounds_toArray, List.set_cons_zero, List.set_cons_succ]
                refine wpAnyH_take (i := 13) (oi := { dst := some 36, op := Op.extract (Operand.tmp 23) 0, type := 29, pos := _, after := #[{ on := 12, ground := Ground.data }], guard := none }) (v := (.agg #[.slice b3.a1 R.n b3.c1, .slice b3.a2 R.D.n b3.c2])) rfl (by kernel_rfl) (by kernel_rfl) (by kernel_rfl) (fun _ _ _ h => h) (Or.inl ⟨by rfl, fun w' hS => by (try dsimp only at hS); go_simp⟩) HO.out.box ?_
                simp only [Act.put, List.setIfInBounds_toArray, List.set_cons_zero, List.set_cons_succ]
                refine wpAnyH_take (i := 14) (oi := { dst := some 37, op := Op.extract (Operand.tmp 23) 1, type := 4, pos := _, after := #[{ on := 12, ground := Ground.data }, { on := 16, ground := Ground.gcOnly Departure.lateStores }], guard := none }) (v := (.bool r3)) rfl (by kernel_rfl) (by kernel_rfl) (by kernel_rfl) (fun _ _ _ h => h) (Or.inl ⟨by rfl, fun w' hS => by (try dsimp only at hS); go_simp⟩) HO.out.box ?_
                simp only [Act.put, List.setIfInBounds_toArray, List.set_cons_zero, List.set_cons_succ]
                refine wpAnyH_ready (rs := [15]) (by kernel_rfl) (by simp) ?_
                refine AllReadyH.cons (o := { dst := some 10, op := Op.alloc 29, type := 0, pos := _, after := #[], guard := none }) rfl (fun K hK => ?_) AllReadyH.nil
                go_simp
                have HZ : Hid (Row (wn.alloc (.cells #[.slice none 0 0, .slice none 0 0] 29)) wn.heap.size 2 (fun i => if i = 0 then .slice none 0 0 else .slice none 0 0)) := box2 wn _ _ 29
                have HZB : Hid (wn.heap.size ≠ zs ∧ w.heap.size < wn.heap.size ∧ C < wn.heap.size) := by have := HO.out.zl; show _ ∧ _ ∧ _; omega
                replace HOW : Hid (BookOwn (fun x => w.heap.size < x ∧ x < (wn.alloc (.cells #[.slice none 0 0, .slice none 0 0] 29)).heap.size ∧ x ≠ zs ∧ ¬ OnE wn.heap.size x) (wn.alloc (.cells #[.slice none 0 0, .slice none 0 0] 29)) b3 R) := (HOW.out.blw ((Blw.refl _).alloc _)).mono (fun x hx => ⟨hx.1, by rw [World.size_alloc]; omega, hx.2.2.1, fun e => by have e' : x = wn.heap.size := e; omega⟩)
                replace HO : Hid (TA Y w (wn.alloc (.cells #[.slice none 0 0, .slice none 0 0] 29)) C (kk + 2 + 2 + 2) zs (OnE wn.heap.size) b4 c4 4 p4 m4) := HO.out.alloc _
                refine hK.out _ _ HO.out.box (fun hB => ?_)
                clear hK K hB
                try simp only [Act.put, List.setIfInBounds_toArray, List.set_cons_zero, List.set_cons_succ]
                generalize wn.alloc (.cells #[.slice none 0 0, .slice none 0 0] 29) = wA at *
                generalize wn.heap.size = zb at *
                refine wpAnyH_ready (rs := [16]) (by kernel_rfl) (by simp) ?_
                refine AllReadyH.cons (o := { dst := none, op := Op.store 29 (Operand.tmp 10) (Operand.tmp 36), type := 0, pos := _, after := #[{ on := 15, ground := Ground.data }, { on := 13, ground := Ground.data }, { on := 11, ground := Ground.chain }, { on := 0, ground := Ground.phase }, { on := 1, ground := Ground.phase }, { on := 2, ground := Ground.phase }, { on := 3, ground := Ground.phase }, { on := 4, ground := Ground.phase }, { on := 5, ground := Ground.phase }, { on := 6, ground := Ground.phase }, { on := 7, ground := Ground.phase }, { on := 8, ground := Ground.phase }, { on := 9, ground := Ground.phase }, { on := 10, ground := Ground.phase }, { on := 11, ground := Ground.phase }, { on := 12, ground := Ground.phase }, { on := 13, ground := Ground.phase }, { on := 14, ground := Ground.textOnly Departure.lateStores }, { on := 15, ground := Ground.phase }], guard := none }) rfl (fun K hK => ?_) AllReadyH.nil
                obtain ⟨z0, z1⟩ := get2 HZ.out
                have fz0 := HZ.out.frozen 0
                have fz1 := HZ.out.frozen 1
                have FIN : Hid _ := got_fin hC hYw HO.out HZ.out ⟨HZB.out.1, HZB.out.2.1⟩ HRR.out HOW.out
                go_simp
                refine hK.out _ _ (by obtain ⟨_, _, _, _, _, _, ho, _⟩ := FIN.out; exact ho.box) (fun hB => ?_)
                clear hK K hB
                try simp only [Act.put, List.setIfInBounds_toArray, List.set_cons_zero, List.set_cons_succ]
                clear z0 z1 fz0 fz1
                refine wpAnyH_take (i := 17) (oi := { dst := some 11, op := Op.assign (Operand.tmp 37), type := 4, pos := _, after := #[{ on := 14, ground := Ground.data }, { on := 16, ground := Ground.chain }, { on := 0, ground := Ground.phase }, { on := 1, ground := Ground.phase }, { on := 2, ground := Ground.phase }, { on := 3, ground := Ground.phase }, { on := 4, ground := Ground.phase }, { on := 5, ground := Ground.phase }, { on := 6, ground := Ground.phase }, { on := 7, ground := Ground.phase }, { on := 8, ground := Ground.phase }, { on := 9, ground := Ground.phase }, { on := 10, ground := Ground.phase }, { on := 11, ground := Ground.phase }, { on := 12, ground := Ground.phase }, { on := 13, ground := Ground.phase }, { on := 14, ground := Ground.phase }, { on := 15, ground := Ground.phase }, { on := 16, ground := Ground.phase }], guard := none }) (v := (.bool r3)) rfl (by kernel_rfl) (by kernel_rfl) (by kernel_rfl) (fun _ _ _ h => h) (Or.inl ⟨by rfl, fun w' hS => by (try dsimp only at hS); go_simp⟩) (by obtain ⟨_, _, _, _, _, _, ho, _⟩ := FIN.out; exact ho.box) ?_
                simp only [Act.put, List.setIfInBounds_toArray, List.set_cons_zero, List.set_cons_succ]
                refine wpAnyH_done (by kernel_rfl) ?_ _
                refine NoPanic.normal ?_
                go_wp2_with fail
                go_meet
                exact FIN.out
              · go_simp
                have HZ : Hid (Row (wn.alloc (.cells #[.slice none 0 0, .slice none 0 0] 29)) wn.heap.size 2 (fun i => if i = 0 then .slice none 0 0 else .slice none 0 0)) := box2 wn _ _ 29
                have HZB : Hid (wn.heap.size ≠ zs ∧ w.heap.size < wn.heap.size ∧ C < wn.heap.size) := by have := HO.out.zl; show _ ∧ _ ∧ _; omega
                replace HO : Hid (TA Y w (wn.alloc (.cells #[.slice none 0 0, .slice none 0 0] 29)) C (kk + 2 + 2 + 2) zs (OnE wn.heap.size) b4 c4 4 p4 m4) := HO.out.alloc _
                refine hK.out _ _ HO.out.box (fun hB => ?_)
                clear hK K hB
                try simp only [Act.put, List.setIfInBounds_toArray, List.set_cons_zero, List.set_cons_succ]
                generalize wn.alloc (.cells #[.slice none 0 0, .slice none 0 0] 29) = wA at *
                generalize wn.heap.size = zb at *
                refine wpAnyH_ready (rs := [11]) (by kernel_rfl) (by simp) ?_
                refine AllReadyH.cons (o := { dst := some 35, op := Op.call { callee := Callee.value (Operand.func 115), args := #[Operand.tmp 24, Operand.tmp 26, Operand.tmp 31, Operand.tmp 34], argTypes := #[29, 3, 3, 3] }, type := 62, pos := _, after := #[{ on := 0, ground := Ground.data }, { on := 2, ground := Ground.data }, { on := 7, ground := Ground.data }, { on := 10, ground := Ground.data }, { on := 9, ground := Ground.chain }], guard := none }) rfl (fun K hK => ?_) AllReadyH.nil
                go_simp
                refine (specMap_any b4 (T4 c4 4 p4 m4) (x0 : Int) ((fr : Int) + (x1 : Int)) (1 + (x2 : Int)) _ _ (by show 4 ≤ _; omega) HO.out.own.at).mono ?_
                rintro e wn ⟨b3, R, r3, rfl, ho3, hs3, own3, hbk⟩
                have HRR : Hid (r3 = true → ∃ c' p' m', R = T4 c' 4 p' m') := ch_shape ho3
                have hzl := HO.out.zl
                have hsz := hbk.size
                have hzz := HZ.out.lt
                replace HZ : Hid (Row wn zb 2 (fun i => if i = 0 then .slice none 0 0 else .slice none 0 0)) := HZ.out.blw hbk
                have HOW : Hid (BookOwn (fun x => w.heap.size < x ∧ x < wn.heap.size ∧ x ≠ zs ∧ ¬ OnE zb x) wn b3 R) := own3.mono (fun x hx => ⟨by omega, hx.2, by omega, fun e => by have e' : x = zb := e; omega⟩)
                replace HO : Hid (TA Y w wn C (kk + 2 + 2 + 2) zs (OnE zb) b4 c4 4 p4 m4) := HO.out.blw hbk
                clear ho3 hs3 own3 hbk hzl hsz hzz
                refine hK.out _ _ HO.out.box (fun hB => ?_)
                clear hK K hB
                try simp only [Act.put, List.setIfInBounds_toArray, List.set_cons_zero, List.set_cons_succ]
                refine wpAnyH_take (i := 12) (oi := { dst := some 23, op := Op.move (Operand.tmp 35), type := 62, pos := _, after := #[{ on := 11, ground := Ground.data }], guard := none }) (v := (.tuple #[b3.val R, .bool r3])) rfl (by kernel_rfl) (by kernel_rfl) (by kernel_rfl) (fun _ _ _ h => h) (Or.inl ⟨by rfl, fun w' hS => by (try dsimp only at hS); go_simp⟩) HO.out.box ?_
                simp only [Act.put, List.setIfInBounds_toArray, List.set_cons_zero, List.set_cons_succ]
                refine wpAnyH_take (i := 13) (oi := { dst := some 36, op := Op.extract (Operand.tmp 23) 0, type := 29, pos := _, after := #[{ on := 12, ground := Ground.data }], guard := none }) (v := (.agg #[.slice b3.a1 R.n b3.c1, .slice b3.a2 R.D.n b3.c2])) rfl (by kernel_rfl) (by kernel_rfl) (by kernel_rfl) (fun _ _ _ h => h) (Or.inl ⟨by rfl, fun w' hS => by (try dsimp only at hS); go_simp⟩) HO.out.box ?_
                simp only [Act.put, List.setIfInBounds_toArray, List.set_cons_zero, List.set_cons_succ]
                refine wpAnyH_take (i := 14) (oi := { dst := some 37, op := Op.extract (Operand.tmp 23) 1, type := 4, pos := _, after := #[{ on := 12, ground := Ground.data }, { on := 16, ground := Ground.gcOnly Departure.lateStores }], guard := none }) (v := (.bool r3)) rfl (by kernel_rfl) (by kernel_rfl) (by kernel_rfl) (fun _ _ _ h => h) (Or.inl ⟨by rfl, fun w' hS => by (try dsimp only at hS); go_simp⟩) HO.out.box ?_
                simp only [Act.put, List.setIfInBounds_toArray, List.set_cons_zero, List.set_cons_succ]
                refine wpAnyH_ready (rs := [16]) (by kernel_rfl) (by simp) ?_
                refine AllReadyH.cons (o := { dst := none, op := Op.store 29 (Operand.tmp 10) (Operand.tmp 36), type := 0, pos := _, after := #[{ on := 15, ground := Ground.data }, { on := 13, ground := Ground.data }, { on := 11, ground := Ground.chain }, { on := 0, ground := Ground.phase }, { on := 1, ground := Ground.phase }, { on := 2, ground := Ground.phase }, { on := 3, ground := Ground.phase }, { on := 4, ground := Ground.phase }, { on := 5, ground := Ground.phase }, { on := 6, ground := Ground.phase }, { on := 7, ground := Ground.phase }, { on := 8, ground := Ground.phase }, { on := 9, ground := Ground.phase }, { on := 10, ground := Ground.phase }, { on := 11, ground := Ground.phase }, { on := 12, ground := Ground.phase }, { on := 13, ground := Ground.phase }, { on := 14, ground := Ground.textOnly Departure.lateStores }, { on := 15, ground := Ground.phase }], guard := none }) rfl (fun K hK => ?_) AllReadyH.nil
                obtain ⟨z0, z1⟩ := get2 HZ.out
                have fz0 := HZ.out.frozen 0
                have fz1 := HZ.out.frozen 1
                have FIN : Hid _ := got_fin hC hYw HO.out HZ.out ⟨HZB.out.1, HZB.out.2.1⟩ HRR.out HOW.out
                go_simp
                refine hK.out _ _ (by obtain ⟨_, _, _, _, _, _, ho, _⟩ := FIN.out; exact ho.box) (fun hB => ?_)
                clear hK K hB
                try simp only [Act.put, List.setIfInBounds_toArray, List.set_cons_zero, List.set_cons_succ]
                clear z0 z1 fz0 fz1
                refine wpAnyH_take (i := 17) (oi := { dst := some 11, op := Op.assign (Operand.tmp 37), type := 4, pos := _, after := #[{ on := 14, ground := Ground.data }, { on := 16, ground := Ground.chain }, { on := 0, ground := Ground.phase }, { on := 1, ground := Ground.phase }, { on := 2, ground := Ground.phase }, { on := 3, ground := Ground.phase }, { on := 4, ground := Ground.phase }, { on := 5, ground := Ground.phase }, { on := 6, ground := Ground.phase }, { on := 7, ground := Ground.phase }, { on := 8, ground := Ground.phase }, { on := 9, ground := Ground.phase }, { on := 10, ground := Ground.phase }, { on := 11, ground := Ground.phase }, { on := 12, ground := Ground.phase }, { on := 13, ground := Ground.phase }, { on := 14, ground := Ground.phase }, { on := 15, ground := Ground.phase }, { on := 16, ground := Ground.phase }], guard := none }) (v := (.bool r3)) rfl (by kernel_rfl) (by kernel_rfl) (by kernel_rfl) (fun _ _ _ h => h) (Or.inl ⟨by rfl, fun w' hS => by (try dsimp only at hS); go_simp⟩) (by obtain ⟨_, _, _, _, _, _, ho, _⟩ := FIN.out; exact ho.box) ?_
                simp only [Act.put, List.setIfInBounds_toArray, List.set_cons_zero, List.set_cons_succ]
                refine wpAnyH_done (by kernel_rfl) ?_ _
                refine NoPanic.normal ?_
                go_wp2_with fail
                go_meet
                exact FIN.out
            · go_simp
              have HZ : Hid (Row (wn.alloc (.cells #[.slice none 0 0, .slice none 0 0] 29)) wn.heap.size 2 (fun i => if i = 0 then .slice none 0 0 else .slice none 0 0)) := box2 wn _ _ 29
              have HZB : Hid (wn.heap.size ≠ zs ∧ w.heap.size < wn.heap.size ∧ C < wn.heap.size) := by have := HO.out.zl; show _ ∧ _ ∧ _; omega
              replace HO : Hid (TA Y w (wn.alloc (.cells #[.slice none 0 0, .slice none 0 0] 29)) C (kk + 2 + 2) zs (OnE wn.heap.size) b4 c4 4 p4 m4) := HO.out.alloc _
              refine hK.out _ _ HO.out.box (fun hB => ?_)
              clear hK K hB
              try simp only [Act.put, List.setIfInBounds_toArray, List.set_cons_zero, List.set_cons_succ]
              generalize wn.alloc (.cells #[.slice none 0 0, .slice none 0 0] 29) = wA at *
              generalize wn.heap.size = zb at *
              refine wpAnyH_ready (rs := [9]) (by kernel_rfl) (by simp) ?_
              refine AllReadyH.cons (o := { dst := some 33, op := Op.call { callee := Callee.value (Operand.func 78), args := #[Operand.tmp 32, Operand.const (Value.int IntKind.i64 3)], argTypes := #[101, 3] }, type := 3, pos := _, after := #[{ on := 8, ground := Ground.data }, { on := 6, ground := Ground.chain }], guard := none }) rfl (fun K hK => ?_) AllReadyH.nil
              go_simp
              refine (pick_any Y C (kk + 2 + 2) 3 _ (by omega) (by omega) HO.out.cur).mono ?_
              rintro e wn ⟨x2, rfl, hx2, hc, hm⟩
              have hwx2 := wrap1 x2 (by omega)
              replace HO : Hid (TA Y w wn C (kk + 2 + 2 + 2) zs (OnE zb) b4 c4 4 p4 m4) := HO.out.go hC hc hm
              replace HZ : Hid (Row wn zb 2 (fun i => if i = 0 then .slice none 0 0 else .slice none 0 0)) := HZ.out.mod hm (by have := HZB.out; omega)
              clear hc hm
              refine hK.out _ _ HO.out.box (fun hB => ?_)
              clear hK K hB
              try simp only [Act.put, List.setIfInBounds_toArray, List.set_cons_zero, List.set_cons_succ]
              refine wpAnyH_take (i := 10) (oi := { dst := some 34, op := Op.binOp BinOp.add 3 (Operand.const (Value.int IntKind.i64 1)) (Operand.tmp 33) 3, type := 3, pos := _, after := #[{ on := 9, ground := Ground.data }], guard := none }) (v := (.int .i64 (1 + (x2 : Int)))) rfl (by kernel_rfl) (by kernel_rfl) (by kernel_rfl) (fun _ _ _ h => h) (Or.inl ⟨by rfl, fun w' hS => by (try dsimp only at hS); go_simp⟩) HO.out.box ?_
              simp only [Act.put, List.setIfInBounds_toArray, List.set_cons_zero, List.set_cons_succ]
              refine wpAnyH_ready (rs := [11]) (by kernel_rfl) (by simp) ?_
              refine AllReadyH.cons (o := { dst := some 35, op := Op.call { callee := Callee.value (Operand.func 115), args := #[Operand.tmp 24, Operand.tmp 26, Operand.tmp 31, Operand.tmp 34], argTypes := #[29, 3, 3, 3] }, type := 62, pos := _, after := #[{ on := 0, ground := Ground.data }, { on := 2, ground := Ground.data }, { on := 7, ground := Ground.data }, { on := 10, ground := Ground.data }, { on := 9, ground := Ground.chain }], guard := none }) rfl (fun K hK => ?_) AllReadyH.nil
              go_simp
              refine (specMap_any b4 (T4 c4 4 p4 m4) (x0 : Int) ((fr : Int) + (x1 : Int)) (1 + (x2 : Int)) _ _ (by show 4 ≤ _; omega) HO.out.own.at).mono ?_
              rintro e wn ⟨b3, R, r3, rfl, ho3, hs3, own3, hbk⟩
              have HRR : Hid (r3 = true → ∃ c' p' m', R = T4 c' 4 p' m') := ch_shape ho3
              have hzl := HO.out.zl
              have hsz := hbk.size
              have hzz := HZ.out.lt
              replace HZ : Hid (Row wn zb 2 (fun i => if i = 0 then .slice none 0 0 else .slice none 0 0)) := HZ.out.blw hbk
              have HOW : Hid (BookOwn (fun x => w.heap.size < x ∧ x < wn.heap.size ∧ x ≠ zs ∧ ¬ OnE zb x) wn b3 R) := own3.mono (fun x hx => ⟨by omega, hx.2, by omega, fun e => by have e' : x = zb := e; omega⟩)
              replace HO : Hid (TA Y w wn C (kk + 2 + 2 + 2) zs (OnE zb) b4 c4 4 p4 m4) := HO.out.blw hbk
              clear ho3 hs3 own3 hbk hzl hsz hzz
              refine hK.out _ _ HO.out.box (fun hB => ?_)
              clear hK K hB
              try simp only [Act.put, List.setIfInBounds_toArray, List.set_cons_zero, List.set_cons_succ]
              refine wpAnyH_take (i := 12) (oi := { dst := some 23, op := Op.move (Operand.tmp 35), type := 62, pos := _, after := #[{ on := 11, ground := Ground.data }], guard := none }) (v := (.tuple #[b3.val R, .bool r3])) rfl (by kernel_rfl) (by kernel_rfl) (by kernel_rfl) (fun _ _ _ h => h) (Or.inl ⟨by rfl, fun w' hS => by (try dsimp only at hS); go_simp⟩) HO.out.box ?_
              simp only [Act.put, List.setIfInBounds_toArray, List.set_cons_zero, List.set_cons_succ]
              refine wpAnyH_take (i := 13) (oi := { dst := some 36, op := Op.extract (Operand.tmp 23) 0, type := 29, pos := _, after := #[{ on := 12, ground := Ground.data }], guard := none }) (v := (.agg #[.slice b3.a1 R.n b3.c1, .slice b3.a2 R.D.n b3.c2])) rfl (by kernel_rfl) (by kernel_rfl) (by kernel_rfl) (fun _ _ _ h => h) (Or.inl ⟨by rfl, fun w' hS => by (try dsimp only at hS); go_simp⟩) HO.out.box ?_
              simp only [Act.put, List.setIfInBounds_toArray, List.set_cons_zero, List.set_cons_succ]
              refine wpAnyH_take (i := 14) (oi := { dst := some 37, op := Op.extract (Operand.tmp 23) 1, type := 4, pos := _, after := #[{ on := 12, ground := Ground.data }, { on := 16, ground := Ground.gcOnly Departure.lateStores }], guard := none }) (v := (.bool r3)) rfl (by kernel_rfl) (by kernel_rfl) (by kernel_rfl) (fun _ _ _ h => h) (Or.inl ⟨by rfl, fun w' hS => by (try dsimp only at hS); go_simp⟩) HO.out.box ?_
              simp only [Act.put, List.setIfInBounds_toArray, List.set_cons_zero, List.set_cons_succ]
              refine wpAnyH_ready (rs := [16]) (by kernel_rfl) (by simp) ?_
              refine AllReadyH.cons (o := { dst := none, op := Op.store 29 (Operand.tmp 10) (Operand.tmp 36), type := 0, pos := _, after := #[{ on := 15, ground := Ground.data }, { on := 13, ground := Ground.data }, { on := 11, ground := Ground.chain }, { on := 0, ground := Ground.phase }, { on := 1, ground := Ground.phase }, { on := 2, ground := Ground.phase }, { on := 3, ground := Ground.phase }, { on := 4, ground := Ground.phase }, { on := 5, ground := Ground.phase }, { on := 6, ground := Ground.phase }, { on := 7, ground := Ground.phase }, { on := 8, ground := Ground.phase }, { on := 9, ground := Ground.phase }, { on := 10, ground := Ground.phase }, { on := 11, ground := Ground.phase }, { on := 12, ground := Ground.phase }, { on := 13, ground := Ground.phase }, { on := 14, ground := Ground.textOnly Departure.lateStores }, { on := 15, ground := Ground.phase }], guard := none }) rfl (fun K hK => ?_) AllReadyH.nil
              obtain ⟨z0, z1⟩ := get2 HZ.out
              have fz0 := HZ.out.frozen 0
              have fz1 := HZ.out.frozen 1
              have FIN : Hid _ := got_fin hC hYw HO.out HZ.out ⟨HZB.out.1, HZB.out.2.1⟩ HRR.out HOW.out
              go_simp
              refine hK.out _ _ (by obtain ⟨_, _, _, _, _, _, ho, _⟩ := FIN.out; exact ho.box) (fun hB => ?_)
              clear hK K hB
              try simp only [Act.put, List.setIfInBounds_toArray, List.set_cons_zero, List.set_cons_succ]
              clear z0 z1 fz0 fz1
              refine wpAnyH_take (i := 17) (oi := { dst := some 11, op := Op.assign (Operand.tmp 37), type := 4, pos := _, after := #[{ on := 14, ground := Ground.data }, { on := 16, ground := Ground.chain }, { on := 0, ground := Ground.phase }, { on := 1, ground := Ground.phase }, { on := 2, ground := Ground.phase }, { on := 3, ground := Ground.phase }, { on := 4, ground := Ground.phase }, { on := 5, ground := Ground.phase }, { on := 6, ground := Ground.phase }, { on := 7, ground := Ground.phase }, { on := 8, ground := Ground.phase }, { on := 9, ground := Ground.phase }, { on := 10, ground := Ground.phase }, { on := 11, ground := Ground.phase }, { on := 12, ground := Ground.phase }, { on := 13, ground := Ground.phase }, { on := 14, ground := Ground.phase }, { on := 15, ground := Ground.phase }, { on := 16, ground := Ground.phase }], guard := none }) (v := (.bool r3)) rfl (by kernel_rfl) (by kernel_rfl) (by kernel_rfl) (fun _ _ _ h => h) (Or.inl ⟨by rfl, fun w' hS => by (try dsimp only at hS); go_simp⟩) (by obtain ⟨_, _, _, _, _, _, ho, _⟩ := FIN.out; exact ho.box) ?_
              simp only [Act.put, List.setIfInBounds_toArray, List.set_cons_zero, List.set_cons_succ]
              refine wpAnyH_done (by kernel_rfl) ?_ _
              refine NoPanic.normal ?_
              go_wp2_with fail
              go_meet
              exact FIN.out
          · go_simp
            have HZ : Hid (Row (wn.alloc (.cells #[.slice none 0 0, .slice none 0 0] 29)) wn.heap.size 2 (fun i => if i = 0 then .slice none 0 0 else .slice none 0 0)) := box2 wn _ _ 29
            have HZB : Hid (wn.heap.size ≠ zs ∧ w.heap.size < wn.heap.size ∧ C < wn.heap.size) := by have := HO.out.zl; show _ ∧ _ ∧ _; omega
            replace HO : Hid (TA Y w (wn.alloc (.cells #[.slice none 0 0, .slice none 0 0] 29)) C (kk + 2) zs (OnE wn.heap.size) b4 c4 4 p4 m4) := HO.out.alloc _
            refine hK.out _ _ HO.out.box (fun hB => ?_)
            clear hK K hB
            try simp only [Act.put, List.setIfInBounds_toArray, List.set_cons_zero, List.set_cons_succ]
            generalize wn.alloc (.cells #[.slice none 0 0, .slice none 0 0] 29) = wA at *
            generalize wn.heap.size = zb at *
            refine wpAnyH_ready (rs := [6]) (by kernel_rfl) (by simp) ?_
            refine AllReadyH.cons (o := { dst := some 30, op := Op.call { callee := Callee.value (Operand.func 78), args := #[Operand.tmp 28, Operand.tmp 29], argTypes := #[101, 3] }, type := 3, pos := _, after := #[{ on := 4, ground := Ground.data }, { on := 5, ground := Ground.data }, { on := 2, ground := Ground.chain }], guard := none }) rfl (fun K hK => ?_) AllReadyH.nil
            go_simp
            refine (pick_any Y C (kk + 2) 8 _ (by omega) (by omega) HO.out.cur).mono ?_
            rintro e wn ⟨x1, rfl, hx1, hc, hm⟩
            have hwx1 := wrapF fr x1 (by omega) (by omega)
            replace HO : Hid (TA Y w wn C (kk + 2 + 2) zs (OnE zb) b4 c4 4 p4 m4) := HO.out.go hC hc hm
            replace HZ : Hid (Row wn zb 2 (fun i => if i = 0 then .slice none 0 0 else .slice none 0 0)) := HZ.out.mod hm (by have := HZB.out; omega)
            clear hc hm
            refine hK.out _ _ HO.out.box (fun hB => ?_)
            clear hK K hB
            try simp only [Act.put, List.setIfInBounds_toArray, List.set_cons_zero, List.set_cons_succ]
            refine wpAnyH_take (i := 7) (oi := { dst := some 31, op := Op.binOp BinOp.add 3 (Operand.tmp 27) (Operand.tmp 30) 3, type := 3, pos := _, after := #[{ on := 3, ground := Ground.data }, { on := 6, ground := Ground.data }], guard := none }) (v := (.int .i64 ((fr : Int) + (x1 : Int)))) rfl (by kernel_rfl) (by kernel_rfl) (by kernel_rfl) (fun _ _ _ h => h) (Or.inl ⟨by rfl, fun w' hS => by (try dsimp only at hS); go_simp⟩) HO.out.box ?_
            simp only [Act.put, List.setIfInBounds_toArray, List.set_cons_zero, List.set_cons_succ]
            refine wpAnyH_ready (rs := [9]) (by kernel_rfl) (by simp) ?_
            refine AllReadyH.cons (o := { dst := some 33, op := Op.call { callee := Callee.value (Operand.func 78), args := #[Operand.tmp 32, Operand.const (Value.int IntKind.i64 3)], argTypes := #[101, 3] }, type := 3, pos := _, after := #[{ on := 8, ground := Ground.data }, { on := 6, ground := Ground.chain }], guard := none }) rfl (fun K hK => ?_) AllReadyH.nil
            go_simp
            refine (pick_any Y C (kk + 2 + 2) 3 _ (by omega) (by omega) HO.out.cur).mono ?_
            rintro e wn ⟨x2, rfl, hx2, hc, hm⟩
            have hwx2 := wrap1 x2 (by omega)
            replace HO : Hid (TA Y w wn C (kk + 2 + 2 + 2) zs (OnE zb) b4 c4 4 p4 m4) := HO.out.go hC hc hm
            replace HZ : Hid (Row wn zb 2 (fun i => if i = 0 then .slice none 0 0 else .slice none 0 0)) := HZ.out.mod hm (by have := HZB.out; omega)
            clear hc hm
            refine hK.out _ _ HO.out.box (fun hB => ?_)
            clear hK K hB
            try simp only [Act.put, List.setIfInBounds_toArray, List.set_cons_zero, List.set_cons_succ]
            refine wpAnyH_take (i := 10) (oi := { dst := some 34, op := Op.binOp BinOp.add 3 (Operand.const (Value.int IntKind.i64 1)) (Operand.tmp 33) 3, type := 3, pos := _, after := #[{ on := 9, ground := Ground.data }], guard := none }) (v := (.int .i64 (1 + (x2 : Int)))) rfl (by kernel_rfl) (by kernel_rfl) (by kernel_rfl) (fun _ _ _ h => h) (Or.inl ⟨by rfl, fun w' hS => by (try dsimp only at hS); go_simp⟩) HO.out.box ?_
            simp only [Act.put, List.setIfInBounds_toArray, List.set_cons_zero, List.set_cons_succ]
            refine wpAnyH_ready (rs := [11]) (by kernel_rfl) (by simp) ?_
            refine AllReadyH.cons (o := { dst := some 35, op := Op.call { callee := Callee.value (Operand.func 115), args := #[Operand.tmp 24, Operand.tmp 26, Operand.tmp 31, Operand.tmp 34], argTypes := #[29, 3, 3, 3] }, type := 62, pos := _, after := #[{ on := 0, ground := Ground.data }, { on := 2, ground := Ground.data }, { on := 7, ground := Ground.data }, { on := 10, ground := Ground.data }, { on := 9, ground := Ground.chain }], guard := none }) rfl (fun K hK => ?_) AllReadyH.nil
            go_simp
            refine (specMap_any b4 (T4 c4 4 p4 m4) (x0 : Int) ((fr : Int) + (x1 : Int)) (1 + (x2 : Int)) _ _ (by show 4 ≤ _; omega) HO.out.own.at).mono ?_
            rintro e wn ⟨b3, R, r3, rfl, ho3, hs3, own3, hbk⟩
            have HRR : Hid (r3 = true → ∃ c' p' m', R = T4 c' 4 p' m') := ch_shape ho3
            have hzl := HO.out.zl
            have hsz := hbk.size
            have hzz := HZ.out.lt
            replace HZ : Hid (Row wn zb 2 (fun i => if i = 0 then .slice none 0 0 else .slice none 0 0)) := HZ.out.blw hbk
            have HOW : Hid (BookOwn (fun x => w.heap.size < x ∧ x < wn.heap.size ∧ x ≠ zs ∧ ¬ OnE zb x) wn b3 R) := own3.mono (fun x hx => ⟨by omega, hx.2, by omega, fun e => by have e' : x = zb := e; omega⟩)
            replace HO : Hid (TA Y w wn C (kk + 2 + 2 + 2) zs (OnE zb) b4 c4 4 p4 m4) := HO.out.blw hbk
            clear ho3 hs3 own3 hbk hzl hsz hzz
            refine hK.out _ _ HO.out.box (fun hB => ?_)
            clear hK K hB
            try simp only [Act.put, List.setIfInBounds_toArray, List.set_cons_zero, List.set_cons_succ]
            refine wpAnyH_take (i := 12) (oi := { dst := some 23, op := Op.move (Operand.tmp 35), type := 62, pos := _, after := #[{ on := 11, ground := Ground.data }], guard := none }) (v := (.tuple #[b3.val R, .bool r3])) rfl (by kernel_rfl) (by kernel_rfl) (by kernel_rfl) (fun _ _ _ h => h) (Or.inl ⟨by rfl, fun w' hS => by (try dsimp only at hS); go_simp⟩) HO.out.box ?_
            simp only [Act.put, List.setIfInBounds_toArray, List.set_cons_zero, List.set_cons_succ]
            refine wpAnyH_take (i := 13) (oi := { dst := some 36, op := Op.extract (Operand.tmp 23) 0, type := 29, pos := _, after := #[{ on := 12, ground := Ground.data }], guard := none }) (v := (.agg #[.slice b3.a1 R.n b3.c1, .slice b3.a2 R.D.n b3.c2])) rfl (by kernel_rfl) (by kernel_rfl) (by kernel_rfl) (fun _ _ _ h => h) (Or.inl ⟨by rfl, fun w' hS => by (try dsimp only at hS); go_simp⟩) HO.out.box ?_
            simp only [Act.put, List.setIfInBounds_toArray, List.set_cons_zero, List.set_cons_succ]
            refine wpAnyH_take (i := 14) (oi := { dst := some 37, op := Op.extract (Operand.tmp 23) 1, type := 4, pos := _, after := #[{ on := 12, ground := Ground.data }, { on := 16, ground := Ground.gcOnly Departure.lateStores }], guard := none }) (v := (.bool r3)) rfl (by kernel_rfl) (by kernel_rfl) (by kernel_rfl) (fun _ _ _ h => h) (Or.inl ⟨by rfl, fun w' hS => by (try dsimp only at hS); go_simp⟩) HO.out.box ?_
            simp only [Act.put, List.setIfInBounds_toArray, List.set_cons_zero, List.set_cons_succ]
            refine wpAnyH_ready (rs := [16]) (by kernel_rfl) (by simp) ?_
            refine AllReadyH.cons (o := { dst := none, op := Op.store 29 (Operand.tmp 10) (Operand.tmp 36), type := 0, pos := _, after := #[{ on := 15, ground := Ground.data }, { on := 13, ground := Ground.data }, { on := 11, ground := Ground.chain }, { on := 0, ground := Ground.phase }, { on := 1, ground := Ground.phase }, { on := 2, ground := Ground.phase }, { on := 3, ground := Ground.phase }, { on := 4, ground := Ground.phase }, { on := 5, ground := Ground.phase }, { on := 6, ground := Ground.phase }, { on := 7, ground := Ground.phase }, { on := 8, ground := Ground.phase }, { on := 9, ground := Ground.phase }, { on := 10, ground := Ground.phase }, { on := 11, ground := Ground.phase }, { on := 12, ground := Ground.phase }, { on := 13, ground := Ground.phase }, { on := 14, ground := Ground.textOnly Departure.lateStores }, { on := 15, ground := Ground.phase }], guard := none }) rfl (fun K hK => ?_) AllReadyH.nil
            obtain ⟨z0, z1⟩ := get2 HZ.out
            have fz0 := HZ.out.frozen 0
            have fz1 := HZ.out.frozen 1
            have FIN : Hid _ := got_fin hC hYw HO.out HZ.out ⟨HZB.out.1, HZB.out.2.1⟩ HRR.out HOW.out
            go_simp
            refine hK.out _ _ (by obtain ⟨_, _, _, _, _, _, ho, _⟩ := FIN.out; exact ho.box) (fun hB => ?_)
            clear hK K hB
            try simp only [Act.put, List.setIfInBounds_toArray, List.set_cons_zero, List.set_cons_succ]
            clear z0 z1 fz0 fz1
            refine wpAnyH_take (i := 17) (oi := { dst := some 11, op := Op.assign (Operand.tmp 37), type := 4, pos := _, after := #[{ on := 14, ground := Ground.data }, { on := 16, ground := Ground.chain }, { on := 0, ground := Ground.phase }, { on := 1, ground := Ground.phase }, { on := 2, ground := Ground.phase }, { on := 3, ground := Ground.phase }, { on := 4, ground := Ground.phase }, { on := 5, ground := Ground.phase }, { on := 6, ground := Ground.phase }, { on := 7, ground := Ground.phase }, { on := 8, ground := Ground.phase }, { on := 9, ground := Ground.phase }, { on := 10, ground := Ground.phase }, { on := 11, ground := Ground.phase }, { on := 12, ground := Ground.phase }, { on := 13, ground := Ground.phase }, { on := 14, ground := Ground.phase }, { on := 15, ground := Ground.phase }, { on := 16, ground := Ground.phase }], guard := none }) (v := (.bool r3)) rfl (by kernel_rfl) (by kernel_rfl) (by kernel_rfl) (fun _ _ _ h => h) (Or.inl ⟨by rfl, fun w' hS => by (try dsimp only at hS); go_simp⟩) (by obtain ⟨_, _, _, _, _, _, ho, _⟩ := FIN.out; exact ho.box) ?_
            simp only [Act.put, List.setIfInBounds_toArray, List.set_cons_zero, List.set_cons_succ]
            refine wpAnyH_done (by kernel_rfl) ?_ _
            refine NoPanic.normal ?_
            go_wp2_with fail
            go_meet
            exact FIN.out
        · go_simp
          have HZ : Hid (Row (wd.alloc (.cells #[.slice none 0 0, .slice none 0 0] 29)) wd.heap.size 2 (fun i => if i = 0 then .slice none 0 0 else .slice none 0 0)) := box2 wd _ _ 29
          have HZB : Hid (wd.heap.size ≠ zs ∧ w.heap.size < wd.heap.size ∧ C < wd.heap.size) := by have := HO.out.zl; show _ ∧ _ ∧ _; omega
          replace HO : Hid (TA Y w (wd.alloc (.cells #[.slice none 0 0, .slice none 0 0] 29)) C (kk) zs (OnE wd.heap.size) b4 c4 4 p4 m4) := HO.out.alloc _
          refine hK.out _ _ HO.out.box (fun hB => ?_)
          clear hK K hB
          try simp only [Act.put, List.setIfInBounds_toArray, List.set_cons_zero, List.set_cons_succ]
          generalize wd.alloc (.cells #[.slice none 0 0, .slice none 0 0] 29) = wA at *
          generalize wd.heap.size = zb at *
          refine wpAnyH_ready (rs := [2]) (by kernel_rfl) (by simp) ?_
          refine AllReadyH.cons (o := { dst := some 26, op := Op.call { callee := Callee.value (Operand.func 78), args := #[Operand.tmp 25, Operand.const (Value.int IntKind.i64 8)], argTypes := #[101, 3] }, type := 3, pos := _, after := #[{ on := 1, ground := Ground.data }], guard := none }) rfl (fun K hK => ?_) AllReadyH.nil
          go_simp
          refine (pick_any Y C (kk) 8 _ (by omega) (by omega) HO.out.cur).mono ?_
          rintro e wn ⟨x0, rfl, hx0, hc, hm⟩
          have hwx0 := wrap1 x0 (by omega)
          replace HO : Hid (TA Y w wn C (kk + 2) zs (OnE zb) b4 c4 4 p4 m4) := HO.out.go hC hc hm
          replace HZ : Hid (Row wn zb 2 (fun i => if i = 0 then .slice none 0 0 else .slice none 0 0)) := HZ.out.mod hm (by have := HZB.out; omega)
          clear hc hm
          refine hK.out _ _ HO.out.box (fun hB => ?_)
          clear hK K hB
          try simp only [Act.put, List.setIfInBounds_toArray, List.set_cons_zero, List.set_cons_succ]
          refine wpAnyH_ready (rs := [6]) (by kernel_rfl) (by simp) ?_
          refine AllReadyH.cons (o := { dst := some 30, op := Op.call { callee := Callee.value (Operand.func 78), args := #[Operand.tmp 28, Operand.tmp 29], argTypes := #[101, 3] }, type := 3, pos := _, after := #[{ on := 4, ground := Ground.data }, { on := 5, ground := Ground.data }, { on := 2, ground := Ground.chain }], guard := none }) rfl (fun K hK => ?_) AllReadyH.nil
          go_simp
          refine (pick_any Y C (kk + 2) 8 _ (by omega) (by omega) HO.out.cur).mono ?_
          rintro e wn ⟨x1, rfl, hx1, hc, hm⟩
          have hwx1 := wrapF fr x1 (by omega) (by omega)
          replace HO : Hid (TA Y w wn C (kk + 2 + 2) zs (OnE zb) b4 c4 4 p4 m4) := HO.out.go hC hc hm
          replace HZ : Hid (Row wn zb 2 (fun i => if i = 0 then .slice none 0 0 else .slice none 0 0)) := HZ.out.mod hm (by have := HZB.out; omega)
          clear hc hm
          refine hK.out _ _ HO.out.box (fun hB => ?_)
          clear hK K hB
          try simp only [Act.put, List.setIfInBounds_toArray, List.set_cons_zero, List.set_cons_succ]
          refine wpAnyH_take (i := 7) (oi := { dst := some 31, op := Op.binOp BinOp.add 3 (Operand.tmp 27) (Operand.tmp 30) 3, type := 3, pos := _, after := #[{ on := 3, ground := Ground.data }, { on := 6, ground := Ground.data }], guard := none }) (v := (.int .i64 ((fr : Int) + (x1 : Int)))) rfl (by kernel_rfl) (by kernel_rfl) (by kernel_rfl) (fun _ _ _ h => h) (Or.inl ⟨by rfl, fun w' hS => by (try dsimp only at hS); go_simp⟩) HO.out.box ?_
          simp only [Act.put, List.setIfInBounds_toArray, List.set_cons_zero, List.set_cons_succ]
          refine wpAnyH_ready (rs := [9]) (by kernel_rfl) (by simp) ?_
          refine AllReadyH.cons (o := { dst := some 33, op := Op.call { callee := Callee.value (Operand.func 78), args := #[Operand.tmp 32, Operand.const (Value.int IntKind.i64 3)], argTypes := #[101, 3] }, type := 3, pos := _, after := #[{ on := 8, ground := Ground.data }, { on := 6, ground := Ground.chain }], guard := none }) rfl (fun K hK => ?_) AllReadyH.nil
          go_simp
          refine (pick_any Y C (kk + 2 + 2) 3 _ (by omega) (by omega) HO.out.cur).mono ?_
          rintro e wn ⟨x2, rfl, hx2, hc, hm⟩
          have hwx2 := wrap1 x2 (by omega)
          replace HO : Hid (TA Y w wn C (kk + 2 + 2 + 2) zs (OnE zb) b4 c4 4 p4 m4) := HO.out.go hC hc hm
          replace HZ : Hid (Row wn zb 2 (fun i => if i = 0 then .slice none 0 0 else .slice none 0 0)) := HZ.out.mod hm (by have := HZB.out; omega)
          clear hc hm
          refine hK.out _ _ HO.out.box (fun hB => ?_)
          clear hK K hB
          try simp only [Act.put, List.setIfInBounds_toArray, List.set_cons_zero, List.set_cons_succ]
          refine wpAnyH_take (i := 10) (oi := { dst := some 34, op := Op.binOp BinOp.add 3 (Operand.const (Value.int IntKind.i64 1)) (Operand.tmp 33) 3, type := 3, pos := _, after := #[{ on := 9, ground := Ground.data }], guard := none }) (v := (.int .i64 (1 + (x2 : Int)))) rfl (by kernel_rfl) (by kernel_rfl) (by kernel_rfl) (fun _ _ _ h => h) (Or.inl ⟨by rfl, fun w' hS => by (try dsimp only at hS); go_simp⟩) HO.out.box ?_
          simp only [Act.put, List.setIfInBounds_toArray, List.set_cons_zero, List.set_cons_succ]
          refine wpAnyH_ready (rs := [11]) (by kernel_rfl) (by simp) ?_
          refine AllReadyH.cons (o := { dst := some 35, op := Op.call { callee := Callee.value (Operand.func 115), args := #[Operand.tmp 24, Operand.tmp 26, Operand.tmp 31, Operand.tmp 34], argTypes := #[29, 3, 3, 3] }, type := 62, pos := _, after := #[{ on := 0, ground := Ground.data }, { on := 2, ground := Ground.data }, { on := 7, ground := Ground.data }, { on := 10, ground := Ground.data }, { on := 9, ground := Ground.chain }], guard := none }) rfl (fun K hK => ?_) AllReadyH.nil
          go_simp
          refine (specMap_any b4 (T4 c4 4 p4 m4) (x0 : Int) ((fr : Int) + (x1 : Int)) (1 + (x2 : Int)) _ _ (by show 4 ≤ _; omega) HO.out.own.at).mono ?_
          rintro e wn ⟨b3, R, r3, rfl, ho3, hs3, own3, hbk⟩
          have HRR : Hid (r3 = true → ∃ c' p' m', R = T4 c' 4 p' m') := ch_shape ho3
          have hzl := HO.out.zl
          have hsz := hbk.size
          have hzz := HZ.out.lt
          replace HZ : Hid (Row wn zb 2 (fun i => if i = 0 then .slice none 0 0 else .slice none 0 0)) := HZ.out.blw hbk
          have HOW : Hid (BookOwn (fun x => w.heap.size < x ∧ x < wn.heap.size ∧ x ≠ zs ∧ ¬ OnE zb x) wn b3 R) := own3.mono (fun x hx => ⟨by omega, hx.2, by omega, fun e => by have e' : x = zb := e; omega⟩)
          replace HO : Hid (TA Y w wn C (kk + 2 + 2 + 2) zs (OnE zb) b4 c4 4 p4 m4) := HO.out.blw hbk
          clear ho3 hs3 own3 hbk hzl hsz hzz
          refine hK.out _ _ HO.out.box (fun hB => ?_)
          clear hK K hB
          try simp only [Act.put, List.setIfInBounds_toArray, List.set_cons_zero, List.set_cons_succ]
          refine wpAnyH_take (i := 12) (oi := { dst := some 23, op := Op.move (Operand.tmp 35), type := 62, pos := _, after := #[{ on := 11, ground := Ground.data }], guard := none }) (v := (.tuple #[b3.val R, .bool r3])) rfl (by kernel_rfl) (by kernel_rfl) (by kernel_rfl) (fun _ _ _ h => h) (Or.inl ⟨by rfl, fun w' hS => by (try dsimp only at hS); go_simp⟩) HO.out.box ?_
          simp only [Act.put, List.setIfInBounds_toArray, List.set_cons_zero, List.set_cons_succ]
          refine wpAnyH_take (i := 13) (oi := { dst := some 36, op := Op.extract (Operand.tmp 23) 0, type := 29, pos := _, after := #[{ on := 12, ground := Ground.data }], guard := none }) (v := (.agg #[.slice b3.a1 R.n b3.c1, .slice b3.a2 R.D.n b3.c2])) rfl (by kernel_rfl) (by kernel_rfl) (by kernel_rfl) (fun _ _ _ h => h) (Or.inl ⟨by rfl, fun w' hS => by (try dsimp only at hS); go_simp⟩) HO.out.box ?_
          simp only [Act.put, List.setIfInBounds_toArray, List.set_cons_zero, List.set_cons_succ]
          refine wpAnyH_take (i := 14) (oi := { dst := some 37, op := Op.extract (Operand.tmp 23) 1, type := 4, pos := _, after := #[{ on := 12, ground := Ground.data }, { on := 16, ground := Ground.gcOnly Departure.lateStores }], guard := none }) (v := (.bool r3)) rfl (by kernel_rfl) (by kernel_rfl) (by kernel_rfl) (fun _ _ _ h => h) (Or.inl ⟨by rfl, fun w' hS => by (try dsimp only at hS); go_simp⟩) HO.out.box ?_
          simp only [Act.put, List.setIfInBounds_toArray, List.set_cons_zero, List.set_cons_succ]
          refine wpAnyH_ready (rs := [16]) (by kernel_rfl) (by simp) ?_
          refine AllReadyH.cons (o := { dst := none, op := Op.store 29 (Operand.tmp 10) (Operand.tmp 36), type := 0, pos := _, after := #[{ on := 15, ground := Ground.data }, { on := 13, ground := Ground.data }, { on := 11, ground := Ground.chain }, { on := 0, ground := Ground.phase }, { on := 1, ground := Ground.phase }, { on := 2, ground := Ground.phase }, { on := 3, ground := Ground.phase }, { on := 4, ground := Ground.phase }, { on := 5, ground := Ground.phase }, { on := 6, ground := Ground.phase }, { on := 7, ground := Ground.phase }, { on := 8, ground := Ground.phase }, { on := 9, ground := Ground.phase }, { on := 10, ground := Ground.phase }, { on := 11, ground := Ground.phase }, { on := 12, ground := Ground.phase }, { on := 13, ground := Ground.phase }, { on := 14, ground := Ground.textOnly Departure.lateStores }, { on := 15, ground := Ground.phase }], guard := none }) rfl (fun K hK => ?_) AllReadyH.nil
          obtain ⟨z0, z1⟩ := get2 HZ.out
          have fz0 := HZ.out.frozen 0
          have fz1 := HZ.out.frozen 1
          have FIN : Hid _ := got_fin hC hYw HO.out HZ.out ⟨HZB.out.1, HZB.out.2.1⟩ HRR.out HOW.out
          go_simp
          refine hK.out _ _ (by obtain ⟨_, _, _, _, _, _, ho, _⟩ := FIN.out; exact ho.box) (fun hB => ?_)
          clear hK K hB
          try simp only [Act.put, List.setIfInBounds_toArray, List.set_cons_zero, List.set_cons_succ]
          clear z0 z1 fz0 fz1
          refine wpAnyH_take (i := 17) (oi := { dst := some 11, op := Op.assign (Operand.tmp 37), type := 4, pos := _, after := #[{ on := 14, ground := Ground.data }, { on := 16, ground := Ground.chain }, { on := 0, ground := Ground.phase }, { on := 1, ground := Ground.phase }, { on := 2, ground := Ground.phase }, { on := 3, ground := Ground.phase }, { on := 4, ground := Ground.phase }, { on := 5, ground := Ground.phase }, { on := 6, ground := Ground.phase }, { on := 7, ground := Ground.phase }, { on := 8, ground := Ground.phase }, { on := 9, ground := Ground.phase }, { on := 10, ground := Ground.phase }, { on := 11, ground := Ground.phase }, { on := 12, ground := Ground.phase }, { on := 13, ground := Ground.phase }, { on := 14, ground := Ground.phase }, { on := 15, ground := Ground.phase }, { on := 16, ground := Ground.phase }], guard := none }) (v := (.bool r3)) rfl (by kernel_rfl) (by kernel_rfl) (by kernel_rfl) (fun _ _ _ h => h) (Or.inl ⟨by rfl, fun w' hS => by (try dsimp only at hS); go_simp⟩) (by obtain ⟨_, _, _, _, _, _, ho, _⟩ := FIN.out; exact ho.box) ?_
          simp only [Act.put, List.setIfInBounds_toArray, List.set_cons_zero, List.set_cons_succ]
          refine wpAnyH_done (by kernel_rfl) ?_ _
          refine NoPanic.normal ?_
          go_wp2_with fail
          go_meet
          exact FIN.out
      case rest =>
        clear HO P0 P1
        obtain ⟨zb, b3, R, r, rfl, rfl, ho, hzb, hne, hlo, hr, own⟩ := hcut
        have HOZ : Hid (w.heap.size < zb) := hlo
        have HO : Hid (TA Y w wc C (kk + 2 + 2 + 2) zs NoE b4 c4 4 p4 m4) := ho
        have HZ : Hid (Row wc zb 2 (bx2 b3 R.n R.D.n)) := hzb
        have HR : Hid (r = true → ∃ c' p' m', R = T4 c' 4 p' m') := hr
        have HOO : Hid (BookOwn (fun x => w.heap.size < x ∧ x < wc.heap.size ∧ x ≠ zs) wc b3 R) := own
        clear ho hzb hr own hlo
        clear wr
        cases r
        · have HFN : Hid (Tw4 Y w wc C (k + 2 + 6 * (10 - (i - 1))) zs) := ⟨_, _, _, _, HO.out.le (by have := HKK.out; omega)⟩
          clear HZ HO HR HOO
          go_wp2
          go_roundw
          case rel => exact ⟨i - 1, by omega, by congr 1; omega, HFN.out⟩
          case measure => simp [intOf]; omega
        · obtain ⟨z0, z1⟩ := get2 HZ.out
          obtain ⟨t0, t1⟩ := get2 HO.out.box
          have f0 := HO.out.box.frozen 0
          have f1 := HO.out.box.frozen 1
          have FIN : Hid _ := got_yes4 hC hYw HO.out (HR.out (by first | rfl | trivial)) HOO.out
          have HFN : Hid (Tw4 Y w ((wc.setCell ⟨zs, 0, none⟩ (.slice b3.a1 R.n b3.c1)).setCell ⟨zs, 1, none⟩ (.slice b3.a2 R.D.n b3.c2)) C (k + 2 + 6 * (10 - (i - 1))) zs) := by obtain ⟨b9, c9, p9, m9, ho9⟩ := FIN.out; exact ⟨b9, c9, p9, m9, ho9.le (by have := HKK.out; omega)⟩
          clear HZ HO HR HOO FIN
          go_wp2
          go_roundw
          case rel => exact ⟨i - 1, by omega, by congr 1; omega, HFN.out⟩
          case measure => simp [intOf]; omega
    · obtain rfl : i = 0 := by omega
      obtain ⟨b4, c4, p4, m4, ho4⟩ := HOW0.out
      have HO : Hid (TA Y w wr C (k + 2 + 6 * (10 - 0)) zs NoE b4 c4 4 p4 m4) := ho4
      have FIN : Hid _ := tw_fin (K := k + 200) hC hYw HO.out (by omega)
      obtain ⟨t0, t1⟩ := get2 HO.out.out
      have f0 := HO.out.out.frozen 0
      have f1 := HO.out.out.frozen 1
      obtain ⟨s0, s1⟩ := get2 HO.out.box
      clear HOW0 ho4 HO
      go_wp2
      exact bodyPost_ret (v := b4.val (T4 c4 4 p4 m4)) (by simp [results, Try.results173, go_sem, t0, t1, BV.val]) rfl ⟨b4, c4, p4, m4, rfl, FIN.out⟩
end Go.Proofs.Ytjplodenflkghaa
/- What the laws on tables draw. -/
namespace Go.Proofs.Ytjplodenflkghaa
open Go.RowKit
set_option linter.unusedSimpArgs false
set_option linter.unusedVariables false
theorem bytes_more {w w' : World} {ao : Option Addr} {n : Nat} {f : Nat → Int} (h : BytesAt (fun b => b < w.heap.size) w ao n f) (hb : Blw w w') : BytesAt (fun b => b < w'.heap.size) w' ao n f :=
  ⟨h.1, fun i hi => let ⟨b, o, h1, hX, h2⟩ := (h.blw hb).2 i hi; ⟨b, o, h1, Nat.lt_of_lt_of_le hX hb.size, h2⟩⟩
theorem draw_start (w : World) (ao : Option Addr) (n cc : Nat) (f : Nat → Int) (h : BytesAt (fun b => b < w.heap.size) w ao n f) :
    Blw w ((w.alloc (.cells #[.slice none 0 0, .slice none 0 0] 29)).alloc (.cells #[.slice ao n cc, .int .i64 0, .int .u64 0] 104)) ∧ Cur (fun b => b < w.heap.size) ((w.alloc (.cells #[.slice none 0 0, .slice none 0 0] 29)).alloc (.cells #[.slice ao n cc, .int .i64 0, .int .u64 0] 104)) (w.heap.size + 1) 0 ∧ Row ((w.alloc (.cells #[.slice none 0 0, .slice none 0 0] 29)).alloc (.cells #[.slice ao n cc, .int .i64 0, .int .u64 0] 104)) w.heap.size 2 (fun i => if i = 0 then .slice none 0 0 else .slice none 0 0) ∧ ((w.alloc (.cells #[.slice none 0 0, .slice none 0 0] 29)).alloc (.cells #[.slice ao n cc, .int .i64 0, .int .u64 0] 104)).heap.size = w.heap.size + 2 := by
  have hb0 : Blw w ((w.alloc (.cells #[.slice none 0 0, .slice none 0 0] 29)).alloc (.cells #[.slice ao n cc, .int .i64 0, .int .u64 0] 104)) := ((Blw.refl _).alloc _).alloc _
  refine ⟨hb0, ⟨ao, n, cc, 0, f, 0, ?_, h.blw hb0, Nat.le_refl _, fun b hb => by omega⟩, (box2 w _ _ 29).blw ((Blw.refl _).alloc _), by simp⟩
  have := box3 (w.alloc (.cells #[.slice none 0 0, .slice none 0 0] 29)) (.slice ao n cc) (.int .i64 0) (.int .u64 0) 104
  rw [World.size_alloc] at this
  exact this
/-- A table that was drawn, the cursor at w's size and one. -/
structure Dr (w wr : World) (k : Nat) (b : BV) (B : BD) : Prop where
  blw : Blw w wr
  cur : Cur (fun x => x < w.heap.size) wr (w.heap.size + 1) k
  out : Row wr w.heap.size 2 (fun i => if i = 0 then .slice none 0 0 else .slice none 0 0)
  at_ : BookAt (fun x => w.heap.size + 1 < x ∧ x < wr.heap.size) wr b B
theorem Dr.go {w wr w1 : World} {k k' : Nat} {b : BV} {B : BD} (h : Dr w wr k b B) (hc : Cur (fun x => x < w.heap.size) w1 (w.heap.size + 1) k') (hm : Mod (fun b => b = w.heap.size + 1) wr w1) : Dr w w1 k' b B := by
  have hs := hm.size
  exact ⟨Mod.blw h.blw hm (fun i hi => by omega), hc, h.out.mod hm (by omega), (h.at_.mod hm (fun x hx e => by omega)).mono (fun x hx => by omega)⟩
theorem Dr.step {w wr w1 : World} {k : Nat} {b : BV} {B : BD} (h : Dr w wr k b B) (hb : Blw wr w1) : Dr w w1 k b B := by
  have hs := hb.size
  exact ⟨h.blw.trans hb, h.cur.blw hb, h.out.blw hb, (h.at_.blw hb).mono (fun x hx => by omega)⟩
abbrev bput (w wr : World) (b : BV) (B : BD) : World := (wr.setCell ⟨w.heap.size, 0, none⟩ (.slice b.a1 B.n b.c1)).setCell ⟨w.heap.size, 1, none⟩ (.slice b.a2 B.D.n b.c2)
def Drawn (w w' : World) (b : BV) (B : BD) : Prop := BookAt (fun x => w.heap.size < x ∧ x < w'.heap.size) w' b B ∧ Blw w w'
theorem Dr.fin {w wr : World} {k : Nat} {b : BV} {B : BD} (h : Dr w wr k b B) : Drawn w (bput w wr b B) b B := by
  have ms := set2_mod (X := fun x => x = w.heap.size) wr rfl (.slice b.a1 B.n b.c1) (.slice b.a2 B.D.n b.c2)
  have hs := ms.size
  exact ⟨(h.at_.mod ms (fun x hx e => by omega)).mono (fun x hx => ⟨by omega, Nat.lt_of_lt_of_le hx.2 hs⟩), Mod.blw h.blw ms (fun i hi => by omega)⟩
theorem five_ints (W : World) : IntsAt (fun b => b = W.heap.size) (W.alloc (.cells #[.int .i64 (-1), .int .i64 0, .int .i64 7, .int .i64 15, .int .i64 16] 3)) (some ⟨W.heap.size, 0, none⟩) 5 (fun i => if i = 0 then -1 else if i = 1 then 0 else if i = 2 then 7 else if i = 3 then 15 else 16) := by
  have r5 := row5 W (.int .i64 (-1)) (.int .i64 0) (.int .i64 7) (.int .i64 15) (.int .i64 16) 3
  refine ⟨by omega, fun i hi => ⟨W.heap.size, 0, rfl, rfl, ?_⟩⟩
  rw [Nat.zero_add, r5.cell hi]
  match i, hi with
  | 0, _ => rfl
  | 1, _ => rfl
  | 2, _ => rfl
  | 3, _ => rfl
  | 4, _ => rfl
set_option maxHeartbeats 3200000 in
theorem goodTable_any (ao : Option Addr) (n cc : Nat) (f : Nat → Int) (w : World) (h : BytesAt (fun b => b < w.heap.size) w ao n f) :
    Calls Try.prog 109 #[.slice ao n cc] w fun e w' => ∃ b B, e = .returned (b.val B) ∧ B.n = 4 ∧ Drawn w w' b B := by
  obtain ⟨hb0, c0, rR, sz⟩ := draw_start w ao n cc f h
  clear h
  go_enter Try.func109, Try.ntmps109
  go_wp2_with fail
  refine (table_any _ (w.heap.size + 1) 0 _ (by omega) (fun b hb => by omega) c0).mono ?_
  rintro e w1 ⟨b, c, kn, p, m, rfl, -, own, c1, m1⟩
  have HD : Hid (Dr w w1 (0 + 400) b (T4 c kn p m)) := ⟨Mod.blw hb0 m1 (fun i hi => by omega), c1, rR.mod m1 (by omega), own.at.mono (fun x hx => by omega)⟩
  clear hb0 c0 rR sz own c1 m1
  obtain ⟨t0, t1⟩ := get2 HD.out.out
  have f0 := HD.out.out.frozen 0
  have f1 := HD.out.out.frozen 1
  have FIN : Hid (Drawn w (bput w w1 b (T4 c kn p m)) b (T4 c kn p m)) := HD.out.fin
  clear HD
  go_wp2
  exact bodyPost_ret (v := b.val (T4 c kn p m)) (by simp [results, Try.results109, go_sem, t0, t1, BV.val]) rfl ⟨b, _, rfl, rfl, FIN.out⟩
end Go.Proofs.Ytjplodenflkghaa
/- Nests that are drawn. -/
namespace Go.Proofs.Ytjplodenflkghaa
open Go.RowKit
set_option linter.unusedSimpArgs false
set_option linter.unusedVariables false
/-- A nest as it is drawn. -/
def NDr (D : ND) : Prop := ∃ cg pg mg ch kn ph mh, D = ⟨T4 cg 4 pg mg, T4 ch kn ph mh⟩ ∧ (1 ≤ kn ∧ kn ≤ 4)
theorem NDr.small {D : ND} (h : NDr D) : D.small := by
  obtain ⟨cg, pg, mg, ch, kn, ph, mh, rfl, hk⟩ := h
  exact ⟨small4 (by omega), small4 hk.2⟩
theorem NDr.n {D : ND} (h : NDr D) : D.G.n ≤ 1048576 ∧ D.H.n ≤ 1048576 := by
  obtain ⟨cg, pg, mg, ch, kn, ph, mh, rfl, hk⟩ := h
  exact ⟨by show 4 ≤ _; omega, by show 4 ≤ _; omega⟩
theorem nest_fin {w W : World} {g h : BV} {cg ch : Nat → Int} {pg mg ph mh : Nat → Nat → Int} {kn C K k : Nat} {Y X1 X2 : Nat → Prop} (hC : C < w.heap.size) (hY : ∀ x, Y x → x < w.heap.size) (own1 : BookOwn X1 W g (T4 cg 4 pg mg)) (own2 : BookOwn X2 W h (T4 ch kn ph mh)) (h1 : ∀ x, X1 x → (w.heap.size < x ∧ x < W.heap.size) ∧ ¬ X2 x) (h2 : ∀ x, X2 x → w.heap.size < x ∧ x < W.heap.size)
    (hc : Cur Y W C k) (hk : k ≤ K) (hm : Mod (fun b => b = C) w W) :
    NOwn (fun x => w.heap.size < x ∧ x < (set4 W w.heap.size (.slice g.a1 4 g.c1) (.slice g.a2 4 g.c2) (.slice h.a1 4 h.c1) (.slice h.a2 kn h.c2)).heap.size) (set4 W w.heap.size (.slice g.a1 4 g.c1) (.slice g.a2 4 g.c2) (.slice h.a1 4 h.c1) (.slice h.a2 kn h.c2)) ⟨g, h⟩ ⟨T4 cg 4 pg mg, T4 ch kn ph mh⟩ ∧ Cur Y (set4 W w.heap.size (.slice g.a1 4 g.c1) (.slice g.a2 4 g.c2) (.slice h.a1 4 h.c1) (.slice h.a2 kn h.c2)) C K ∧ Mod (fun b => b = C) w (set4 W w.heap.size (.slice g.a1 4 g.c1) (.slice g.a2 4 g.c2) (.slice h.a1 4 h.c1) (.slice h.a2 kn h.c2)) := by
  have ms := set4_mod W w.heap.size (.slice g.a1 4 g.c1) (.slice g.a2 4 g.c2) (.slice h.a1 4 h.c1) (.slice h.a2 kn h.c2)
  have hs := ms.size
  refine ⟨⟨X1, X2, fun x hx => ⟨by have := h1 x hx; omega, (h1 x hx).2⟩, fun x hx => by have := h2 x hx; omega, own1.mod ms (fun x hx e => by have := h1 x hx; omega), own2.mod ms (fun x hx e => by have := h2 x hx; omega)⟩, (hc.mod ms (by omega) (fun x hx e => by have := hY x hx; omega)).le hk, hm.newer' ms (fun i hi => by omega)⟩
set_option maxRecDepth 10000 in
set_option maxHeartbeats 6400000 in
theorem nest_any (Y : Nat → Prop) (C k fr : Nat) (w : World) (hfr : fr ≤ 8) (hk : k ≤ 600000) (hY : ∀ b, Y b → b < w.heap.size ∧ b ≠ C) (h : Cur Y w C k) :
    Calls Try.prog 117 #[.pointer (some ⟨C, 0, none⟩), .int .i64 (fr : Int)] w fun e w' => ∃ v D, e = .returned (v.val D) ∧ NDr D ∧ NOwn (fun x => w.heap.size < x ∧ x < w'.heap.size) w' v D ∧ Cur Y w' C (k + 1000) ∧ Mod (fun b => b = C) w w' := by
  have hC := h.lt
  have hYw : ∀ x, Y x → x < w.heap.size := fun x hx => (hY x hx).1
  have hYC : ∀ x, Y x → x ≠ C := fun x hx => (hY x hx).2
  have hb0 : Blw w (w.alloc (.cells #[.slice none 0 0, .slice none 0 0, .slice none 0 0, .slice none 0 0] 60)) := (Blw.refl _).alloc _
  have HZ : Hid (Row (w.alloc (.cells #[.slice none 0 0, .slice none 0 0, .slice none 0 0, .slice none 0 0] 60)) w.heap.size 4 (fun i => if i = 0 then .slice none 0 0 else if i = 1 then .slice none 0 0 else if i = 2 then .slice none 0 0 else .slice none 0 0)) := box4 w _ _ _ _ 60
  have HCU : Hid (Cur Y (w.alloc (.cells #[.slice none 0 0, .slice none 0 0, .slice none 0 0, .slice none 0 0] 60)) C k) := h.blw hb0
  have HM : Hid (Mod (fun b => b = C) w (w.alloc (.cells #[.slice none 0 0, .slice none 0 0, .slice none 0 0, .slice none 0 0] 60))) := hb0.mod _
  have HS : Hid ((w.alloc (.cells #[.slice none 0 0, .slice none 0 0, .slice none 0 0, .slice none 0 0] 60)).heap.size = w.heap.size + 1) := by show _ = _; simp
  clear h hb0 hY
  go_enter Try.func117, Try.ntmps117
  go_upto_region 1 with fail
  generalize (w.alloc (.cells #[.slice none 0 0, .slice none 0 0, .slice none 0 0, .slice none 0 0] 60)) = w0 at *
  go_wp2_with fail
  refine (wholeTable_any Y C k 0 _ (by omega) (by omega) (fun b hb => ⟨by have := hYw b hb; have := HS.out; omega, hYC b hb⟩) HCU.out).mono ?_
  rintro e w1 ⟨g, cg, pg, mg, rfl, own1, c1, m1⟩
  have hs1 := m1.size
  have HO1 : Hid (BookOwn (fun x => w.heap.size < x ∧ x < w1.heap.size) w1 g (T4 cg 4 pg mg)) := own1.mono (fun x hx => by have := HS.out; omega)
  replace HZ : Hid (Row w1 w.heap.size 4 (fun i => if i = 0 then .slice none 0 0 else if i = 1 then .slice none 0 0 else if i = 2 then .slice none 0 0 else .slice none 0 0)) := HZ.out.mod m1 (by omega)
  replace HCU : Hid (Cur Y w1 C (k + 200)) := c1
  replace HM : Hid (Mod (fun b => b = C) w w1) := HM.out.trans m1
  replace HS : Hid (w.heap.size + 1 ≤ w1.heap.size) := by have := HS.out; show _ ≤ _; omega
  clear own1 c1 m1 hs1
  go_wp2_with fail
  refine (wholeTable_any Y C (k + 200) fr _ hfr (by omega) (fun b hb => ⟨by have := hYw b hb; have := HS.out; omega, hYC b hb⟩) HCU.out).mono ?_
  rintro e w2 ⟨h, ch, ph, mh, rfl, own2, c2, m2⟩
  have hs2 := m2.size
  have hA : Blw w2 (w2.alloc (.cells #[.slice g.a1 4 g.c1, .slice g.a2 4 g.c2, .slice h.a1 4 h.c1, .slice h.a2 4 h.c2] 60)) := (Blw.refl _).alloc _
  have HR5 : Hid (Row (w2.alloc (.cells #[.slice g.a1 4 g.c1, .slice g.a2 4 g.c2, .slice h.a1 4 h.c1, .slice h.a2 4 h.c2] 60)) w2.heap.size 4 (fun i => if i = 0 then .slice g.a1 4 g.c1 else if i = 1 then .slice g.a2 4 g.c2 else if i = 2 then .slice h.a1 4 h.c1 else .slice h.a2 4 h.c2)) := box4 w2 _ _ _ _ 60
  have HO2 : Hid (BookOwn (fun x => w1.heap.size < x ∧ x < w2.heap.size) (w2.alloc (.cells #[.slice g.a1 4 g.c1, .slice g.a2 4 g.c2, .slice h.a1 4 h.c1, .slice h.a2 4 h.c2] 60)) h (T4 ch 4 ph mh)) := own2.blw hA
  replace HO1 : Hid (BookOwn (fun x => w.heap.size < x ∧ x < w1.heap.size) (w2.alloc (.cells #[.slice g.a1 4 g.c1, .slice g.a2 4 g.c2, .slice h.a1 4 h.c1, .slice h.a2 4 h.c2] 60)) g (T4 cg 4 pg mg)) := (HO1.out.mod m2 (fun x hx e => by omega)).blw hA
  replace HZ : Hid (Row (w2.alloc (.cells #[.slice g.a1 4 g.c1, .slice g.a2 4 g.c2, .slice h.a1 4 h.c1, .slice h.a2 4 h.c2] 60)) w.heap.size 4 (fun i => if i = 0 then .slice none 0 0 else if i = 1 then .slice none 0 0 else if i = 2 then .slice none 0 0 else .slice none 0 0)) := (HZ.out.mod m2 (by omega)).blw hA
  replace HCU : Hid (Cur Y (w2.alloc (.cells #[.slice g.a1 4 g.c1, .slice g.a2 4 g.c2, .slice h.a1 4 h.c1, .slice h.a2 4 h.c2] 60)) C (k + 200 + 200)) := c2.blw hA
  replace HM : Hid (Mod (fun b => b = C) w (w2.alloc (.cells #[.slice g.a1 4 g.c1, .slice g.a2 4 g.c2, .slice h.a1 4 h.c1, .slice h.a2 4 h.c2] 60))) := (HM.out.trans m2).trans (hA.mod _)
  have HS2 : Hid (w.heap.size + 1 ≤ w1.heap.size ∧ w1.heap.size ≤ w2.heap.size ∧ (w2.alloc (.cells #[.slice g.a1 4 g.c1, .slice g.a2 4 g.c2, .slice h.a1 4 h.c1, .slice h.a2 4 h.c2] 60)).heap.size = w2.heap.size + 1) := ⟨HS.out, hs2, by simp⟩
  clear own2 c2 m2 hs2 hA HS
  go_upto_region 2 with fail
  generalize (w2.alloc (.cells #[.slice g.a1 4 g.c1, .slice g.a2 4 g.c2, .slice h.a1 4 h.c1, .slice h.a2 4 h.c2] 60)) = w3 at *
  generalize w1.heap.size = z1 at *
  generalize w2.heap.size = z2 at *
  go_wp2_with fail
  refine (one_any Y C (k + 200 + 200) 30 _ (by omega) (by omega) HCU.out).mono ?_
  rintro e w4 ⟨r, rfl, c4, m4⟩
  have hs4 := m4.size
  have hss := HS2.out
  replace HR5 : Hid (Row w4 z2 4 (fun i => if i = 0 then .slice g.a1 4 g.c1 else if i = 1 then .slice g.a2 4 g.c2 else if i = 2 then .slice h.a1 4 h.c1 else .slice h.a2 4 h.c2)) := HR5.out.mod m4 (by omega)
  replace HO2 : Hid (BookOwn (fun x => z1 < x ∧ x < z2) w4 h (T4 ch 4 ph mh)) := HO2.out.mod m4 (fun x hx e => by omega)
  replace HO1 : Hid (BookOwn (fun x => w.heap.size < x ∧ x < z1) w4 g (T4 cg 4 pg mg)) := HO1.out.mod m4 (fun x hx e => by omega)
  replace HZ : Hid (Row w4 w.heap.size 4 (fun i => if i = 0 then .slice none 0 0 else if i = 1 then .slice none 0 0 else if i = 2 then .slice none 0 0 else .slice none 0 0)) := HZ.out.mod m4 (by omega)
  replace HCU : Hid (Cur Y w4 C (k + 200 + 200 + 2)) := c4
  replace HM : Hid (Mod (fun b => b = C) w w4) := HM.out.trans m4
  replace HS2 : Hid (w.heap.size + 1 ≤ z1 ∧ z1 ≤ z2 ∧ z2 < w4.heap.size) := ⟨by omega, by omega, by omega⟩
  clear c4 m4 hs4 hss
  cases r
  · have FIN : Hid _ := nest_fin (K := k + 1000) hC hYw HO1.out HO2.out (fun x hx => ⟨by have := HS2.out; omega, fun hh => by omega⟩) (fun x hx => by have := HS2.out; omega) HCU.out (by omega) HM.out
    obtain ⟨t0, t1, t2, t3⟩ := get4 HZ.out
    have f0 := HZ.out.frozen 0; have f1 := HZ.out.frozen 1; have f2 := HZ.out.frozen 2; have f3 := HZ.out.frozen 3
    obtain ⟨p0, p1, p2, p3⟩ := get4 HR5.out
    clear HR5 HO1 HO2 HZ HCU HM
    go_wp2
    exact bodyPost_ret (v := NV.val ⟨g, h⟩ ⟨T4 cg 4 pg mg, T4 ch 4 ph mh⟩) (by simp [results, Try.results117, go_sem, t0, t1, t2, t3]) rfl ⟨⟨g, h⟩, _, rfl, ⟨cg, pg, mg, ch, 4, ph, mh, rfl, by omega⟩, FIN.out⟩
  go_wp2_with fail
  refine (table_any Y C (k + 200 + 200 + 2) _ (by omega) (fun b hb => ⟨by have := hYw b hb; have := HS2.out; omega, hYC b hb⟩) HCU.out).mono ?_
  rintro e w5 ⟨h3, c3, kn, p3, m3, rfl, hkn, own3, c5, m5⟩
  have hs5 := m5.size
  have hss := HS2.out
  have r5 := HR5.out.mod m5 (by omega)
  have hm6 := setn2_mod (X := fun x => x = z2) w5 (B := z2) rfl 2 3 (.slice h3.a1 4 h3.c1) (.slice h3.a2 kn h3.c2)
  have HR6 : Hid (Row ((w5.setCell ⟨z2, 2, none⟩ (.slice h3.a1 4 h3.c1)).setCell ⟨z2, 3, none⟩ (.slice h3.a2 kn h3.c2)) z2 4 (fun i => if i = 0 then .slice g.a1 4 g.c1 else if i = 1 then .slice g.a2 4 g.c2 else if i = 2 then .slice h3.a1 4 h3.c1 else .slice h3.a2 kn h3.c2)) := set4_23 r5 _ _
  have hs6 := hm6.size
  have HO3 : Hid (BookOwn (fun x => w4.heap.size < x ∧ x < w5.heap.size) ((w5.setCell ⟨z2, 2, none⟩ (.slice h3.a1 4 h3.c1)).setCell ⟨z2, 3, none⟩ (.slice h3.a2 kn h3.c2)) h3 (T4 c3 kn p3 m3)) := own3.mod hm6 (fun x hx e => by omega)
  replace HO1 : Hid (BookOwn (fun x => w.heap.size < x ∧ x < z1) ((w5.setCell ⟨z2, 2, none⟩ (.slice h3.a1 4 h3.c1)).setCell ⟨z2, 3, none⟩ (.slice h3.a2 kn h3.c2)) g (T4 cg 4 pg mg)) := (HO1.out.mod m5 (fun x hx e => by omega)).mod hm6 (fun x hx e => by omega)
  replace HZ : Hid (Row ((w5.setCell ⟨z2, 2, none⟩ (.slice h3.a1 4 h3.c1)).setCell ⟨z2, 3, none⟩ (.slice h3.a2 kn h3.c2)) w.heap.size 4 (fun i => if i = 0 then .slice none 0 0 else if i = 1 then .slice none 0 0 else if i = 2 then .slice none 0 0 else .slice none 0 0)) := (HZ.out.mod m5 (by omega)).mod hm6 (by omega)
  replace HCU : Hid (Cur Y ((w5.setCell ⟨z2, 2, none⟩ (.slice h3.a1 4 h3.c1)).setCell ⟨z2, 3, none⟩ (.slice h3.a2 kn h3.c2)) C (k + 200 + 200 + 2 + 400)) := c5.mod hm6 (by omega) (fun x hx e => by have := hYw x hx; omega)
  replace HM : Hid (Mod (fun b => b = C) w ((w5.setCell ⟨z2, 2, none⟩ (.slice h3.a1 4 h3.c1)).setCell ⟨z2, 3, none⟩ (.slice h3.a2 kn h3.c2))) := (HM.out.trans m5).newer' hm6 (fun i hi => by omega)
  have HS5 : Hid (w4.heap.size ≤ w5.heap.size ∧ w5.heap.size ≤ ((w5.setCell ⟨z2, 2, none⟩ (.slice h3.a1 4 h3.c1)).setCell ⟨z2, 3, none⟩ (.slice h3.a2 kn h3.c2)).heap.size) := ⟨hs5, hs6⟩
  have HKN : Hid (1 ≤ kn ∧ kn ≤ 4) := hkn
  obtain ⟨q0, q1, q2, q3⟩ := get4 r5
  have g2 := r5.frozen 2
  have g3 := r5.frozen 3
  clear own3 c5 m5 hs5 hss hm6 hs6 HR5 HO2 r5 hkn
  go_upto_region 4 with fail
  clear q0 q1 q2 q3 g2 g3
  generalize ((w5.setCell ⟨z2, 2, none⟩ (.slice h3.a1 4 h3.c1)).setCell ⟨z2, 3, none⟩ (.slice h3.a2 kn h3.c2)) = w6 at *
  have FIN : Hid _ := nest_fin (K := k + 1000) hC hYw HO1.out HO3.out (fun x hx => ⟨by have := HS2.out; have := HS5.out; omega, fun hh => by have := HS2.out; omega⟩) (fun x hx => by have := HS2.out; have := HS5.out; omega) HCU.out (by omega) HM.out
  obtain ⟨t0, t1, t2, t3⟩ := get4 HZ.out
  have f0 := HZ.out.frozen 0; have f1 := HZ.out.frozen 1; have f2 := HZ.out.frozen 2; have f3 := HZ.out.frozen 3
  obtain ⟨p0, p1, p2, p3'⟩ := get4 HR6.out
  clear HR6 HO1 HO3 HZ HCU HM
  go_wp2
  exact bodyPost_ret (v := NV.val ⟨g, h3⟩ ⟨T4 cg 4 pg mg, T4 c3 kn p3 m3⟩) (by simp [results, Try.results117, go_sem, t0, t1, t2, t3]) rfl ⟨⟨g, h3⟩, _, rfl, ⟨cg, pg, mg, c3, kn, p3, m3, rfl, HKN.out⟩, FIN.out⟩
end Go.Proofs.Ytjplodenflkghaa
/- What the laws on nests draw. -/
namespace Go.Proofs.Ytjplodenflkghaa
open Go.RowKit
set_option linter.unusedSimpArgs false
set_option linter.unusedVariables false
theorem draw_startN (w : World) (ao : Option Addr) (n cc : Nat) (f : Nat → Int) (h : BytesAt (fun b => b < w.heap.size) w ao n f) :
    Blw w ((w.alloc (.cells #[.slice none 0 0, .slice none 0 0, .slice none 0 0, .slice none 0 0] 60)).alloc (.cells #[.slice ao n cc, .int .i64 0, .int .u64 0] 104)) ∧ Cur (fun b => b < w.heap.size) ((w.alloc (.cells #[.slice none 0 0, .slice none 0 0, .slice none 0 0, .slice none 0 0] 60)).alloc (.cells #[.slice ao n cc, .int .i64 0, .int .u64 0] 104)) (w.heap.size + 1) 0 ∧ Row ((w.alloc (.cells #[.slice none 0 0, .slice none 0 0, .slice none 0 0, .slice none 0 0] 60)).alloc (.cells #[.slice ao n cc, .int .i64 0, .int .u64 0] 104)) w.heap.size 4 (fun i => if i = 0 then .slice none 0 0 else if i = 1 then .slice none 0 0 else if i = 2 then .slice none 0 0 else .slice none 0 0) ∧ ((w.alloc (.cells #[.slice none 0 0, .slice none 0 0, .slice none 0 0, .slice none 0 0] 60)).alloc (.cells #[.slice ao n cc, .int .i64 0, .int .u64 0] 104)).heap.size = w.heap.size + 1 + 1 := by
  have hb0 : Blw w ((w.alloc (.cells #[.slice none 0 0, .slice none 0 0, .slice none 0 0, .slice none 0 0] 60)).alloc (.cells #[.slice ao n cc, .int .i64 0, .int .u64 0] 104)) := ((Blw.refl _).alloc _).alloc _
  refine ⟨hb0, ⟨ao, n, cc, 0, f, 0, ?_, h.blw hb0, Nat.le_refl _, fun b hb => by omega⟩, (box4 w _ _ _ _ 60).blw ((Blw.refl _).alloc _), by simp⟩
  have := box3 (w.alloc (.cells #[.slice none 0 0, .slice none 0 0, .slice none 0 0, .slice none 0 0] 60)) (.slice ao n cc) (.int .i64 0) (.int .u64 0) 104
  rw [World.size_alloc] at this
  exact this
/-- A nest that was drawn, the cursor at w's size and one. -/
structure DrN (w wr : World) (k : Nat) (v : NV) (D : ND) : Prop where
  blw : Blw w wr
  cur : Cur (fun x => x < w.heap.size) wr (w.heap.size + 1) k
  out : Row wr w.heap.size 4 (fun i => if i = 0 then .slice none 0 0 else if i = 1 then .slice none 0 0 else if i = 2 then .slice none 0 0 else .slice none 0 0)
  at_ : NAt (fun x => w.heap.size + 1 < x ∧ x < wr.heap.size) wr v D
theorem DrN.go {w wr w1 : World} {k k' : Nat} {v : NV} {D : ND} (h : DrN w wr k v D) (hc : Cur (fun x => x < w.heap.size) w1 (w.heap.size + 1) k') (hm : Mod (fun b => b = w.heap.size + 1) wr w1) : DrN w w1 k' v D := by
  have hs := hm.size
  exact ⟨Mod.blw h.blw hm (fun i hi => by omega), hc, h.out.mod hm (by omega), (h.at_.mod hm (fun x hx e => by omega)).mono (fun x hx => by omega)⟩
def DrawnN (w w' : World) (v : NV) (D : ND) : Prop := NAt (fun x => w.heap.size < x ∧ x < w'.heap.size) w' v D ∧ Blw w w'
abbrev nput (w wr : World) (v : NV) (D : ND) : World := set4 wr w.heap.size (.slice v.g.a1 D.G.n v.g.c1) (.slice v.g.a2 D.G.D.n v.g.c2) (.slice v.h.a1 D.H.n v.h.c1) (.slice v.h.a2 D.H.D.n v.h.c2)
theorem drawn_put {w wr : World} {v : NV} {D : ND} {X : Nat → Prop} (hb : Blw w wr) (h : NAt X wr v D) (hX : ∀ x, X x → w.heap.size < x ∧ x < wr.heap.size) : DrawnN w (nput w wr v D) v D := by
  have ms := set4_mod wr w.heap.size (.slice v.g.a1 D.G.n v.g.c1) (.slice v.g.a2 D.G.D.n v.g.c2) (.slice v.h.a1 D.H.n v.h.c1) (.slice v.h.a2 D.H.D.n v.h.c2)
  have hs := ms.size
  exact ⟨(h.mod ms (fun x hx e => by have := hX x hx; omega)).mono (fun x hx => ⟨(hX x hx).1, Nat.lt_of_lt_of_le (hX x hx).2 hs⟩), Mod.blw hb ms (fun i hi => by omega)⟩
theorem DrN.fin {w wr : World} {k : Nat} {v : NV} {D : ND} (h : DrN w wr k v D) : DrawnN w (nput w wr v D) v D := drawn_put h.blw h.at_ (fun x hx => by omega)
set_option maxHeartbeats 3200000 in
theorem drawGN_any (ao : Option Addr) (n cc : Nat) (f : Nat → Int) (w : World) (h : BytesAt (fun b => b < w.heap.size) w ao n f) :
    Calls Try.prog 110 #[.slice ao n cc] w fun e w' => ∃ v D, e = .returned (v.val D) ∧ NDr D ∧ DrawnN w w' v D := by
  obtain ⟨hb0, c0, rR, sz⟩ := draw_startN w ao n cc f h
  clear h
  go_enter Try.func110, Try.ntmps110
  go_wp2_with fail
  refine (nest_any _ (w.heap.size + 1) 0 0 _ (by omega) (by omega) (fun b hb => by omega) c0).mono ?_
  rintro e w1 ⟨v, D, rfl, hD, own, c1, m1⟩
  have HND : Hid (NDr D) := hD
  have HD : Hid (DrN w w1 (0 + 1000) v D) := ⟨Mod.blw hb0 m1 (fun i hi => by omega), c1, rR.mod m1 (by omega), own.at.mono (fun x hx => by omega)⟩
  clear hb0 c0 rR sz own c1 m1 hD
  obtain ⟨t0, t1, t2, t3⟩ := get4 HD.out.out
  have f0 := HD.out.out.frozen 0; have f1 := HD.out.out.frozen 1; have f2 := HD.out.out.frozen 2; have f3 := HD.out.out.frozen 3
  have FIN : Hid (DrawnN w (nput w w1 v D) v D) := HD.out.fin
  clear HD
  go_wp2
  exact bodyPost_ret (v := v.val D) (by simp [results, Try.results110, go_sem, t0, t1, t2, t3]) rfl ⟨v, D, rfl, HND.out, FIN.out⟩
set_option maxHeartbeats 1600000 in
theorem drawFN_any (ao : Option Addr) (n cc : Nat) (f : Nat → Int) (w : World) (h : BytesAt (fun b => b < w.heap.size) w ao n f) :
    Calls Try.prog 37 #[.slice ao n cc] w fun e w' => ∃ v D, e = .returned (v.val D) ∧ NDr D ∧ DrawnN w w' v D := by
  have hb0 : Blw w (w.alloc (.cells #[.slice none 0 0, .slice none 0 0, .slice none 0 0, .slice none 0 0] 60)) := (Blw.refl _).alloc _
  have rR := box4 w (.slice none 0 0) (.slice none 0 0) (.slice none 0 0) (.slice none 0 0) 60
  have hs : (w.alloc (.cells #[.slice none 0 0, .slice none 0 0, .slice none 0 0, .slice none 0 0] 60)).heap.size = w.heap.size + 1 := by simp
  have hB := bytes_more h hb0
  clear h
  go_enter Try.func37, Try.ntmps37
  go_wp2_with fail
  refine (drawGN_any ao n cc f _ hB).mono ?_
  rintro e w1 ⟨v, D, rfl, hD, hN, hb1⟩
  have HND : Hid (NDr D) := hD
  have r1 := rR.blw hb1
  have FIN : Hid (DrawnN w (nput w w1 v D) v D) := drawn_put (hb0.trans hb1) hN (fun x hx => by omega)
  obtain ⟨t0, t1, t2, t3⟩ := get4 r1
  have f0 := r1.frozen 0; have f1 := r1.frozen 1; have f2 := r1.frozen 2; have f3 := r1.frozen 3
  clear rR hb0 hb1 hN hD hB hs r1
  go_wp2
  exact bodyPost_ret (v := v.val D) (by simp [results, Try.results37, go_sem, t0, t1, t2, t3]) rfl ⟨v, D, rfl, HND.out, FIN.out⟩
set_option maxHeartbeats 1600000 in
theorem drawRN_any (ao : Option Addr) (n cc : Nat) (f : Nat → Int) (w : World) (h : BytesAt (fun b => b < w.heap.size) w ao n f) :
    Calls Try.prog 46 #[.slice ao n cc] w fun e w' => ∃ v D, e = .returned (v.val D) ∧ NDr D ∧ DrawnN w w' v D := by
  have hb0 : Blw w (w.alloc (.cells #[.slice none 0 0, .slice none 0 0, .slice none 0 0, .slice none 0 0] 60)) := (Blw.refl _).alloc _
  have rR := box4 w (.slice none 0 0) (.slice none 0 0) (.slice none 0 0) (.slice none 0 0) 60
  have hs : (w.alloc (.cells #[.slice none 0 0, .slice none 0 0, .slice none 0 0, .slice none 0 0] 60)).heap.size = w.heap.size + 1 := by simp
  have hB := bytes_more h hb0
  clear h
  go_enter Try.func46, Try.ntmps46
  go_wp2_with fail
  refine (drawGN_any ao n cc f _ hB).mono ?_
  rintro e w1 ⟨v, D, rfl, hD, hN, hb1⟩
  have HND : Hid (NDr D) := hD
  have r1 := rR.blw hb1
  have FIN : Hid (DrawnN w (nput w w1 v D) v D) := drawn_put (hb0.trans hb1) hN (fun x hx => by omega)
  obtain ⟨t0, t1, t2, t3⟩ := get4 r1
  have f0 := r1.frozen 0; have f1 := r1.frozen 1; have f2 := r1.frozen 2; have f3 := r1.frozen 3
  clear rR hb0 hb1 hN hD hB hs r1
  go_wp2
  exact bodyPost_ret (v := v.val D) (by simp [results, Try.results46, go_sem, t0, t1, t2, t3]) rfl ⟨v, D, rfl, HND.out, FIN.out⟩
set_option maxHeartbeats 3200000 in
theorem drawWW_any (ao : Option Addr) (n cc : Nat) (f : Nat → Int) (w : World) (h : BytesAt (fun b => b < w.heap.size) w ao n f) :
    Calls Try.prog 49 #[.slice ao n cc] w fun e w' => ∃ v D a, e = .returned (.tuple #[v.val D, .int .i64 a]) ∧ NDr D ∧ DrawnN w w' v D := by
  obtain ⟨hb0, c0, rR, sz⟩ := draw_startN w ao n cc f h
  clear h
  go_enter Try.func49, Try.ntmps49
  go_wp2_with fail
  refine (nest_any _ (w.heap.size + 1) 0 0 _ (by omega) (by omega) (fun b hb => by omega) c0).mono ?_
  rintro e w1 ⟨v, D, rfl, hD, own, c1, m1⟩
  have HND : Hid (NDr D) := hD
  have HD : Hid (DrN w w1 (0 + 1000) v D) := ⟨Mod.blw hb0 m1 (fun i hi => by omega), c1, rR.mod m1 (by omega), own.at.mono (fun x hx => by omega)⟩
  clear hb0 c0 rR sz own c1 m1 hD
  go_wp2_with fail
  refine (pick_any _ _ (0 + 1000) 9 _ (by omega) (by omega) HD.out.cur).mono ?_
  rintro e w2 ⟨x0, rfl, hx0, hc, hm⟩
  replace HD : Hid (DrN w w2 (0 + 1000 + 2) v D) := HD.out.go hc hm
  clear hc hm
  go_wp2_with fail
  refine (pick_any _ _ (0 + 1000 + 2) 9 _ (by omega) (by omega) HD.out.cur).mono ?_
  rintro e w3 ⟨x1, rfl, hx1, hc, hm⟩
  replace HD : Hid (DrN w w3 (0 + 1000 + 2 + 2) v D) := HD.out.go hc hm
  clear hc hm
  obtain ⟨q, hq⟩ : ∃ q : Nat, q = x1 / 8 := ⟨_, rfl⟩
  have hd : Int.tdiv (x1 : Int) 8 = (q : Int) := by rw [Int.tdiv_eq_ediv_of_nonneg (by omega), hq]; rfl
  have hq2 : q ≤ 1 := by omega
  have hwq : IntKind.i64.wrap ((x0 : Int) - (q : Int)) = (x0 : Int) - (q : Int) := by rw [IntKind.wrap_i64] <;> omega
  have hwr : wrap64 ((x0 : Int) - (q : Int)) = (x0 : Int) - (q : Int) := by unfold wrap64; omega
  clear hq
  obtain ⟨t0, t1, t2, t3⟩ := get4 HD.out.out
  have f0 := HD.out.out.frozen 0; have f1 := HD.out.out.frozen 1; have f2 := HD.out.out.frozen 2; have f3 := HD.out.out.frozen 3
  have FIN : Hid (DrawnN w (nput w w3 v D) v D) := HD.out.fin
  clear HD
  go_wp2
  exact bodyPost_ret (v := .tuple #[v.val D, .int .i64 ((x0 : Int) - (q : Int))]) (by simp [results, Try.results49, go_sem, t0, t1, t2, t3]) rfl ⟨v, D, _, rfl, HND.out, FIN.out⟩
set_option maxHeartbeats 3200000 in
theorem drawWN_any (ao : Option Addr) (n cc : Nat) (f : Nat → Int) (w : World) (h : BytesAt (fun b => b < w.heap.size) w ao n f) :
    Calls Try.prog 44 #[.slice ao n cc] w fun e w' => ∃ v D a k, e = .returned (.tuple #[v.val D, .int .i64 a, .int .i64 k]) ∧ NDr D ∧ DrawnN w w' v D := by
  obtain ⟨hb0, c0, rR, sz⟩ := draw_startN w ao n cc f h
  clear h
  go_enter Try.func44, Try.ntmps44
  go_wp2_with fail
  refine (nest_any _ (w.heap.size + 1) 0 0 _ (by omega) (by omega) (fun b hb => by omega) c0).mono ?_
  rintro e w1 ⟨v, D, rfl, hD, own, c1, m1⟩
  have HND : Hid (NDr D) := hD
  have HD : Hid (DrN w w1 (0 + 1000) v D) := ⟨Mod.blw hb0 m1 (fun i hi => by omega), c1, rR.mod m1 (by omega), own.at.mono (fun x hx => by omega)⟩
  clear hb0 c0 rR sz own c1 m1 hD
  go_wp2_with fail
  refine (pick_any _ _ (0 + 1000) 9 _ (by omega) (by omega) HD.out.cur).mono ?_
  rintro e w2 ⟨x0, rfl, hx0, hc, hm⟩
  replace HD : Hid (DrN w w2 (0 + 1000 + 2) v D) := HD.out.go hc hm
  clear hc hm
  go_wp2_with fail
  refine (pick_any _ _ (0 + 1000 + 2) 9 _ (by omega) (by omega) HD.out.cur).mono ?_
  rintro e w3 ⟨x1, rfl, hx1, hc, hm⟩
  replace HD : Hid (DrN w w3 (0 + 1000 + 2 + 2) v D) := HD.out.go hc hm
  clear hc hm
  obtain ⟨q, hq⟩ : ∃ q : Nat, q = x1 / 8 := ⟨_, rfl⟩
  have hd : Int.tdiv (x1 : Int) 8 = (q : Int) := by rw [Int.tdiv_eq_ediv_of_nonneg (by omega), hq]; rfl
  have hq2 : q ≤ 1 := by omega
  have hwq : IntKind.i64.wrap ((x0 : Int) - (q : Int)) = (x0 : Int) - (q : Int) := by rw [IntKind.wrap_i64] <;> omega
  have hwr : wrap64 ((x0 : Int) - (q : Int)) = (x0 : Int) - (q : Int) := by unfold wrap64; omega
  clear hq
  go_wp2_with fail
  refine (pick_any _ _ (0 + 1000 + 2 + 2) 5 _ (by omega) (by omega) HD.out.cur).mono ?_
  rintro e w4 ⟨x2, rfl, hx2, hc, hm⟩
  replace HD : Hid (DrN w w4 (0 + 1000 + 2 + 2 + 2) v D) := HD.out.go hc hm
  clear hc hm
  obtain ⟨t0, t1, t2, t3⟩ := get4 HD.out.out
  have f0 := HD.out.out.frozen 0; have f1 := HD.out.out.frozen 1; have f2 := HD.out.out.frozen 2; have f3 := HD.out.out.frozen 3
  have FIN : Hid (DrawnN w (nput w w4 v D) v D) := HD.out.fin
  clear HD
  go_wp2
  exact bodyPost_ret (v := .tuple #[v.val D, .int .i64 ((x0 : Int) - (q : Int)), .int .i64 (x2 : Int)]) (by simp [results, Try.results44, go_sem, t0, t1, t2, t3]) rfl ⟨v, D, _, _, rfl, HND.out, FIN.out⟩
set_option maxHeartbeats 1600000 in
theorem drawLW_any (ao : Option Addr) (n cc : Nat) (f : Nat → Int) (w : World) (h : BytesAt (fun b => b < w.heap.size) w ao n f) :
    Calls Try.prog 57 #[.slice ao n cc] w fun e w' => ∃ v D a, e = .returned (.tuple #[v.val D, .int .i64 a]) ∧ NDr D ∧ DrawnN w w' v D := by
  have hb0 : Blw w (w.alloc (.cells #[.slice none 0 0, .slice none 0 0, .slice none 0 0, .slice none 0 0] 60)) := (Blw.refl _).alloc _
  have rR := box4 w (.slice none 0 0) (.slice none 0 0) (.slice none 0 0) (.slice none 0 0) 60
  have hs : (w.alloc (.cells #[.slice none 0 0, .slice none 0 0, .slice none 0 0, .slice none 0 0] 60)).heap.size = w.heap.size + 1 := by simp
  have hB := bytes_more h hb0
  clear h
  go_enter Try.func57, Try.ntmps57
  go_wp2_with fail
  refine (drawWW_any ao n cc f _ hB).mono ?_
  rintro e w1 ⟨v, D, a, rfl, hD, hN, hb1⟩
  have HND : Hid (NDr D) := hD
  have r1 := rR.blw hb1
  have FIN : Hid (DrawnN w (nput w w1 v D) v D) := drawn_put (hb0.trans hb1) hN (fun x hx => by omega)
  obtain ⟨t0, t1, t2, t3⟩ := get4 r1
  have f0 := r1.frozen 0; have f1 := r1.frozen 1; have f2 := r1.frozen 2; have f3 := r1.frozen 3
  clear rR hb0 hb1 hN hD hB hs r1
  go_wp2
  exact bodyPost_ret (v := .tuple #[v.val D, .int .i64 a]) (by simp [results, Try.results57, go_sem, t0, t1, t2, t3]) rfl ⟨v, D, a, rfl, HND.out, FIN.out⟩
end Go.Proofs.Ytjplodenflkghaa
/- What stands in a drawn law on tables. -/
namespace Go.Proofs.Ytjplodenflkghaa
open Go.RowKit
set_option linter.unusedSimpArgs false
set_option linter.unusedVariables false
/-- A table and its box. -/
structure BX (W : World) (z : Nat) (b : BV) (B : BD) : Prop where
  at_ : BookAt (fun x => x < W.heap.size) W b B
  box : Row W z 2 (fun i => if i = 0 then .slice b.a1 B.n b.c1 else .slice b.a2 B.D.n b.c2)
theorem BX.blw {W W' : World} {z : Nat} {b : BV} {B : BD} (h : BX W z b B) (hb : Blw W W') : BX W' z b B :=
  ⟨(h.at_.blw hb).mono (fun x hx => Nat.lt_of_lt_of_le hx hb.size), h.box.blw hb⟩
theorem BX.all {W : World} {z : Nat} {b : BV} {B : BD} (h : BX W z b B) : (∀ w', Blw W w' → w'.cell? ⟨z, 0, none⟩ = some (.slice b.a1 B.n b.c1)) ∧ (∀ w', Blw W w' → w'.cell? ⟨z, 1, none⟩ = some (.slice b.a2 B.D.n b.c2)) :=
  ⟨fun w' hb => (get2 (h.box.blw hb)).1, fun w' hb => (get2 (h.box.blw hb)).2⟩
def LI (W : World) (a : Option Addr) (n : Nat) (f : Nat → Int) : Prop := IntsAt (fun x => x < W.heap.size) W a n f
theorem LI.blw {W W' : World} {a : Option Addr} {n : Nat} {f : Nat → Int} (h : LI W a n f) (hb : Blw W W') : LI W' a n f := (IntsAt.blw h hb).mono (fun x hx => Nat.lt_of_lt_of_le hx hb.size)
def BY (W : World) (a : Option Addr) (n : Nat) (f : Nat → Int) : Prop := BytesAt (fun b => b < W.heap.size) W a n f
theorem BY.blw {W W' : World} {a : Option Addr} {n : Nat} {f : Nat → Int} (h : BY W a n f) (hb : Blw W W') : BY W' a n f := bytes_more h hb
theorem same39 (a1 a2 : Option Addr) (c1 c2 n0 : Nat) (f g : Nat → Int) {Y Z : Nat → Prop} (w : World) (h1 : IntsAt Y w a1 n0 f) (h2 : IntsAt Z w a2 n0 g) (he : ∀ i, i < n0 → f i = g i) :
    Calls Try.prog 20 #[.slice a1 n0 c1, .slice a2 n0 c2] w fun e w' => e = .returned (.bool true) ∧ Blw w w' :=
  (sameInts_yes a1 a2 c1 c2 n0 f g w h1 h2 he).mono fun e w' ⟨he, n, hw⟩ => ⟨he, by subst hw; exact (Blw.refl _).drewN n⟩
theorem neq73 (x y : Int) (w : World) : (binOp .neq 144 (.agg #[.int .i64 x, .int .i64 y]) (.agg #[.int .i64 x, .int .i64 y])).run Try.prog w = .ok (.bool false) w := by
  rw [run_neq_struct, pairEq 9998 x y x y w]
  simp
set_option maxRecDepth 10000 in
set_option maxHeartbeats 3200000 in
theorem sameTable_same (b b' : BV) (B : BD) {Y Z : Nat → Prop} (w : World) (h1 : BookAt Y w b B) (h2 : BookAt Z w b' B) :
    Calls Try.prog 40 #[b.val B, b'.val B] w fun e w' => e = .returned (.bool true) ∧ Blw w w' := by
  have hb0 : Blw w ((w.alloc (.cells #[.slice b.a1 B.n b.c1, .slice b.a2 B.D.n b.c2] 29)).alloc (.cells #[.slice b'.a1 B.n b'.c1, .slice b'.a2 B.D.n b'.c2] 29)) := ((Blw.refl _).alloc _).alloc _
  have HA : Hid (BookAt Y ((w.alloc (.cells #[.slice b.a1 B.n b.c1, .slice b.a2 B.D.n b.c2] 29)).alloc (.cells #[.slice b'.a1 B.n b'.c1, .slice b'.a2 B.D.n b'.c2] 29)) b B) := h1.blw hb0
  have HB : Hid (BookAt Z ((w.alloc (.cells #[.slice b.a1 B.n b.c1, .slice b.a2 B.D.n b.c2] 29)).alloc (.cells #[.slice b'.a1 B.n b'.c1, .slice b'.a2 B.D.n b'.c2] 29)) b' B) := h2.blw hb0
  have R0 : Hid (Row ((w.alloc (.cells #[.slice b.a1 B.n b.c1, .slice b.a2 B.D.n b.c2] 29)).alloc (.cells #[.slice b'.a1 B.n b'.c1, .slice b'.a2 B.D.n b'.c2] 29)) w.heap.size 2 (fun i => if i = 0 then .slice b.a1 B.n b.c1 else .slice b.a2 B.D.n b.c2)) := (box2 w _ _ 29).blw ((Blw.refl _).alloc _)
  have r1 := box2 (w.alloc (.cells #[.slice b.a1 B.n b.c1, .slice b.a2 B.D.n b.c2] 29)) (.slice b'.a1 B.n b'.c1) (.slice b'.a2 B.D.n b'.c2) 29
  rw [World.size_alloc] at r1
  have R1 : Hid (Row ((w.alloc (.cells #[.slice b.a1 B.n b.c1, .slice b.a2 B.D.n b.c2] 29)).alloc (.cells #[.slice b'.a1 B.n b'.c1, .slice b'.a2 B.D.n b'.c2] 29)) (w.heap.size + 1) 2 (fun i => if i = 0 then .slice b'.a1 B.n b'.c1 else .slice b'.a2 B.D.n b'.c2)) := r1
  clear h1 h2 r1
  obtain ⟨n, c, ⟨kn, len, p, m⟩⟩ := B
  dsimp only at *
  go_enter Try.func40, Try.ntmps40
  obtain ⟨p0, p1⟩ := get2 R0.out
  obtain ⟨q0, q1⟩ := get2 R1.out
  go_wp2_with fail
  clear p0 p1 q0 q1
  refine (same39 b.a1 b'.a1 b.c1 b'.c1 n c c _ HA.out.c HB.out.c (fun _ _ => rfl)).mono ?_
  rintro e w1 ⟨rfl, hb1⟩
  replace HA : Hid (BookAt Y w1 b ⟨n, c, ⟨kn, len, p, m⟩⟩) := HA.out.blw hb1
  replace HB : Hid (BookAt Z w1 b' ⟨n, c, ⟨kn, len, p, m⟩⟩) := HB.out.blw hb1
  replace R0 : Hid (Row w1 w.heap.size 2 (fun i => if i = 0 then .slice b.a1 n b.c1 else .slice b.a2 kn b.c2)) := R0.out.blw hb1
  replace R1 : Hid (Row w1 (w.heap.size + 1) 2 (fun i => if i = 0 then .slice b'.a1 n b'.c1 else .slice b'.a2 kn b'.c2)) := R1.out.blw hb1
  have HW : Hid (Blw w w1) := hb0.trans hb1
  have hkn := HA.out.l.1
  dsimp only at hkn
  clear hb0 hb1
  obtain ⟨p0, p1⟩ := get2 R0.out
  obtain ⟨q0, q1⟩ := get2 R1.out
  have dk : ((kn : Int) != (kn : Int)) = false := by simp
  go_wp2_with fail
  clear p0 p1 q0 q1 dk
  go_loopw [25] (fun i wr => ∃ k : Nat, k ≤ kn ∧ i = .int .i64 k ∧ Blw w1 wr) (fun i _ => kn - (intOf i).toNat)
  case atStart => exact ⟨0, Nat.zero_le _, rfl, Blw.refl _⟩
  case round =>
    obtain ⟨k, hk, rfl, hb⟩ := hrel
    have HBW : Hid (Blw w1 wr) := hb
    clear hb
    by_cases hlt : k < kn
    · have hlt' : (k : Int) < (kn : Int) := by omega
      obtain ⟨x1, y1, e1, ce1, ea1, -, g1, k1⟩ := HA.out.l.2 k hlt
      obtain ⟨x2, y2, e2, ce2, ea2, -, g2, k2⟩ := HB.out.l.2 k hlt
      dsimp only at ea1 ea2 g1 g2 k1 k2
      have G1 : Hid (w1.cell? ⟨x1, y1 + k, none⟩ = some (.slice e1 (len k) ce1)) := g1
      have G2 : Hid (w1.cell? ⟨x2, y2 + k, none⟩ = some (.slice e2 (len k) ce2)) := g2
      have K1 : Hid (UndosAt Y w1 e1 (len k) (p k) (m k)) := k1
      have K2 : Hid (UndosAt Z w1 e2 (len k) (p k) (m k)) := k2
      have hlk := k1.1
      clear g1 g2 k1 k2
      generalize len k = lk at *
      have R0w := R0.out.blw HBW.out
      have R1w := R1.out.blw HBW.out
      rw [ea1] at R0w
      rw [ea2] at R1w
      obtain ⟨p0, p1⟩ := get2 R0w
      obtain ⟨q0, q1⟩ := get2 R1w
      have g1 := HBW.out.cell G1.out
      have g2 := HBW.out.cell G2.out
      have dl : ((lk : Int) != (lk : Int)) = false := by simp
      clear R0w R1w
      go_wp2_with fail
      go_quiet (fail)
      clear p0 p1 q0 q1 g1 g2
      replace HBW : Hid (Blw w1 (wr.drewN nq)) := HBW.out.drewN nq
      clear dl
      generalize wr.drewN nq = wq at *
      have R0w := R0.out.blw HBW.out
      have R1w := R1.out.blw HBW.out
      rw [ea1] at R0w
      rw [ea2] at R1w
      obtain ⟨p0, p1⟩ := get2 R0w
      obtain ⟨q0, q1⟩ := get2 R1w
      have g1 := HBW.out.cell G1.out
      have g2 := HBW.out.cell G2.out
      clear R0w R1w
      go_wp2_with fail
      clear p0 p1 q0 q1 g1 g2
      go_loopw [47] (fun i wr2 => ∃ t : Nat, t ≤ lk ∧ i = .int .i64 t ∧ Blw w1 wr2) (fun i _ => lk - (intOf i).toNat)
      case atStart => exact ⟨0, Nat.zero_le _, rfl, HBW.out⟩
      case round =>
        clear HBW
        obtain ⟨t, ht, rfl, hb⟩ := hrel
        have HBW : Hid (Blw w1 wr) := hb
        clear hb
        by_cases hlt2 : t < lk
        · have hlt2' : (t : Int) < (lk : Int) := by omega
          obtain ⟨u1, v1, eb1, -, l1, l2⟩ := K1.out.2 t hlt2
          obtain ⟨u2, v2, eb2, -, l3, l4⟩ := K2.out.2 t hlt2
          subst eb1 eb2
          replace l1 := HBW.out.cell l1
          replace l2 := HBW.out.cell l2
          replace l3 := HBW.out.cell l3
          replace l4 := HBW.out.cell l4
          have R0w := R0.out.blw HBW.out
          have R1w := R1.out.blw HBW.out
          rw [ea1] at R0w
          rw [ea2] at R1w
          obtain ⟨p0, p1⟩ := get2 R0w
          obtain ⟨q0, q1⟩ := get2 R1w
          have g1 := HBW.out.cell G1.out
          have g2 := HBW.out.cell G2.out
          have hne := neq73 (p k t) (m k t)
          clear R0w R1w
          generalize p k t = pv at *
          generalize m k t = mv at *
          go_wp2_with fail
          go_quiet (fail)
          clear p0 p1 q0 q1 g1 g2 l1 l2 l3 l4 hne
          replace HBW : Hid (Blw w1 (wr.drewN nq)) := HBW.out.drewN nq
          go_wp2
          go_roundw
          case rel => exact ⟨t + 1, by omega, by go_num, HBW.out⟩
          case measure => simp [intOf]; omega
        · obtain rfl : t = lk := by omega
          go_wp2
          go_roundw
          case rel => exact ⟨k + 1, by omega, by go_num, HBW.out⟩
          case measure => simp [intOf]; omega
    · obtain rfl : k = kn := by omega
      have FIN : Hid (Blw w wr) := HW.out.trans HBW.out
      clear HBW HA HB R0 R1
      go_wp2
      go_ret
      exact ⟨rfl, FIN.out⟩
end Go.Proofs.Ytjplodenflkghaa
