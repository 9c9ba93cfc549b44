/- A wheel that is drawn. -/
import Derived.Test.YtkmkidahaagbpaaJA
namespace Go.Proofs.Ytkmkidahaagbpaa
open Go.RowKit
set_option linter.unusedSimpArgs false
set_option linter.unusedVariables false
theorem good_no {now : Int} (h0 : 0 ≤ now) (h1 : now ≤ 1000) : GoodD (wd8 now noR) := ((take_inv now h0 [] noR rfl).1).wd h0 h1
set_option maxRecDepth 10000 in
set_option maxHeartbeats 12800000 in
theorem wheel_any (Y : Nat → Prop) (C k : Nat) (w : World) (hk : k ≤ 700000) (hY : ∀ b, Y b → b < w.heap.size) (h : Cur Y w C k) :
    Calls Try.prog 46 #[.pointer (some ⟨C, 0, none⟩)] w fun e w' => ∃ b D, e = .returned (b.val D) ∧ Drawn Y w w' C (k + 400) b D := by
  have hC := h.lt
  have hYw := hY
  have hb0 : Blw w (w.alloc (.cells #[.int .i64 0, .slice none 0 0, .slice none 0 0] 25)) := (Blw.refl _).alloc _
  have r0 := box3 w (.int .i64 0) (.slice none 0 0) (.slice none 0 0) 25
  have hI := ints_lit (w.alloc (.cells #[.int .i64 0, .slice none 0 0, .slice none 0 0] 25)) [0, 3, 7, 8, 60, 950] (by simp)
  have hbi : Blw (w.alloc (.cells #[.int .i64 0, .slice none 0 0, .slice none 0 0] 25)) ((w.alloc (.cells #[.int .i64 0, .slice none 0 0, .slice none 0 0] 25)).alloc (.cells #[.int .i64 0, .int .i64 3, .int .i64 7, .int .i64 8, .int .i64 60, .int .i64 950] 3)) := (Blw.refl _).alloc _
  have HI : Hid (IntsAt (fun b => b = w.heap.size + 1) ((w.alloc (.cells #[.int .i64 0, .slice none 0 0, .slice none 0 0] 25)).alloc (.cells #[.int .i64 0, .int .i64 3, .int .i64 7, .int .i64 8, .int .i64 60, .int .i64 950] 3)) (some ⟨w.heap.size + 1, 0, none⟩) 6 (fun i => [0, 3, 7, 8, 60, 950].getD i 0)) := by rw [World.size_alloc] at hI; exact hI
  have HC0 : Hid (Cur Y ((w.alloc (.cells #[.int .i64 0, .slice none 0 0, .slice none 0 0] 25)).alloc (.cells #[.int .i64 0, .int .i64 3, .int .i64 7, .int .i64 8, .int .i64 60, .int .i64 950] 3)) C k) := (h.blw hb0).blw hbi
  have HR0 : Hid (Row ((w.alloc (.cells #[.int .i64 0, .slice none 0 0, .slice none 0 0] 25)).alloc (.cells #[.int .i64 0, .int .i64 3, .int .i64 7, .int .i64 8, .int .i64 60, .int .i64 950] 3)) w.heap.size 3 (t3 (.int .i64 0) (.slice none 0 0) (.slice none 0 0))) := r0.blw hbi
  have HB0 : Hid (Blw w ((w.alloc (.cells #[.int .i64 0, .slice none 0 0, .slice none 0 0] 25)).alloc (.cells #[.int .i64 0, .int .i64 3, .int .i64 7, .int .i64 8, .int .i64 60, .int .i64 950] 3))) := hb0.trans hbi
  clear h hI r0 hb0 hbi
  go_enter Try.func46, Try.ntmps46
  go_wp2_with fail
  refine (among_mem Y _ C k _ 6 6 _ _ (by omega) (by omega) HI.out (fun b hb => by have h6 : b = w.heap.size + 1 := hb; omega) HC0.out).mono ?_
  rintro e w0 ⟨i0, hi0, rfl, hc0, hm0⟩
  have hx : 0 ≤ [0, 3, 7, 8, 60, 950].getD i0 (0 : Int) ∧ [0, 3, 7, 8, 60, 950].getD i0 (0 : Int) ≤ 1000 := by
    match i0, hi0 with
    | 0, _ => decide
    | 1, _ => decide
    | 2, _ => decide
    | 3, _ => decide
    | 4, _ => decide
    | 5, _ => decide
  generalize [0, 3, 7, 8, 60, 950].getD i0 (0 : Int) = x at *
  have HX : Hid (0 ≤ x ∧ x ≤ 1000) := hx
  have HC1 : Hid (Cur Y w0 C (k + 2)) := hc0
  have HM1 : Hid (Mod (fun b => b = C) w w0) := (HB0.out.mod _).trans hm0
  have HR1 : Hid (Row w0 w.heap.size 3 (t3 (.int .i64 0) (.slice none 0 0) (.slice none 0 0))) := HR0.out.mod hm0 (by omega)
  have HS1 : Hid (w.heap.size < w0.heap.size) := HR1.out.lt
  clear hx hc0 hm0 HI HC0 HR0 HB0
  go_wp2_with fail
  refine (specNewO_any x _).mono ?_
  rintro e w1 ⟨b1, D1, r1, rfl, ho1, hs1, own1, hb1, hO1⟩
  obtain ⟨hD1, hr1⟩ : D1 = wd8 x noR ∧ r1 = true := by
    unfold newOut at ho1
    rw [if_pos HX.out] at ho1
    exact ho1
  subst hr1
  have hA : Blw w1 (w1.alloc (.cells #[.int .i64 D1.now, .slice b1.a1 D1.N.n b1.c1, .slice b1.a2 D1.F.n b1.c2] 25)) := (Blw.refl _).alloc _
  have hz1 := hb1.size
  have hz0 := HS1.out
  have hOD := ((hO1 rfl).ownD (w := w) (zs := 0) hz0 (by omega)).1
  have HOW0 : Hid (WSx Y w (w1.alloc (.cells #[.int .i64 D1.now, .slice b1.a1 D1.N.n b1.c1, .slice b1.a2 D1.F.n b1.c2] 25)) C (k + 2) w1.heap.size) := by
    refine ⟨b1, D1, ⟨HM1.out.trans ((hb1.trans hA).mod _), (HC1.out.blw hb1).blw hA, (HR1.out.blw hb1).blw hA, by omega, ⟨_, heap_alloc_new _ _⟩, box3 w1 _ _ _ 25, ?_, by rw [hD1]; exact good_no HX.out.1 HX.out.2⟩⟩
    have hf := hOD.fresh (Nat.le_refl _)
    obtain ⟨lo, g1, g2, R, P, Cc, hlo, rfl, hD, ho, e1, e2⟩ := hOD
    exact ⟨lo, g1, g2, R, P, Cc, hlo, rfl, hD, ho.blw hA, fun e => hf.1 (by rw [e]), fun e => hf.2 (by rw [e])⟩
  clear hA hz1 hz0 hOD HC1 HR1 HM1 HS1 ho1 hs1 own1 hb1 hO1 hD1 HX
  go_wp2_with fail
  generalize w1.heap.size = zs at *
  generalize w1.alloc (.cells #[.int .i64 D1.now, .slice b1.a1 D1.N.n b1.c1, .slice b1.a2 D1.F.n b1.c2] 25) = w2 at *
  obtain ⟨b, D, hws⟩ := HOW0.out
  refine (pick_any Y C (k + 2) 10 _ (by omega) (by omega) hws.cur).mono ?_
  rintro e w3 ⟨n, rfl, hn9, hc3, hm3⟩
  have HOW1 : Hid (WSx Y w w3 C (k + 2 + 2) zs) := ⟨b, D, hws.go hC hc3 hm3⟩
  clear HOW0 hws hc3 hm3 w2 b D
  go_wp2_with fail
  go_loopw [5] (fun v wr => ∃ i : Nat, i ≤ 9 ∧ v = .int .i64 i ∧ Hid (WSx Y w wr C (k + 4 + 12 * (9 - i)) zs)) (fun v _ => (intOf v).toNat)
  case atStart => exact ⟨n, by omega, rfl, HOW1.out.le (by omega)⟩
  case round =>
    rename World => wr
    obtain ⟨i, hi8, rfl, HOW0⟩ := hrel
    clear HOW1
    by_cases hi0 : 0 < i
    · have hi0' : (0 : Int) < i := by omega
      obtain ⟨kk, hkk⟩ : ∃ kk, kk = k + 4 + 12 * (9 - i) := ⟨_, rfl⟩
      have hkb : kk ≤ 800000 := by omega
      rw [← hkk] at HOW0
      have HKK : Hid (kk = k + 4 + 12 * (9 - i)) := hkk
      clear hkk
      obtain ⟨b, D, hws⟩ := HOW0.out
      have HO : Hid (WS Y w wr C (kk) zs b D) := hws
      clear hws HOW0
      have P0 : ∀ w', Row w' zs 3 (wrow b D) → w'.cell? ⟨zs, 0, none⟩ = some (.int .i64 D.now) := fun w' hh => (get3 hh).1
      have P1 : ∀ w', Row w' zs 3 (wrow b D) → w'.cell? ⟨zs, 1, none⟩ = some (.slice b.a1 D.N.n b.c1) := fun w' hh => (get3 hh).2.1
      have P2 : ∀ w', Row w' zs 3 (wrow b D) → w'.cell? ⟨zs, 2, none⟩ = some (.slice b.a2 D.F.n b.c2) := fun w' hh => (get3 hh).2.2
      go_upto_region 5 with fail
      go_cut [6, 7] from 20 to 53 (fun v6 v7 wx => ∃ zb b3 R3 r3, v6 = .pointer (some ⟨zb, 0, none⟩) ∧ v7 = .bool r3 ∧ Hid (Got Y w C (kk + 2 + 2 + 2) zs b D wx zb b3 R3 r3))
      case first =>
        replace HO : Hid (WS Y w wr.drew C (kk) zs b D) := HO.out.blw (Blw.refl _).drew
        refine wp_region_noPanic ?_
        refine wp_region_held_drew (S := fun w' => Row w' zs 3 (wrow b D)) (by kernel_rfl) HO.out.box (fun hB => ?_)
        clear hB
        generalize wr.drew = wd at *
        refine wpAnyH_take (i := 0) (oi := { dst := some 25, op := Op.load 25 (Operand.tmp 3), type := 25, pos := _, after := #[], guard := none }) (v := (.agg #[.int .i64 D.now, .slice b.a1 D.N.n b.c1, .slice b.a2 D.F.n b.c2])) rfl (by kernel_rfl) (by kernel_rfl) (by kernel_rfl) (fun _ _ _ h => h) (Or.inl ⟨by rfl, fun w' hS => by (try dsimp only at hS); go_simp⟩) HO.out.box ?_
        simp only [Act.put, List.setIfInBounds_toArray, List.set_cons_zero, List.set_cons_succ]
        refine wpAnyH_take (i := 1) (oi := { dst := some 26, op := Op.move (Operand.tmp 0), type := 63, pos := _, after := #[], guard := none }) (v := (.pointer (some ⟨C, 0, none⟩))) rfl (by kernel_rfl) (by kernel_rfl) (by kernel_rfl) (fun _ _ _ h => h) (Or.inl ⟨by rfl, fun w' hS => by (try dsimp only at hS); go_simp⟩) HO.out.box ?_
        simp only [Act.put, List.setIfInBounds_toArray, List.set_cons_zero, List.set_cons_succ]
        refine wpAnyH_take (i := 4) (oi := { dst := some 29, op := Op.move (Operand.tmp 0), type := 63, pos := _, after := #[], guard := none }) (v := (.pointer (some ⟨C, 0, none⟩))) rfl (by kernel_rfl) (by kernel_rfl) (by kernel_rfl) (fun _ _ _ h => h) (Or.inl ⟨by rfl, fun w' hS => by (try dsimp only at hS); go_simp⟩) HO.out.box ?_
        simp only [Act.put, List.setIfInBounds_toArray, List.set_cons_zero, List.set_cons_succ]
        refine wpAnyH_take (i := 5) (oi := { dst := some 30, op := Op.move (Operand.tmp 0), type := 63, pos := _, after := #[], guard := none }) (v := (.pointer (some ⟨C, 0, none⟩))) rfl (by kernel_rfl) (by kernel_rfl) (by kernel_rfl) (fun _ _ _ h => h) (Or.inl ⟨by rfl, fun w' hS => by (try dsimp only at hS); go_simp⟩) HO.out.box ?_
        simp only [Act.put, List.setIfInBounds_toArray, List.set_cons_zero, List.set_cons_succ]
        refine wpAnyH_ready (rs := [2, 14]) (by kernel_rfl) (by simp) ?_
        refine AllReadyH.cons (o := { dst := some 27, op := Op.call { callee := Callee.value (Operand.func 64), args := #[Operand.tmp 26, Operand.const (Value.int IntKind.i64 20)], argTypes := #[63, 3] }, type := 3, pos := _, after := #[{ on := 1, ground := Ground.data }], guard := none }) rfl (fun K hK => ?_) (AllReadyH.cons (o := { dst := some 6, op := Op.alloc 25, type := 0, pos := _, after := #[], guard := none }) rfl (fun K hK => ?_) AllReadyH.nil)
        · go_simp
          refine (pick_any Y C (kk) 20 _ (by omega) (by omega) HO.out.cur).mono ?_
          rintro e wn ⟨x0, rfl, hx0, hc, hm⟩
          have hwx0 := wrap1 x0 (by omega)
          replace HO : Hid (WS Y w wn C (kk + 2) zs b D) := HO.out.go hC hc hm
          clear hc hm
          refine hK.out _ _ HO.out.box (fun hB => ?_)
          clear hK K hB
          try simp only [Act.put, List.setIfInBounds_toArray, List.set_cons_zero, List.set_cons_succ]
          refine wpAnyH_take (i := 3) (oi := { dst := some 28, op := Op.binOp BinOp.add 3 (Operand.const (Value.int IntKind.i64 1)) (Operand.tmp 27) 3, type := 3, pos := _, after := #[{ on := 2, ground := Ground.data }], guard := none }) (v := (.int .i64 (1 + (x0 : Int)))) rfl (by kernel_rfl) (by kernel_rfl) (by kernel_rfl) (fun _ _ _ h => h) (Or.inl ⟨by rfl, fun w' hS => by (try dsimp only at hS); go_simp⟩) HO.out.box ?_
          simp only [Act.put, List.setIfInBounds_toArray, List.set_cons_zero, List.set_cons_succ]
          refine wpAnyH_ready (rs := [6, 14]) (by kernel_rfl) (by simp) ?_
          refine AllReadyH.cons (o := { dst := some 31, op := Op.call { callee := Callee.value (Operand.func 64), args := #[Operand.tmp 30, Operand.const (Value.int IntKind.i64 55)], argTypes := #[63, 3] }, type := 3, pos := _, after := #[{ on := 5, ground := Ground.data }, { on := 2, ground := Ground.chain }], guard := none }) rfl (fun K hK => ?_) (AllReadyH.cons (o := { dst := some 6, op := Op.alloc 25, type := 0, pos := _, after := #[], guard := none }) rfl (fun K hK => ?_) AllReadyH.nil)
          · go_simp
            refine (pick_any Y C (kk + 2) 55 _ (by omega) (by omega) HO.out.cur).mono ?_
            rintro e wn ⟨x1, rfl, hx1, hc, hm⟩
            have hwx1 := wrap1 x1 (by omega)
            replace HO : Hid (WS Y w wn C (kk + 2 + 2) zs b D) := HO.out.go hC hc hm
            clear hc hm
            refine hK.out _ _ HO.out.box (fun hB => ?_)
            clear hK K hB
            try simp only [Act.put, List.setIfInBounds_toArray, List.set_cons_zero, List.set_cons_succ]
            refine wpAnyH_take (i := 7) (oi := { dst := some 32, op := Op.binOp BinOp.add 3 (Operand.const (Value.int IntKind.i64 1)) (Operand.tmp 31) 3, type := 3, pos := _, after := #[{ on := 6, ground := Ground.data }], guard := none }) (v := (.int .i64 (1 + (x1 : Int)))) rfl (by kernel_rfl) (by kernel_rfl) (by kernel_rfl) (fun _ _ _ h => h) (Or.inl ⟨by rfl, fun w' hS => by (try dsimp only at hS); go_simp⟩) HO.out.box ?_
            simp only [Act.put, List.setIfInBounds_toArray, List.set_cons_zero, List.set_cons_succ]
            refine wpAnyH_ready (rs := [8, 14]) (by kernel_rfl) (by simp) ?_
            refine AllReadyH.cons (o := { dst := some 33, op := Op.buildSlice 28 6 #[(0, Operand.const (Value.int IntKind.i64 1)), (1, Operand.const (Value.int IntKind.i64 2)), (2, Operand.const (Value.int IntKind.i64 8)), (3, Operand.const (Value.int IntKind.i64 9)), (4, Operand.const (Value.int IntKind.i64 55)), (5, Operand.tmp 32)], type := 28, pos := _, after := #[{ on := 7, ground := Ground.data }], guard := none }) rfl (fun K hK => ?_) (AllReadyH.cons (o := { dst := some 6, op := Op.alloc 25, type := 0, pos := _, after := #[], guard := none }) rfl (fun K hK => ?_) AllReadyH.nil)
            · go_simp
              have HI : Hid (IntsAt (fun b => b = wn.heap.size) (wn.alloc (.cells #[.int .i64 1, .int .i64 2, .int .i64 8, .int .i64 9, .int .i64 55, .int .i64 (1 + (x1 : Int))] 3)) (some ⟨wn.heap.size, 0, none⟩) 6 (fun i => [1, 2, 8, 9, 55, 1 + (x1 : Int)].getD i 0)) := ints_lit wn [1, 2, 8, 9, 55, 1 + (x1 : Int)] (by simp)
              have HZI : Hid (C < wn.heap.size) := by have h5 := HO.out.mod.size; show _ < _; omega
              replace HO : Hid (WS Y w (wn.alloc (.cells #[.int .i64 1, .int .i64 2, .int .i64 8, .int .i64 9, .int .i64 55, .int .i64 (1 + (x1 : Int))] 3)) C (kk + 2 + 2) zs b D) := HO.out.blw ((Blw.refl _).alloc _)
              refine hK.out _ _ HO.out.box (fun hB => ?_)
              clear hK K hB
              try simp only [Act.put, List.setIfInBounds_toArray, List.set_cons_zero, List.set_cons_succ]
              generalize wn.alloc (.cells #[.int .i64 1, .int .i64 2, .int .i64 8, .int .i64 9, .int .i64 55, .int .i64 (1 + (x1 : Int))] 3) = wB at *
              generalize wn.heap.size = zi at *
              refine wpAnyH_ready (rs := [9, 14]) (by kernel_rfl) (by simp) ?_
              refine AllReadyH.cons (o := { dst := some 34, op := Op.call { callee := Callee.value (Operand.func 47), args := #[Operand.tmp 29, Operand.tmp 33], argTypes := #[63, 28] }, type := 3, pos := _, after := #[{ on := 4, ground := Ground.data }, { on := 8, ground := Ground.data }, { on := 6, ground := Ground.chain }], guard := none }) rfl (fun K hK => ?_) (AllReadyH.cons (o := { dst := some 6, op := Op.alloc 25, type := 0, pos := _, after := #[], guard := none }) rfl (fun K hK => ?_) AllReadyH.nil)
              · go_simp
                refine (among_any Y _ C (kk + 2 + 2) _ 6 6 _ _ (by omega) (by omega) HI.out (fun b hb => by have h5 := HZI.out; have h6 : b = zi := hb; omega) HO.out.cur).mono ?_
                rintro e wn ⟨y0, rfl, hc, hm⟩
                replace HO : Hid (WS Y w wn C (kk + 2 + 2 + 2) zs b D) := HO.out.go hC hc hm
                clear hc hm HI HZI
                refine hK.out _ _ HO.out.box (fun hB => ?_)
                clear hK K hB
                try simp only [Act.put, List.setIfInBounds_toArray, List.set_cons_zero, List.set_cons_succ]
                refine wpAnyH_ready (rs := [10, 14]) (by kernel_rfl) (by simp) ?_
                refine AllReadyH.cons (o := { dst := some 35, op := Op.call { callee := Callee.value (Operand.func 26), args := #[Operand.tmp 25, Operand.tmp 28, Operand.tmp 34], argTypes := #[25, 3, 3] }, type := 45, pos := _, after := #[{ on := 0, ground := Ground.data }, { on := 3, ground := Ground.data }, { on := 9, ground := Ground.data }, { on := 9, ground := Ground.chain }], guard := none }) rfl (fun K hK => ?_) (AllReadyH.cons (o := { dst := some 6, op := Op.alloc 25, type := 0, pos := _, after := #[], guard := none }) rfl (fun K hK => ?_) AllReadyH.nil)
                · go_simp
                  have hsz0 := HO.out.zl
                  have hsz1 := HO.out.ty.lt
                  refine (specSetO_any b D (1 + (x0 : Int)) y0 _ _ HO.out.at_ HO.out.small).mono ?_
                  rintro e wn ⟨b3, R3, r3, rfl, ho3, hs3, own3, hbk, hO3⟩
                  have HOW : Hid (r3 = true → OwnD w wn zs b3 R3 ∧ GoodD R3) := fun hr => ⟨((hO3 hr).ownD (by omega) hsz1).1, set_good ho3 hr⟩
                  replace HO : Hid (WS Y w wn C (kk + 2 + 2 + 2) zs b D) := HO.out.blw hbk
                  clear ho3 hs3 own3 hbk hO3 hsz0 hsz1
                  refine hK.out _ _ HO.out.box (fun hB => ?_)
                  clear hK K hB
                  try simp only [Act.put, List.setIfInBounds_toArray, List.set_cons_zero, List.set_cons_succ]
                  refine wpAnyH_take (i := 11) (oi := { dst := some 24, op := Op.move (Operand.tmp 35), type := 45, pos := _, after := #[{ on := 10, ground := Ground.data }], guard := none }) (v := (.tuple #[b3.val R3, .bool r3])) rfl (by kernel_rfl) (by kernel_rfl) (by kernel_rfl) (fun _ _ _ h => h) (Or.inl ⟨by rfl, fun w' hS => by (try dsimp only at hS); go_simp⟩) HO.out.box ?_
                  simp only [Act.put, List.setIfInBounds_toArray, List.set_cons_zero, List.set_cons_succ]
                  refine wpAnyH_take (i := 12) (oi := { dst := some 36, op := Op.extract (Operand.tmp 24) 0, type := 25, pos := _, after := #[{ on := 11, ground := Ground.data }], guard := none }) (v := (.agg #[.int .i64 R3.now, .slice b3.a1 R3.N.n b3.c1, .slice b3.a2 R3.F.n b3.c2])) rfl (by kernel_rfl) (by kernel_rfl) (by kernel_rfl) (fun _ _ _ h => h) (Or.inl ⟨by rfl, fun w' hS => by (try dsimp only at hS); go_simp⟩) HO.out.box ?_
                  simp only [Act.put, List.setIfInBounds_toArray, List.set_cons_zero, List.set_cons_succ]
                  refine wpAnyH_take (i := 13) (oi := { dst := some 37, op := Op.extract (Operand.tmp 24) 1, type := 4, pos := _, after := #[{ on := 11, ground := Ground.data }, { on := 15, ground := Ground.gcOnly Departure.lateStores }], guard := none }) (v := (.bool r3)) rfl (by kernel_rfl) (by kernel_rfl) (by kernel_rfl) (fun _ _ _ h => h) (Or.inl ⟨by rfl, fun w' hS => by (try dsimp only at hS); go_simp⟩) HO.out.box ?_
                  simp only [Act.put, List.setIfInBounds_toArray, List.set_cons_zero, List.set_cons_succ]
                  refine wpAnyH_ready (rs := [14]) (by kernel_rfl) (by simp) ?_
                  refine AllReadyH.cons (o := { dst := some 6, op := Op.alloc 25, type := 0, pos := _, after := #[], guard := none }) rfl (fun K hK => ?_) AllReadyH.nil
                  go_simp
                  have HZ : Hid (Row (wn.alloc (.cells #[.int .i64 0, .slice none 0 0, .slice none 0 0] 25)) wn.heap.size 3 (t3 (.int .i64 0) (.slice none 0 0) (.slice none 0 0))) := box3 wn _ _ _ 25
                  have HTZ : Hid (Ty (wn.alloc (.cells #[.int .i64 0, .slice none 0 0, .slice none 0 0] 25)) wn.heap.size 25) := ⟨_, heap_alloc_new _ _⟩
                  have HZB : Hid (wn.heap.size ≠ zs ∧ w.heap.size < wn.heap.size ∧ C < wn.heap.size ∧ Nob b wn.heap.size) := ⟨by have h5 := HO.out.ty.lt; omega, by have h5 := HO.out.ty.lt; have h6 := HO.out.zl; omega, by have h5 := HO.out.ty.lt; have h6 := HO.out.zl; omega, HO.out.own.fresh (Nat.le_refl _)⟩
                  replace HOW : Hid (r3 = true → OwnD w (wn.alloc (.cells #[.int .i64 0, .slice none 0 0, .slice none 0 0] 25)) zs b3 R3 ∧ GoodD R3 ∧ Nob b3 wn.heap.size) := fun hr => ⟨(HOW.out hr).1.blw ((Blw.refl _).alloc _), (HOW.out hr).2, (HOW.out hr).1.fresh (Nat.le_refl _)⟩
                  replace HO : Hid (WS Y w (wn.alloc (.cells #[.int .i64 0, .slice none 0 0, .slice none 0 0] 25)) C (kk + 2 + 2 + 2) zs b D) := HO.out.blw ((Blw.refl _).alloc _)
                  refine hK.out _ _ HO.out.box (fun hB => ?_)
                  clear hK K hB
                  try simp only [Act.put, List.setIfInBounds_toArray, List.set_cons_zero, List.set_cons_succ]
                  generalize wn.alloc (.cells #[.int .i64 0, .slice none 0 0, .slice none 0 0] 25) = wA at *
                  generalize wn.heap.size = zb at *
                  refine wpAnyH_ready (rs := [15]) (by kernel_rfl) (by simp) ?_
                  refine AllReadyH.cons (o := { dst := none, op := Op.store 25 (Operand.tmp 6) (Operand.tmp 36), type := 0, pos := _, after := #[{ on := 14, ground := Ground.data }, { on := 12, ground := Ground.data }, { on := 10, ground := Ground.chain }, { on := 0, ground := Ground.phase }, { on := 1, ground := Ground.phase }, { on := 2, ground := Ground.phase }, { on := 3, ground := Ground.phase }, { on := 4, ground := Ground.phase }, { on := 5, ground := Ground.phase }, { on := 6, ground := Ground.phase }, { on := 7, ground := Ground.phase }, { on := 8, ground := Ground.phase }, { on := 9, ground := Ground.phase }, { on := 10, ground := Ground.phase }, { on := 11, ground := Ground.phase }, { on := 12, ground := Ground.phase }, { on := 13, ground := Ground.textOnly Departure.lateStores }, { on := 14, ground := Ground.phase }], guard := none }) rfl (fun K hK => ?_) AllReadyH.nil
                  obtain ⟨z0, z1, z2⟩ := get3 HZ.out
                  have fz0 := HZ.out.frozen 0
                  have fz1 := HZ.out.frozen 1
                  have fz2 := HZ.out.frozen 2
                  have FIN : Hid (Got Y w C (kk + 2 + 2 + 2) zs b D (wput wA zb b3 R3) zb b3 R3 r3) := got_fin hC hYw HO.out HZ.out HTZ.out HZB.out.1 HZB.out.2.1 HZB.out.2.2.2 HOW.out
                  go_simp
                  refine hK.out _ _ FIN.out.1.box (fun hB => ?_)
                  clear hK K hB
                  try simp only [Act.put, List.setIfInBounds_toArray, List.set_cons_zero, List.set_cons_succ]
                  clear z0 z1 z2 fz0 fz1 fz2
                  refine wpAnyH_take (i := 16) (oi := { dst := some 7, op := Op.assign (Operand.tmp 37), type := 4, pos := _, after := #[{ on := 13, ground := Ground.data }, { on := 15, ground := Ground.chain }, { on := 0, ground := Ground.phase }, { on := 1, ground := Ground.phase }, { on := 2, ground := Ground.phase }, { on := 3, ground := Ground.phase }, { on := 4, ground := Ground.phase }, { on := 5, ground := Ground.phase }, { on := 6, ground := Ground.phase }, { on := 7, ground := Ground.phase }, { on := 8, ground := Ground.phase }, { on := 9, ground := Ground.phase }, { on := 10, ground := Ground.phase }, { on := 11, ground := Ground.phase }, { on := 12, ground := Ground.phase }, { on := 13, ground := Ground.phase }, { on := 14, ground := Ground.phase }, { on := 15, ground := Ground.phase }], guard := none }) (v := (.bool r3)) rfl (by kernel_rfl) (by kernel_rfl) (by kernel_rfl) (fun _ _ _ h => h) (Or.inl ⟨by rfl, fun w' hS => by (try dsimp only at hS); go_simp⟩) FIN.out.1.box ?_
                  simp only [Act.put, List.setIfInBounds_toArray, List.set_cons_zero, List.set_cons_succ]
                  refine wpAnyH_done (by kernel_rfl) ?_ _
                  refine NoPanic.normal ?_
                  go_wp2_with fail
                  go_meet
                  exact ⟨_, b3, R3, r3, rfl, rfl, FIN.out⟩
                · go_simp
                  have HZ : Hid (Row (wn.alloc (.cells #[.int .i64 0, .slice none 0 0, .slice none 0 0] 25)) wn.heap.size 3 (t3 (.int .i64 0) (.slice none 0 0) (.slice none 0 0))) := box3 wn _ _ _ 25
                  have HTZ : Hid (Ty (wn.alloc (.cells #[.int .i64 0, .slice none 0 0, .slice none 0 0] 25)) wn.heap.size 25) := ⟨_, heap_alloc_new _ _⟩
                  have HZB : Hid (wn.heap.size ≠ zs ∧ w.heap.size < wn.heap.size ∧ C < wn.heap.size ∧ Nob b wn.heap.size) := ⟨by have h5 := HO.out.ty.lt; omega, by have h5 := HO.out.ty.lt; have h6 := HO.out.zl; omega, by have h5 := HO.out.ty.lt; have h6 := HO.out.zl; omega, HO.out.own.fresh (Nat.le_refl _)⟩
                  replace HO : Hid (WS Y w (wn.alloc (.cells #[.int .i64 0, .slice none 0 0, .slice none 0 0] 25)) C (kk + 2 + 2 + 2) zs b D) := HO.out.blw ((Blw.refl _).alloc _)
                  refine hK.out _ _ HO.out.box (fun hB => ?_)
                  clear hK K hB
                  try simp only [Act.put, List.setIfInBounds_toArray, List.set_cons_zero, List.set_cons_succ]
                  generalize wn.alloc (.cells #[.int .i64 0, .slice none 0 0, .slice none 0 0] 25) = wA at *
                  generalize wn.heap.size = zb at *
                  refine wpAnyH_ready (rs := [10]) (by kernel_rfl) (by simp) ?_
                  refine AllReadyH.cons (o := { dst := some 35, op := Op.call { callee := Callee.value (Operand.func 26), args := #[Operand.tmp 25, Operand.tmp 28, Operand.tmp 34], argTypes := #[25, 3, 3] }, type := 45, pos := _, after := #[{ on := 0, ground := Ground.data }, { on := 3, ground := Ground.data }, { on := 9, ground := Ground.data }, { on := 9, ground := Ground.chain }], guard := none }) rfl (fun K hK => ?_) AllReadyH.nil
                  go_simp
                  have hsz0 := HO.out.zl
                  have hsz1 := HO.out.ty.lt
                  have hzz := HTZ.out.lt
                  refine (specSetO_any b D (1 + (x0 : Int)) y0 _ _ HO.out.at_ HO.out.small).mono ?_
                  rintro e wn ⟨b3, R3, r3, rfl, ho3, hs3, own3, hbk, hO3⟩
                  have HOW : Hid (r3 = true → OwnD w wn zs b3 R3 ∧ GoodD R3 ∧ Nob b3 zb) := fun hr => ⟨((hO3 hr).ownD (by omega) hsz1).1, set_good ho3 hr, ((hO3 hr).ownD (w := w) (zs := zs) (by omega) hsz1).2 zb hzz⟩
                  replace HZ : Hid (Row wn zb 3 (t3 (.int .i64 0) (.slice none 0 0) (.slice none 0 0))) := HZ.out.blw hbk
                  replace HTZ : Hid (Ty wn zb 25) := HTZ.out.blw hbk
                  replace HO : Hid (WS Y w wn C (kk + 2 + 2 + 2) zs b D) := HO.out.blw hbk
                  clear ho3 hs3 own3 hbk hO3 hsz0 hsz1 hzz
                  refine hK.out _ _ HO.out.box (fun hB => ?_)
                  clear hK K hB
                  try simp only [Act.put, List.setIfInBounds_toArray, List.set_cons_zero, List.set_cons_succ]
                  refine wpAnyH_take (i := 11) (oi := { dst := some 24, op := Op.move (Operand.tmp 35), type := 45, pos := _, after := #[{ on := 10, ground := Ground.data }], guard := none }) (v := (.tuple #[b3.val R3, .bool r3])) rfl (by kernel_rfl) (by kernel_rfl) (by kernel_rfl) (fun _ _ _ h => h) (Or.inl ⟨by rfl, fun w' hS => by (try dsimp only at hS); go_simp⟩) HO.out.box ?_
                  simp only [Act.put, List.setIfInBounds_toArray, List.set_cons_zero, List.set_cons_succ]
                  refine wpAnyH_take (i := 12) (oi := { dst := some 36, op := Op.extract (Operand.tmp 24) 0, type := 25, pos := _, after := #[{ on := 11, ground := Ground.data }], guard := none }) (v := (.agg #[.int .i64 R3.now, .slice b3.a1 R3.N.n b3.c1, .slice b3.a2 R3.F.n b3.c2])) rfl (by kernel_rfl) (by kernel_rfl) (by kernel_rfl) (fun _ _ _ h => h) (Or.inl ⟨by rfl, fun w' hS => by (try dsimp only at hS); go_simp⟩) HO.out.box ?_
                  simp only [Act.put, List.setIfInBounds_toArray, List.set_cons_zero, List.set_cons_succ]
                  refine wpAnyH_take (i := 13) (oi := { dst := some 37, op := Op.extract (Operand.tmp 24) 1, type := 4, pos := _, after := #[{ on := 11, ground := Ground.data }, { on := 15, ground := Ground.gcOnly Departure.lateStores }], guard := none }) (v := (.bool r3)) rfl (by kernel_rfl) (by kernel_rfl) (by kernel_rfl) (fun _ _ _ h => h) (Or.inl ⟨by rfl, fun w' hS => by (try dsimp only at hS); go_simp⟩) HO.out.box ?_
                  simp only [Act.put, List.setIfInBounds_toArray, List.set_cons_zero, List.set_cons_succ]
                  refine wpAnyH_ready (rs := [15]) (by kernel_rfl) (by simp) ?_
                  refine AllReadyH.cons (o := { dst := none, op := Op.store 25 (Operand.tmp 6) (Operand.tmp 36), type := 0, pos := _, after := #[{ on := 14, ground := Ground.data }, { on := 12, ground := Ground.data }, { on := 10, ground := Ground.chain }, { on := 0, ground := Ground.phase }, { on := 1, ground := Ground.phase }, { on := 2, ground := Ground.phase }, { on := 3, ground := Ground.phase }, { on := 4, ground := Ground.phase }, { on := 5, ground := Ground.phase }, { on := 6, ground := Ground.phase }, { on := 7, ground := Ground.phase }, { on := 8, ground := Ground.phase }, { on := 9, ground := Ground.phase }, { on := 10, ground := Ground.phase }, { on := 11, ground := Ground.phase }, { on := 12, ground := Ground.phase }, { on := 13, ground := Ground.textOnly Departure.lateStores }, { on := 14, ground := Ground.phase }], guard := none }) rfl (fun K hK => ?_) AllReadyH.nil
                  obtain ⟨z0, z1, z2⟩ := get3 HZ.out
                  have fz0 := HZ.out.frozen 0
                  have fz1 := HZ.out.frozen 1
                  have fz2 := HZ.out.frozen 2
                  have FIN : Hid (Got Y w C (kk + 2 + 2 + 2) zs b D (wput wn zb b3 R3) zb b3 R3 r3) := got_fin hC hYw HO.out HZ.out HTZ.out HZB.out.1 HZB.out.2.1 HZB.out.2.2.2 HOW.out
                  go_simp
                  refine hK.out _ _ FIN.out.1.box (fun hB => ?_)
                  clear hK K hB
                  try simp only [Act.put, List.setIfInBounds_toArray, List.set_cons_zero, List.set_cons_succ]
                  clear z0 z1 z2 fz0 fz1 fz2
                  refine wpAnyH_take (i := 16) (oi := { dst := some 7, op := Op.assign (Operand.tmp 37), type := 4, pos := _, after := #[{ on := 13, ground := Ground.data }, { on := 15, ground := Ground.chain }, { on := 0, ground := Ground.phase }, { on := 1, ground := Ground.phase }, { on := 2, ground := Ground.phase }, { on := 3, ground := Ground.phase }, { on := 4, ground := Ground.phase }, { on := 5, ground := Ground.phase }, { on := 6, ground := Ground.phase }, { on := 7, ground := Ground.phase }, { on := 8, ground := Ground.phase }, { on := 9, ground := Ground.phase }, { on := 10, ground := Ground.phase }, { on := 11, ground := Ground.phase }, { on := 12, ground := Ground.phase }, { on := 13, ground := Ground.phase }, { on := 14, ground := Ground.phase }, { on := 15, ground := Ground.phase }], guard := none }) (v := (.bool r3)) rfl (by kernel_rfl) (by kernel_rfl) (by kernel_rfl) (fun _ _ _ h => h) (Or.inl ⟨by rfl, fun w' hS => by (try dsimp only at hS); go_simp⟩) FIN.out.1.box ?_
                  simp only [Act.put, List.setIfInBounds_toArray, List.set_cons_zero, List.set_cons_succ]
                  refine wpAnyH_done (by kernel_rfl) ?_ _
                  refine NoPanic.normal ?_
                  go_wp2_with fail
                  go_meet
                  exact ⟨_, b3, R3, r3, rfl, rfl, FIN.out⟩
              · go_simp
                have HZ : Hid (Row (wB.alloc (.cells #[.int .i64 0, .slice none 0 0, .slice none 0 0] 25)) wB.heap.size 3 (t3 (.int .i64 0) (.slice none 0 0) (.slice none 0 0))) := box3 wB _ _ _ 25
                have HTZ : Hid (Ty (wB.alloc (.cells #[.int .i64 0, .slice none 0 0, .slice none 0 0] 25)) wB.heap.size 25) := ⟨_, heap_alloc_new _ _⟩
                have HZB : Hid (wB.heap.size ≠ zs ∧ w.heap.size < wB.heap.size ∧ C < wB.heap.size ∧ Nob b wB.heap.size) := ⟨by have h5 := HO.out.ty.lt; omega, by have h5 := HO.out.ty.lt; have h6 := HO.out.zl; omega, by have h5 := HO.out.ty.lt; have h6 := HO.out.zl; omega, HO.out.own.fresh (Nat.le_refl _)⟩
                replace HI : Hid (IntsAt (fun b => b = zi) (wB.alloc (.cells #[.int .i64 0, .slice none 0 0, .slice none 0 0] 25)) (some ⟨zi, 0, none⟩) 6 (fun i => [1, 2, 8, 9, 55, 1 + (x1 : Int)].getD i 0)) := HI.out.blw ((Blw.refl _).alloc _)
                replace HO : Hid (WS Y w (wB.alloc (.cells #[.int .i64 0, .slice none 0 0, .slice none 0 0] 25)) C (kk + 2 + 2) zs b D) := HO.out.blw ((Blw.refl _).alloc _)
                refine hK.out _ _ HO.out.box (fun hB => ?_)
                clear hK K hB
                try simp only [Act.put, List.setIfInBounds_toArray, List.set_cons_zero, List.set_cons_succ]
                generalize wB.alloc (.cells #[.int .i64 0, .slice none 0 0, .slice none 0 0] 25) = wA at *
                generalize wB.heap.size = zb at *
                refine wpAnyH_ready (rs := [9]) (by kernel_rfl) (by simp) ?_
                refine AllReadyH.cons (o := { dst := some 34, op := Op.call { callee := Callee.value (Operand.func 47), args := #[Operand.tmp 29, Operand.tmp 33], argTypes := #[63, 28] }, type := 3, pos := _, after := #[{ on := 4, ground := Ground.data }, { on := 8, ground := Ground.data }, { on := 6, ground := Ground.chain }], guard := none }) rfl (fun K hK => ?_) AllReadyH.nil
                go_simp
                refine (among_any Y _ C (kk + 2 + 2) _ 6 6 _ _ (by omega) (by omega) HI.out (fun b hb => by have h5 := HZI.out; have h6 : b = zi := hb; omega) HO.out.cur).mono ?_
                rintro e wn ⟨y0, rfl, hc, hm⟩
                replace HO : Hid (WS Y w wn C (kk + 2 + 2 + 2) zs b D) := HO.out.go hC hc hm
                replace HZ : Hid (Row wn zb 3 (t3 (.int .i64 0) (.slice none 0 0) (.slice none 0 0))) := HZ.out.mod hm (by have h5 := HZB.out.2.2.1; omega)
                replace HTZ : Hid (Ty wn zb 25) := HTZ.out.mod hm (by have h5 := HZB.out.2.2.1; omega)
                clear hc hm HI HZI
                refine hK.out _ _ HO.out.box (fun hB => ?_)
                clear hK K hB
                try simp only [Act.put, List.setIfInBounds_toArray, List.set_cons_zero, List.set_cons_succ]
                refine wpAnyH_ready (rs := [10]) (by kernel_rfl) (by simp) ?_
                refine AllReadyH.cons (o := { dst := some 35, op := Op.call { callee := Callee.value (Operand.func 26), args := #[Operand.tmp 25, Operand.tmp 28, Operand.tmp 34], argTypes := #[25, 3, 3] }, type := 45, pos := _, after := #[{ on := 0, ground := Ground.data }, { on := 3, ground := Ground.data }, { on := 9, ground := Ground.data }, { on := 9, ground := Ground.chain }], guard := none }) rfl (fun K hK => ?_) AllReadyH.nil
                go_simp
                have hsz0 := HO.out.zl
                have hsz1 := HO.out.ty.lt
                have hzz := HTZ.out.lt
                refine (specSetO_any b D (1 + (x0 : Int)) y0 _ _ HO.out.at_ HO.out.small).mono ?_
                rintro e wn ⟨b3, R3, r3, rfl, ho3, hs3, own3, hbk, hO3⟩
                have HOW : Hid (r3 = true → OwnD w wn zs b3 R3 ∧ GoodD R3 ∧ Nob b3 zb) := fun hr => ⟨((hO3 hr).ownD (by omega) hsz1).1, set_good ho3 hr, ((hO3 hr).ownD (w := w) (zs := zs) (by omega) hsz1).2 zb hzz⟩
                replace HZ : Hid (Row wn zb 3 (t3 (.int .i64 0) (.slice none 0 0) (.slice none 0 0))) := HZ.out.blw hbk
                replace HTZ : Hid (Ty wn zb 25) := HTZ.out.blw hbk
                replace HO : Hid (WS Y w wn C (kk + 2 + 2 + 2) zs b D) := HO.out.blw hbk
                clear ho3 hs3 own3 hbk hO3 hsz0 hsz1 hzz
                refine hK.out _ _ HO.out.box (fun hB => ?_)
                clear hK K hB
                try simp only [Act.put, List.setIfInBounds_toArray, List.set_cons_zero, List.set_cons_succ]
                refine wpAnyH_take (i := 11) (oi := { dst := some 24, op := Op.move (Operand.tmp 35), type := 45, pos := _, after := #[{ on := 10, ground := Ground.data }], guard := none }) (v := (.tuple #[b3.val R3, .bool r3])) rfl (by kernel_rfl) (by kernel_rfl) (by kernel_rfl) (fun _ _ _ h => h) (Or.inl ⟨by rfl, fun w' hS => by (try dsimp only at hS); go_simp⟩) HO.out.box ?_
                simp only [Act.put, List.setIfInBounds_toArray, List.set_cons_zero, List.set_cons_succ]
                refine wpAnyH_take (i := 12) (oi := { dst := some 36, op := Op.extract (Operand.tmp 24) 0, type := 25, pos := _, after := #[{ on := 11, ground := Ground.data }], guard := none }) (v := (.agg #[.int .i64 R3.now, .slice b3.a1 R3.N.n b3.c1, .slice b3.a2 R3.F.n b3.c2])) rfl (by kernel_rfl) (by kernel_rfl) (by kernel_rfl) (fun _ _ _ h => h) (Or.inl ⟨by rfl, fun w' hS => by (try dsimp only at hS); go_simp⟩) HO.out.box ?_
                simp only [Act.put, List.setIfInBounds_toArray, List.set_cons_zero, List.set_cons_succ]
                refine wpAnyH_take (i := 13) (oi := { dst := some 37, op := Op.extract (Operand.tmp 24) 1, type := 4, pos := _, after := #[{ on := 11, ground := Ground.data }, { on := 15, ground := Ground.gcOnly Departure.lateStores }], guard := none }) (v := (.bool r3)) rfl (by kernel_rfl) (by kernel_rfl) (by kernel_rfl) (fun _ _ _ h => h) (Or.inl ⟨by rfl, fun w' hS => by (try dsimp only at hS); go_simp⟩) HO.out.box ?_
                simp only [Act.put, List.setIfInBounds_toArray, List.set_cons_zero, List.set_cons_succ]
                refine wpAnyH_ready (rs := [15]) (by kernel_rfl) (by simp) ?_
                refine AllReadyH.cons (o := { dst := none, op := Op.store 25 (Operand.tmp 6) (Operand.tmp 36), type := 0, pos := _, after := #[{ on := 14, ground := Ground.data }, { on := 12, ground := Ground.data }, { on := 10, ground := Ground.chain }, { on := 0, ground := Ground.phase }, { on := 1, ground := Ground.phase }, { on := 2, ground := Ground.phase }, { on := 3, ground := Ground.phase }, { on := 4, ground := Ground.phase }, { on := 5, ground := Ground.phase }, { on := 6, ground := Ground.phase }, { on := 7, ground := Ground.phase }, { on := 8, ground := Ground.phase }, { on := 9, ground := Ground.phase }, { on := 10, ground := Ground.phase }, { on := 11, ground := Ground.phase }, { on := 12, ground := Ground.phase }, { on := 13, ground := Ground.textOnly Departure.lateStores }, { on := 14, ground := Ground.phase }], guard := none }) rfl (fun K hK => ?_) AllReadyH.nil
                obtain ⟨z0, z1, z2⟩ := get3 HZ.out
                have fz0 := HZ.out.frozen 0
                have fz1 := HZ.out.frozen 1
                have fz2 := HZ.out.frozen 2
                have FIN : Hid (Got Y w C (kk + 2 + 2 + 2) zs b D (wput wn zb b3 R3) zb b3 R3 r3) := got_fin hC hYw HO.out HZ.out HTZ.out HZB.out.1 HZB.out.2.1 HZB.out.2.2.2 HOW.out
                go_simp
                refine hK.out _ _ FIN.out.1.box (fun hB => ?_)
                clear hK K hB
                try simp only [Act.put, List.setIfInBounds_toArray, List.set_cons_zero, List.set_cons_succ]
                clear z0 z1 z2 fz0 fz1 fz2
                refine wpAnyH_take (i := 16) (oi := { dst := some 7, op := Op.assign (Operand.tmp 37), type := 4, pos := _, after := #[{ on := 13, ground := Ground.data }, { on := 15, ground := Ground.chain }, { on := 0, ground := Ground.phase }, { on := 1, ground := Ground.phase }, { on := 2, ground := Ground.phase }, { on := 3, ground := Ground.phase }, { on := 4, ground := Ground.phase }, { on := 5, ground := Ground.phase }, { on := 6, ground := Ground.phase }, { on := 7, ground := Ground.phase }, { on := 8, ground := Ground.phase }, { on := 9, ground := Ground.phase }, { on := 10, ground := Ground.phase }, { on := 11, ground := Ground.phase }, { on := 12, ground := Ground.phase }, { on := 13, ground := Ground.phase }, { on := 14, ground := Ground.phase }, { on := 15, ground := Ground.phase }], guard := none }) (v := (.bool r3)) rfl (by kernel_rfl) (by kernel_rfl) (by kernel_rfl) (fun _ _ _ h => h) (Or.inl ⟨by rfl, fun w' hS => by (try dsimp only at hS); go_simp⟩) FIN.out.1.box ?_
                simp only [Act.put, List.setIfInBounds_toArray, List.set_cons_zero, List.set_cons_succ]
                refine wpAnyH_done (by kernel_rfl) ?_ _
                refine NoPanic.normal ?_
                go_wp2_with fail
                go_meet
                exact ⟨_, b3, R3, r3, rfl, rfl, FIN.out⟩
            · go_simp
              have HZ : Hid (Row (wn.alloc (.cells #[.int .i64 0, .slice none 0 0, .slice none 0 0] 25)) wn.heap.size 3 (t3 (.int .i64 0) (.slice none 0 0) (.slice none 0 0))) := box3 wn _ _ _ 25
              have HTZ : Hid (Ty (wn.alloc (.cells #[.int .i64 0, .slice none 0 0, .slice none 0 0] 25)) wn.heap.size 25) := ⟨_, heap_alloc_new _ _⟩
              have HZB : Hid (wn.heap.size ≠ zs ∧ w.heap.size < wn.heap.size ∧ C < wn.heap.size ∧ Nob b wn.heap.size) := ⟨by have h5 := HO.out.ty.lt; omega, by have h5 := HO.out.ty.lt; have h6 := HO.out.zl; omega, by have h5 := HO.out.ty.lt; have h6 := HO.out.zl; omega, HO.out.own.fresh (Nat.le_refl _)⟩
              replace HO : Hid (WS Y w (wn.alloc (.cells #[.int .i64 0, .slice none 0 0, .slice none 0 0] 25)) C (kk + 2 + 2) zs b D) := HO.out.blw ((Blw.refl _).alloc _)
              refine hK.out _ _ HO.out.box (fun hB => ?_)
              clear hK K hB
              try simp only [Act.put, List.setIfInBounds_toArray, List.set_cons_zero, List.set_cons_succ]
              generalize wn.alloc (.cells #[.int .i64 0, .slice none 0 0, .slice none 0 0] 25) = wA at *
              generalize wn.heap.size = zb at *
              refine wpAnyH_ready (rs := [8]) (by kernel_rfl) (by simp) ?_
              refine AllReadyH.cons (o := { dst := some 33, op := Op.buildSlice 28 6 #[(0, Operand.const (Value.int IntKind.i64 1)), (1, Operand.const (Value.int IntKind.i64 2)), (2, Operand.const (Value.int IntKind.i64 8)), (3, Operand.const (Value.int IntKind.i64 9)), (4, Operand.const (Value.int IntKind.i64 55)), (5, Operand.tmp 32)], type := 28, pos := _, after := #[{ on := 7, ground := Ground.data }], guard := none }) rfl (fun K hK => ?_) AllReadyH.nil
              go_simp
              have HI : Hid (IntsAt (fun b => b = wA.heap.size) (wA.alloc (.cells #[.int .i64 1, .int .i64 2, .int .i64 8, .int .i64 9, .int .i64 55, .int .i64 (1 + (x1 : Int))] 3)) (some ⟨wA.heap.size, 0, none⟩) 6 (fun i => [1, 2, 8, 9, 55, 1 + (x1 : Int)].getD i 0)) := ints_lit wA [1, 2, 8, 9, 55, 1 + (x1 : Int)] (by simp)
              have HZI : Hid (C < wA.heap.size) := by have h5 := HO.out.mod.size; show _ < _; omega
              replace HO : Hid (WS Y w (wA.alloc (.cells #[.int .i64 1, .int .i64 2, .int .i64 8, .int .i64 9, .int .i64 55, .int .i64 (1 + (x1 : Int))] 3)) C (kk + 2 + 2) zs b D) := HO.out.blw ((Blw.refl _).alloc _)
              replace HZ : Hid (Row (wA.alloc (.cells #[.int .i64 1, .int .i64 2, .int .i64 8, .int .i64 9, .int .i64 55, .int .i64 (1 + (x1 : Int))] 3)) zb 3 (t3 (.int .i64 0) (.slice none 0 0) (.slice none 0 0))) := HZ.out.blw ((Blw.refl _).alloc _)
              replace HTZ : Hid (Ty (wA.alloc (.cells #[.int .i64 1, .int .i64 2, .int .i64 8, .int .i64 9, .int .i64 55, .int .i64 (1 + (x1 : Int))] 3)) zb 25) := HTZ.out.blw ((Blw.refl _).alloc _)
              refine hK.out _ _ HO.out.box (fun hB => ?_)
              clear hK K hB
              try simp only [Act.put, List.setIfInBounds_toArray, List.set_cons_zero, List.set_cons_succ]
              generalize wA.alloc (.cells #[.int .i64 1, .int .i64 2, .int .i64 8, .int .i64 9, .int .i64 55, .int .i64 (1 + (x1 : Int))] 3) = wB at *
              generalize wA.heap.size = zi at *
              refine wpAnyH_ready (rs := [9]) (by kernel_rfl) (by simp) ?_
              refine AllReadyH.cons (o := { dst := some 34, op := Op.call { callee := Callee.value (Operand.func 47), args := #[Operand.tmp 29, Operand.tmp 33], argTypes := #[63, 28] }, type := 3, pos := _, after := #[{ on := 4, ground := Ground.data }, { on := 8, ground := Ground.data }, { on := 6, ground := Ground.chain }], guard := none }) rfl (fun K hK => ?_) AllReadyH.nil
              go_simp
              refine (among_any Y _ C (kk + 2 + 2) _ 6 6 _ _ (by omega) (by omega) HI.out (fun b hb => by have h5 := HZI.out; have h6 : b = zi := hb; omega) HO.out.cur).mono ?_
              rintro e wn ⟨y0, rfl, hc, hm⟩
              replace HO : Hid (WS Y w wn C (kk + 2 + 2 + 2) zs b D) := HO.out.go hC hc hm
              replace HZ : Hid (Row wn zb 3 (t3 (.int .i64 0) (.slice none 0 0) (.slice none 0 0))) := HZ.out.mod hm (by have h5 := HZB.out.2.2.1; omega)
              replace HTZ : Hid (Ty wn zb 25) := HTZ.out.mod hm (by have h5 := HZB.out.2.2.1; omega)
              clear hc hm HI HZI
              refine hK.out _ _ HO.out.box (fun hB => ?_)
              clear hK K hB
              try simp only [Act.put, List.setIfInBounds_toArray, List.set_cons_zero, List.set_cons_succ]
              refine wpAnyH_ready (rs := [10]) (by kernel_rfl) (by simp) ?_
              refine AllReadyH.cons (o := { dst := some 35, op := Op.call { callee := Callee.value (Operand.func 26), args := #[Operand.tmp 25, Operand.tmp 28, Operand.tmp 34], argTypes := #[25, 3, 3] }, type := 45, pos := _, after := #[{ on := 0, ground := Ground.data }, { on := 3, ground := Ground.data }, { on := 9, ground := Ground.data }, { on := 9, ground := Ground.chain }], guard := none }) rfl (fun K hK => ?_) AllReadyH.nil
              go_simp
              have hsz0 := HO.out.zl
              have hsz1 := HO.out.ty.lt
              have hzz := HTZ.out.lt
              refine (specSetO_any b D (1 + (x0 : Int)) y0 _ _ HO.out.at_ HO.out.small).mono ?_
              rintro e wn ⟨b3, R3, r3, rfl, ho3, hs3, own3, hbk, hO3⟩
              have HOW : Hid (r3 = true → OwnD w wn zs b3 R3 ∧ GoodD R3 ∧ Nob b3 zb) := fun hr => ⟨((hO3 hr).ownD (by omega) hsz1).1, set_good ho3 hr, ((hO3 hr).ownD (w := w) (zs := zs) (by omega) hsz1).2 zb hzz⟩
              replace HZ : Hid (Row wn zb 3 (t3 (.int .i64 0) (.slice none 0 0) (.slice none 0 0))) := HZ.out.blw hbk
              replace HTZ : Hid (Ty wn zb 25) := HTZ.out.blw hbk
              replace HO : Hid (WS Y w wn C (kk + 2 + 2 + 2) zs b D) := HO.out.blw hbk
              clear ho3 hs3 own3 hbk hO3 hsz0 hsz1 hzz
              refine hK.out _ _ HO.out.box (fun hB => ?_)
              clear hK K hB
              try simp only [Act.put, List.setIfInBounds_toArray, List.set_cons_zero, List.set_cons_succ]
              refine wpAnyH_take (i := 11) (oi := { dst := some 24, op := Op.move (Operand.tmp 35), type := 45, pos := _, after := #[{ on := 10, ground := Ground.data }], guard := none }) (v := (.tuple #[b3.val R3, .bool r3])) rfl (by kernel_rfl) (by kernel_rfl) (by kernel_rfl) (fun _ _ _ h => h) (Or.inl ⟨by rfl, fun w' hS => by (try dsimp only at hS); go_simp⟩) HO.out.box ?_
              simp only [Act.put, List.setIfInBounds_toArray, List.set_cons_zero, List.set_cons_succ]
              refine wpAnyH_take (i := 12) (oi := { dst := some 36, op := Op.extract (Operand.tmp 24) 0, type := 25, pos := _, after := #[{ on := 11, ground := Ground.data }], guard := none }) (v := (.agg #[.int .i64 R3.now, .slice b3.a1 R3.N.n b3.c1, .slice b3.a2 R3.F.n b3.c2])) rfl (by kernel_rfl) (by kernel_rfl) (by kernel_rfl) (fun _ _ _ h => h) (Or.inl ⟨by rfl, fun w' hS => by (try dsimp only at hS); go_simp⟩) HO.out.box ?_
              simp only [Act.put, List.setIfInBounds_toArray, List.set_cons_zero, List.set_cons_succ]
              refine wpAnyH_take (i := 13) (oi := { dst := some 37, op := Op.extract (Operand.tmp 24) 1, type := 4, pos := _, after := #[{ on := 11, ground := Ground.data }, { on := 15, ground := Ground.gcOnly Departure.lateStores }], guard := none }) (v := (.bool r3)) rfl (by kernel_rfl) (by kernel_rfl) (by kernel_rfl) (fun _ _ _ h => h) (Or.inl ⟨by rfl, fun w' hS => by (try dsimp only at hS); go_simp⟩) HO.out.box ?_
              simp only [Act.put, List.setIfInBounds_toArray, List.set_cons_zero, List.set_cons_succ]
              refine wpAnyH_ready (rs := [15]) (by kernel_rfl) (by simp) ?_
              refine AllReadyH.cons (o := { dst := none, op := Op.store 25 (Operand.tmp 6) (Operand.tmp 36), type := 0, pos := _, after := #[{ on := 14, ground := Ground.data }, { on := 12, ground := Ground.data }, { on := 10, ground := Ground.chain }, { on := 0, ground := Ground.phase }, { on := 1, ground := Ground.phase }, { on := 2, ground := Ground.phase }, { on := 3, ground := Ground.phase }, { on := 4, ground := Ground.phase }, { on := 5, ground := Ground.phase }, { on := 6, ground := Ground.phase }, { on := 7, ground := Ground.phase }, { on := 8, ground := Ground.phase }, { on := 9, ground := Ground.phase }, { on := 10, ground := Ground.phase }, { on := 11, ground := Ground.phase }, { on := 12, ground := Ground.phase }, { on := 13, ground := Ground.textOnly Departure.lateStores }, { on := 14, ground := Ground.phase }], guard := none }) rfl (fun K hK => ?_) AllReadyH.nil
              obtain ⟨z0, z1, z2⟩ := get3 HZ.out
              have fz0 := HZ.out.frozen 0
              have fz1 := HZ.out.frozen 1
              have fz2 := HZ.out.frozen 2
              have FIN : Hid (Got Y w C (kk + 2 + 2 + 2) zs b D (wput wn zb b3 R3) zb b3 R3 r3) := got_fin hC hYw HO.out HZ.out HTZ.out HZB.out.1 HZB.out.2.1 HZB.out.2.2.2 HOW.out
              go_simp
              refine hK.out _ _ FIN.out.1.box (fun hB => ?_)
              clear hK K hB
              try simp only [Act.put, List.setIfInBounds_toArray, List.set_cons_zero, List.set_cons_succ]
              clear z0 z1 z2 fz0 fz1 fz2
              refine wpAnyH_take (i := 16) (oi := { dst := some 7, op := Op.assign (Operand.tmp 37), type := 4, pos := _, after := #[{ on := 13, ground := Ground.data }, { on := 15, ground := Ground.chain }, { on := 0, ground := Ground.phase }, { on := 1, ground := Ground.phase }, { on := 2, ground := Ground.phase }, { on := 3, ground := Ground.phase }, { on := 4, ground := Ground.phase }, { on := 5, ground := Ground.phase }, { on := 6, ground := Ground.phase }, { on := 7, ground := Ground.phase }, { on := 8, ground := Ground.phase }, { on := 9, ground := Ground.phase }, { on := 10, ground := Ground.phase }, { on := 11, ground := Ground.phase }, { on := 12, ground := Ground.phase }, { on := 13, ground := Ground.phase }, { on := 14, ground := Ground.phase }, { on := 15, ground := Ground.phase }], guard := none }) (v := (.bool r3)) rfl (by kernel_rfl) (by kernel_rfl) (by kernel_rfl) (fun _ _ _ h => h) (Or.inl ⟨by rfl, fun w' hS => by (try dsimp only at hS); go_simp⟩) FIN.out.1.box ?_
              simp only [Act.put, List.setIfInBounds_toArray, List.set_cons_zero, List.set_cons_succ]
              refine wpAnyH_done (by kernel_rfl) ?_ _
              refine NoPanic.normal ?_
              go_wp2_with fail
              go_meet
              exact ⟨_, b3, R3, r3, rfl, rfl, FIN.out⟩
          · go_simp
            have HZ : Hid (Row (wn.alloc (.cells #[.int .i64 0, .slice none 0 0, .slice none 0 0] 25)) wn.heap.size 3 (t3 (.int .i64 0) (.slice none 0 0) (.slice none 0 0))) := box3 wn _ _ _ 25
            have HTZ : Hid (Ty (wn.alloc (.cells #[.int .i64 0, .slice none 0 0, .slice none 0 0] 25)) wn.heap.size 25) := ⟨_, heap_alloc_new _ _⟩
            have HZB : Hid (wn.heap.size ≠ zs ∧ w.heap.size < wn.heap.size ∧ C < wn.heap.size ∧ Nob b wn.heap.size) := ⟨by have h5 := HO.out.ty.lt; omega, by have h5 := HO.out.ty.lt; have h6 := HO.out.zl; omega, by have h5 := HO.out.ty.lt; have h6 := HO.out.zl; omega, HO.out.own.fresh (Nat.le_refl _)⟩
            replace HO : Hid (WS Y w (wn.alloc (.cells #[.int .i64 0, .slice none 0 0, .slice none 0 0] 25)) C (kk + 2) zs b D) := HO.out.blw ((Blw.refl _).alloc _)
            refine hK.out _ _ HO.out.box (fun hB => ?_)
            clear hK K hB
            try simp only [Act.put, List.setIfInBounds_toArray, List.set_cons_zero, List.set_cons_succ]
            generalize wn.alloc (.cells #[.int .i64 0, .slice none 0 0, .slice none 0 0] 25) = wA at *
            generalize wn.heap.size = zb at *
            refine wpAnyH_ready (rs := [6]) (by kernel_rfl) (by simp) ?_
            refine AllReadyH.cons (o := { dst := some 31, op := Op.call { callee := Callee.value (Operand.func 64), args := #[Operand.tmp 30, Operand.const (Value.int IntKind.i64 55)], argTypes := #[63, 3] }, type := 3, pos := _, after := #[{ on := 5, ground := Ground.data }, { on := 2, ground := Ground.chain }], guard := none }) rfl (fun K hK => ?_) AllReadyH.nil
            go_simp
            refine (pick_any Y C (kk + 2) 55 _ (by omega) (by omega) HO.out.cur).mono ?_
            rintro e wn ⟨x1, rfl, hx1, hc, hm⟩
            have hwx1 := wrap1 x1 (by omega)
            replace HO : Hid (WS Y w wn C (kk + 2 + 2) zs b D) := HO.out.go hC hc hm
            replace HZ : Hid (Row wn zb 3 (t3 (.int .i64 0) (.slice none 0 0) (.slice none 0 0))) := HZ.out.mod hm (by have h5 := HZB.out.2.2.1; omega)
            replace HTZ : Hid (Ty wn zb 25) := HTZ.out.mod hm (by have h5 := HZB.out.2.2.1; omega)
            clear hc hm
            refine hK.out _ _ HO.out.box (fun hB => ?_)
            clear hK K hB
            try simp only [Act.put, List.setIfInBounds_toArray, List.set_cons_zero, List.set_cons_succ]
            refine wpAnyH_take (i := 7) (oi := { dst := some 32, op := Op.binOp BinOp.add 3 (Operand.const (Value.int IntKind.i64 1)) (Operand.tmp 31) 3, type := 3, pos := _, after := #[{ on := 6, ground := Ground.data }], guard := none }) (v := (.int .i64 (1 + (x1 : Int)))) rfl (by kernel_rfl) (by kernel_rfl) (by kernel_rfl) (fun _ _ _ h => h) (Or.inl ⟨by rfl, fun w' hS => by (try dsimp only at hS); go_simp⟩) HO.out.box ?_
            simp only [Act.put, List.setIfInBounds_toArray, List.set_cons_zero, List.set_cons_succ]
            refine wpAnyH_ready (rs := [8]) (by kernel_rfl) (by simp) ?_
            refine AllReadyH.cons (o := { dst := some 33, op := Op.buildSlice 28 6 #[(0, Operand.const (Value.int IntKind.i64 1)), (1, Operand.const (Value.int IntKind.i64 2)), (2, Operand.const (Value.int IntKind.i64 8)), (3, Operand.const (Value.int IntKind.i64 9)), (4, Operand.const (Value.int IntKind.i64 55)), (5, Operand.tmp 32)], type := 28, pos := _, after := #[{ on := 7, ground := Ground.data }], guard := none }) rfl (fun K hK => ?_) AllReadyH.nil
            go_simp
            have HI : Hid (IntsAt (fun b => b = wn.heap.size) (wn.alloc (.cells #[.int .i64 1, .int .i64 2, .int .i64 8, .int .i64 9, .int .i64 55, .int .i64 (1 + (x1 : Int))] 3)) (some ⟨wn.heap.size, 0, none⟩) 6 (fun i => [1, 2, 8, 9, 55, 1 + (x1 : Int)].getD i 0)) := ints_lit wn [1, 2, 8, 9, 55, 1 + (x1 : Int)] (by simp)
            have HZI : Hid (C < wn.heap.size) := by have h5 := HO.out.mod.size; show _ < _; omega
            replace HO : Hid (WS Y w (wn.alloc (.cells #[.int .i64 1, .int .i64 2, .int .i64 8, .int .i64 9, .int .i64 55, .int .i64 (1 + (x1 : Int))] 3)) C (kk + 2 + 2) zs b D) := HO.out.blw ((Blw.refl _).alloc _)
            replace HZ : Hid (Row (wn.alloc (.cells #[.int .i64 1, .int .i64 2, .int .i64 8, .int .i64 9, .int .i64 55, .int .i64 (1 + (x1 : Int))] 3)) zb 3 (t3 (.int .i64 0) (.slice none 0 0) (.slice none 0 0))) := HZ.out.blw ((Blw.refl _).alloc _)
            replace HTZ : Hid (Ty (wn.alloc (.cells #[.int .i64 1, .int .i64 2, .int .i64 8, .int .i64 9, .int .i64 55, .int .i64 (1 + (x1 : Int))] 3)) zb 25) := HTZ.out.blw ((Blw.refl _).alloc _)
            refine hK.out _ _ HO.out.box (fun hB => ?_)
            clear hK K hB
            try simp only [Act.put, List.setIfInBounds_toArray, List.set_cons_zero, List.set_cons_succ]
            generalize wn.alloc (.cells #[.int .i64 1, .int .i64 2, .int .i64 8, .int .i64 9, .int .i64 55, .int .i64 (1 + (x1 : Int))] 3) = wB at *
            generalize wn.heap.size = zi at *
            refine wpAnyH_ready (rs := [9]) (by kernel_rfl) (by simp) ?_
            refine AllReadyH.cons (o := { dst := some 34, op := Op.call { callee := Callee.value (Operand.func 47), args := #[Operand.tmp 29, Operand.tmp 33], argTypes := #[63, 28] }, type := 3, pos := _, after := #[{ on := 4, ground := Ground.data }, { on := 8, ground := Ground.data }, { on := 6, ground := Ground.chain }], guard := none }) rfl (fun K hK => ?_) AllReadyH.nil
            go_simp
            refine (among_any Y _ C (kk + 2 + 2) _ 6 6 _ _ (by omega) (by omega) HI.out (fun b hb => by have h5 := HZI.out; have h6 : b = zi := hb; omega) HO.out.cur).mono ?_
            rintro e wn ⟨y0, rfl, hc, hm⟩
            replace HO : Hid (WS Y w wn C (kk + 2 + 2 + 2) zs b D) := HO.out.go hC hc hm
            replace HZ : Hid (Row wn zb 3 (t3 (.int .i64 0) (.slice none 0 0) (.slice none 0 0))) := HZ.out.mod hm (by have h5 := HZB.out.2.2.1; omega)
            replace HTZ : Hid (Ty wn zb 25) := HTZ.out.mod hm (by have h5 := HZB.out.2.2.1; omega)
            clear hc hm HI HZI
            refine hK.out _ _ HO.out.box (fun hB => ?_)
            clear hK K hB
            try simp only [Act.put, List.setIfInBounds_toArray, List.set_cons_zero, List.set_cons_succ]
            refine wpAnyH_ready (rs := [10]) (by kernel_rfl) (by simp) ?_
            refine AllReadyH.cons (o := { dst := some 35, op := Op.call { callee := Callee.value (Operand.func 26), args := #[Operand.tmp 25, Operand.tmp 28, Operand.tmp 34], argTypes := #[25, 3, 3] }, type := 45, pos := _, after := #[{ on := 0, ground := Ground.data }, { on := 3, ground := Ground.data }, { on := 9, ground := Ground.data }, { on := 9, ground := Ground.chain }], guard := none }) rfl (fun K hK => ?_) AllReadyH.nil
            go_simp
            have hsz0 := HO.out.zl
            have hsz1 := HO.out.ty.lt
            have hzz := HTZ.out.lt
            refine (specSetO_any b D (1 + (x0 : Int)) y0 _ _ HO.out.at_ HO.out.small).mono ?_
            rintro e wn ⟨b3, R3, r3, rfl, ho3, hs3, own3, hbk, hO3⟩
            have HOW : Hid (r3 = true → OwnD w wn zs b3 R3 ∧ GoodD R3 ∧ Nob b3 zb) := fun hr => ⟨((hO3 hr).ownD (by omega) hsz1).1, set_good ho3 hr, ((hO3 hr).ownD (w := w) (zs := zs) (by omega) hsz1).2 zb hzz⟩
            replace HZ : Hid (Row wn zb 3 (t3 (.int .i64 0) (.slice none 0 0) (.slice none 0 0))) := HZ.out.blw hbk
            replace HTZ : Hid (Ty wn zb 25) := HTZ.out.blw hbk
            replace HO : Hid (WS Y w wn C (kk + 2 + 2 + 2) zs b D) := HO.out.blw hbk
            clear ho3 hs3 own3 hbk hO3 hsz0 hsz1 hzz
            refine hK.out _ _ HO.out.box (fun hB => ?_)
            clear hK K hB
            try simp only [Act.put, List.setIfInBounds_toArray, List.set_cons_zero, List.set_cons_succ]
            refine wpAnyH_take (i := 11) (oi := { dst := some 24, op := Op.move (Operand.tmp 35), type := 45, pos := _, after := #[{ on := 10, ground := Ground.data }], guard := none }) (v := (.tuple #[b3.val R3, .bool r3])) rfl (by kernel_rfl) (by kernel_rfl) (by kernel_rfl) (fun _ _ _ h => h) (Or.inl ⟨by rfl, fun w' hS => by (try dsimp only at hS); go_simp⟩) HO.out.box ?_
            simp only [Act.put, List.setIfInBounds_toArray, List.set_cons_zero, List.set_cons_succ]
            refine wpAnyH_take (i := 12) (oi := { dst := some 36, op := Op.extract (Operand.tmp 24) 0, type := 25, pos := _, after := #[{ on := 11, ground := Ground.data }], guard := none }) (v := (.agg #[.int .i64 R3.now, .slice b3.a1 R3.N.n b3.c1, .slice b3.a2 R3.F.n b3.c2])) rfl (by kernel_rfl) (by kernel_rfl) (by kernel_rfl) (fun _ _ _ h => h) (Or.inl ⟨by rfl, fun w' hS => by (try dsimp only at hS); go_simp⟩) HO.out.box ?_
            simp only [Act.put, List.setIfInBounds_toArray, List.set_cons_zero, List.set_cons_succ]
            refine wpAnyH_take (i := 13) (oi := { dst := some 37, op := Op.extract (Operand.tmp 24) 1, type := 4, pos := _, after := #[{ on := 11, ground := Ground.data }, { on := 15, ground := Ground.gcOnly Departure.lateStores }], guard := none }) (v := (.bool r3)) rfl (by kernel_rfl) (by kernel_rfl) (by kernel_rfl) (fun _ _ _ h => h) (Or.inl ⟨by rfl, fun w' hS => by (try dsimp only at hS); go_simp⟩) HO.out.box ?_
            simp only [Act.put, List.setIfInBounds_toArray, List.set_cons_zero, List.set_cons_succ]
            refine wpAnyH_ready (rs := [15]) (by kernel_rfl) (by simp) ?_
            refine AllReadyH.cons (o := { dst := none, op := Op.store 25 (Operand.tmp 6) (Operand.tmp 36), type := 0, pos := _, after := #[{ on := 14, ground := Ground.data }, { on := 12, ground := Ground.data }, { on := 10, ground := Ground.chain }, { on := 0, ground := Ground.phase }, { on := 1, ground := Ground.phase }, { on := 2, ground := Ground.phase }, { on := 3, ground := Ground.phase }, { on := 4, ground := Ground.phase }, { on := 5, ground := Ground.phase }, { on := 6, ground := Ground.phase }, { on := 7, ground := Ground.phase }, { on := 8, ground := Ground.phase }, { on := 9, ground := Ground.phase }, { on := 10, ground := Ground.phase }, { on := 11, ground := Ground.phase }, { on := 12, ground := Ground.phase }, { on := 13, ground := Ground.textOnly Departure.lateStores }, { on := 14, ground := Ground.phase }], guard := none }) rfl (fun K hK => ?_) AllReadyH.nil
            obtain ⟨z0, z1, z2⟩ := get3 HZ.out
            have fz0 := HZ.out.frozen 0
            have fz1 := HZ.out.frozen 1
            have fz2 := HZ.out.frozen 2
            have FIN : Hid (Got Y w C (kk + 2 + 2 + 2) zs b D (wput wn zb b3 R3) zb b3 R3 r3) := got_fin hC hYw HO.out HZ.out HTZ.out HZB.out.1 HZB.out.2.1 HZB.out.2.2.2 HOW.out
            go_simp
            refine hK.out _ _ FIN.out.1.box (fun hB => ?_)
            clear hK K hB
            try simp only [Act.put, List.setIfInBounds_toArray, List.set_cons_zero, List.set_cons_succ]
            clear z0 z1 z2 fz0 fz1 fz2
            refine wpAnyH_take (i := 16) (oi := { dst := some 7, op := Op.assign (Operand.tmp 37), type := 4, pos := _, after := #[{ on := 13, ground := Ground.data }, { on := 15, ground := Ground.chain }, { on := 0, ground := Ground.phase }, { on := 1, ground := Ground.phase }, { on := 2, ground := Ground.phase }, { on := 3, ground := Ground.phase }, { on := 4, ground := Ground.phase }, { on := 5, ground := Ground.phase }, { on := 6, ground := Ground.phase }, { on := 7, ground := Ground.phase }, { on := 8, ground := Ground.phase }, { on := 9, ground := Ground.phase }, { on := 10, ground := Ground.phase }, { on := 11, ground := Ground.phase }, { on := 12, ground := Ground.phase }, { on := 13, ground := Ground.phase }, { on := 14, ground := Ground.phase }, { on := 15, ground := Ground.phase }], guard := none }) (v := (.bool r3)) rfl (by kernel_rfl) (by kernel_rfl) (by kernel_rfl) (fun _ _ _ h => h) (Or.inl ⟨by rfl, fun w' hS => by (try dsimp only at hS); go_simp⟩) FIN.out.1.box ?_
            simp only [Act.put, List.setIfInBounds_toArray, List.set_cons_zero, List.set_cons_succ]
            refine wpAnyH_done (by kernel_rfl) ?_ _
            refine NoPanic.normal ?_
            go_wp2_with fail
            go_meet
            exact ⟨_, b3, R3, r3, rfl, rfl, FIN.out⟩
        · go_simp
          have HZ : Hid (Row (wd.alloc (.cells #[.int .i64 0, .slice none 0 0, .slice none 0 0] 25)) wd.heap.size 3 (t3 (.int .i64 0) (.slice none 0 0) (.slice none 0 0))) := box3 wd _ _ _ 25
          have HTZ : Hid (Ty (wd.alloc (.cells #[.int .i64 0, .slice none 0 0, .slice none 0 0] 25)) wd.heap.size 25) := ⟨_, heap_alloc_new _ _⟩
          have HZB : Hid (wd.heap.size ≠ zs ∧ w.heap.size < wd.heap.size ∧ C < wd.heap.size ∧ Nob b wd.heap.size) := ⟨by have h5 := HO.out.ty.lt; omega, by have h5 := HO.out.ty.lt; have h6 := HO.out.zl; omega, by have h5 := HO.out.ty.lt; have h6 := HO.out.zl; omega, HO.out.own.fresh (Nat.le_refl _)⟩
          replace HO : Hid (WS Y w (wd.alloc (.cells #[.int .i64 0, .slice none 0 0, .slice none 0 0] 25)) C (kk) zs b D) := HO.out.blw ((Blw.refl _).alloc _)
          refine hK.out _ _ HO.out.box (fun hB => ?_)
          clear hK K hB
          try simp only [Act.put, List.setIfInBounds_toArray, List.set_cons_zero, List.set_cons_succ]
          generalize wd.alloc (.cells #[.int .i64 0, .slice none 0 0, .slice none 0 0] 25) = wA at *
          generalize wd.heap.size = zb at *
          refine wpAnyH_ready (rs := [2]) (by kernel_rfl) (by simp) ?_
          refine AllReadyH.cons (o := { dst := some 27, op := Op.call { callee := Callee.value (Operand.func 64), args := #[Operand.tmp 26, Operand.const (Value.int IntKind.i64 20)], argTypes := #[63, 3] }, type := 3, pos := _, after := #[{ on := 1, ground := Ground.data }], guard := none }) rfl (fun K hK => ?_) AllReadyH.nil
          go_simp
          refine (pick_any Y C (kk) 20 _ (by omega) (by omega) HO.out.cur).mono ?_
          rintro e wn ⟨x0, rfl, hx0, hc, hm⟩
          have hwx0 := wrap1 x0 (by omega)
          replace HO : Hid (WS Y w wn C (kk + 2) zs b D) := HO.out.go hC hc hm
          replace HZ : Hid (Row wn zb 3 (t3 (.int .i64 0) (.slice none 0 0) (.slice none 0 0))) := HZ.out.mod hm (by have h5 := HZB.out.2.2.1; omega)
          replace HTZ : Hid (Ty wn zb 25) := HTZ.out.mod hm (by have h5 := HZB.out.2.2.1; omega)
          clear hc hm
          refine hK.out _ _ HO.out.box (fun hB => ?_)
          clear hK K hB
          try simp only [Act.put, List.setIfInBounds_toArray, List.set_cons_zero, List.set_cons_succ]
          refine wpAnyH_take (i := 3) (oi := { dst := some 28, op := Op.binOp BinOp.add 3 (Operand.const (Value.int IntKind.i64 1)) (Operand.tmp 27) 3, type := 3, pos := _, after := #[{ on := 2, ground := Ground.data }], guard := none }) (v := (.int .i64 (1 + (x0 : Int)))) rfl (by kernel_rfl) (by kernel_rfl) (by kernel_rfl) (fun _ _ _ h => h) (Or.inl ⟨by rfl, fun w' hS => by (try dsimp only at hS); go_simp⟩) HO.out.box ?_
          simp only [Act.put, List.setIfInBounds_toArray, List.set_cons_zero, List.set_cons_succ]
          refine wpAnyH_ready (rs := [6]) (by kernel_rfl) (by simp) ?_
          refine AllReadyH.cons (o := { dst := some 31, op := Op.call { callee := Callee.value (Operand.func 64), args := #[Operand.tmp 30, Operand.const (Value.int IntKind.i64 55)], argTypes := #[63, 3] }, type := 3, pos := _, after := #[{ on := 5, ground := Ground.data }, { on := 2, ground := Ground.chain }], guard := none }) rfl (fun K hK => ?_) AllReadyH.nil
          go_simp
          refine (pick_any Y C (kk + 2) 55 _ (by omega) (by omega) HO.out.cur).mono ?_
          rintro e wn ⟨x1, rfl, hx1, hc, hm⟩
          have hwx1 := wrap1 x1 (by omega)
          replace HO : Hid (WS Y w wn C (kk + 2 + 2) zs b D) := HO.out.go hC hc hm
          replace HZ : Hid (Row wn zb 3 (t3 (.int .i64 0) (.slice none 0 0) (.slice none 0 0))) := HZ.out.mod hm (by have h5 := HZB.out.2.2.1; omega)
          replace HTZ : Hid (Ty wn zb 25) := HTZ.out.mod hm (by have h5 := HZB.out.2.2.1; omega)
          clear hc hm
          refine hK.out _ _ HO.out.box (fun hB => ?_)
          clear hK K hB
          try simp only [Act.put, List.setIfInBounds_toArray, List.set_cons_zero, List.set_cons_succ]
          refine wpAnyH_take (i := 7) (oi := { dst := some 32, op := Op.binOp BinOp.add 3 (Operand.const (Value.int IntKind.i64 1)) (Operand.tmp 31) 3, type := 3, pos := _, after := #[{ on := 6, ground := Ground.data }], guard := none }) (v := (.int .i64 (1 + (x1 : Int)))) rfl (by kernel_rfl) (by kernel_rfl) (by kernel_rfl) (fun _ _ _ h => h) (Or.inl ⟨by rfl, fun w' hS => by (try dsimp only at hS); go_simp⟩) HO.out.box ?_
          simp only [Act.put, List.setIfInBounds_toArray, List.set_cons_zero, List.set_cons_succ]
          refine wpAnyH_ready (rs := [8]) (by kernel_rfl) (by simp) ?_
          refine AllReadyH.cons (o := { dst := some 33, op := Op.buildSlice 28 6 #[(0, Operand.const (Value.int IntKind.i64 1)), (1, Operand.const (Value.int IntKind.i64 2)), (2, Operand.const (Value.int IntKind.i64 8)), (3, Operand.const (Value.int IntKind.i64 9)), (4, Operand.const (Value.int IntKind.i64 55)), (5, Operand.tmp 32)], type := 28, pos := _, after := #[{ on := 7, ground := Ground.data }], guard := none }) rfl (fun K hK => ?_) AllReadyH.nil
          go_simp
          have HI : Hid (IntsAt (fun b => b = wn.heap.size) (wn.alloc (.cells #[.int .i64 1, .int .i64 2, .int .i64 8, .int .i64 9, .int .i64 55, .int .i64 (1 + (x1 : Int))] 3)) (some ⟨wn.heap.size, 0, none⟩) 6 (fun i => [1, 2, 8, 9, 55, 1 + (x1 : Int)].getD i 0)) := ints_lit wn [1, 2, 8, 9, 55, 1 + (x1 : Int)] (by simp)
          have HZI : Hid (C < wn.heap.size) := by have h5 := HO.out.mod.size; show _ < _; omega
          replace HO : Hid (WS Y w (wn.alloc (.cells #[.int .i64 1, .int .i64 2, .int .i64 8, .int .i64 9, .int .i64 55, .int .i64 (1 + (x1 : Int))] 3)) C (kk + 2 + 2) zs b D) := HO.out.blw ((Blw.refl _).alloc _)
          replace HZ : Hid (Row (wn.alloc (.cells #[.int .i64 1, .int .i64 2, .int .i64 8, .int .i64 9, .int .i64 55, .int .i64 (1 + (x1 : Int))] 3)) zb 3 (t3 (.int .i64 0) (.slice none 0 0) (.slice none 0 0))) := HZ.out.blw ((Blw.refl _).alloc _)
          replace HTZ : Hid (Ty (wn.alloc (.cells #[.int .i64 1, .int .i64 2, .int .i64 8, .int .i64 9, .int .i64 55, .int .i64 (1 + (x1 : Int))] 3)) zb 25) := HTZ.out.blw ((Blw.refl _).alloc _)
          refine hK.out _ _ HO.out.box (fun hB => ?_)
          clear hK K hB
          try simp only [Act.put, List.setIfInBounds_toArray, List.set_cons_zero, List.set_cons_succ]
          generalize wn.alloc (.cells #[.int .i64 1, .int .i64 2, .int .i64 8, .int .i64 9, .int .i64 55, .int .i64 (1 + (x1 : Int))] 3) = wB at *
          generalize wn.heap.size = zi at *
          refine wpAnyH_ready (rs := [9]) (by kernel_rfl) (by simp) ?_
          refine AllReadyH.cons (o := { dst := some 34, op := Op.call { callee := Callee.value (Operand.func 47), args := #[Operand.tmp 29, Operand.tmp 33], argTypes := #[63, 28] }, type := 3, pos := _, after := #[{ on := 4, ground := Ground.data }, { on := 8, ground := Ground.data }, { on := 6, ground := Ground.chain }], guard := none }) rfl (fun K hK => ?_) AllReadyH.nil
          go_simp
          refine (among_any Y _ C (kk + 2 + 2) _ 6 6 _ _ (by omega) (by omega) HI.out (fun b hb => by have h5 := HZI.out; have h6 : b = zi := hb; omega) HO.out.cur).mono ?_
          rintro e wn ⟨y0, rfl, hc, hm⟩
          replace HO : Hid (WS Y w wn C (kk + 2 + 2 + 2) zs b D) := HO.out.go hC hc hm
          replace HZ : Hid (Row wn zb 3 (t3 (.int .i64 0) (.slice none 0 0) (.slice none 0 0))) := HZ.out.mod hm (by have h5 := HZB.out.2.2.1; omega)
          replace HTZ : Hid (Ty wn zb 25) := HTZ.out.mod hm (by have h5 := HZB.out.2.2.1; omega)
          clear hc hm HI HZI
          refine hK.out _ _ HO.out.box (fun hB => ?_)
          clear hK K hB
          try simp only [Act.put, List.setIfInBounds_toArray, List.set_cons_zero, List.set_cons_succ]
          refine wpAnyH_ready (rs := [10]) (by kernel_rfl) (by simp) ?_
          refine AllReadyH.cons (o := { dst := some 35, op := Op.call { callee := Callee.value (Operand.func 26), args := #[Operand.tmp 25, Operand.tmp 28, Operand.tmp 34], argTypes := #[25, 3, 3] }, type := 45, pos := _, after := #[{ on := 0, ground := Ground.data }, { on := 3, ground := Ground.data }, { on := 9, ground := Ground.data }, { on := 9, ground := Ground.chain }], guard := none }) rfl (fun K hK => ?_) AllReadyH.nil
          go_simp
          have hsz0 := HO.out.zl
          have hsz1 := HO.out.ty.lt
          have hzz := HTZ.out.lt
          refine (specSetO_any b D (1 + (x0 : Int)) y0 _ _ HO.out.at_ HO.out.small).mono ?_
          rintro e wn ⟨b3, R3, r3, rfl, ho3, hs3, own3, hbk, hO3⟩
          have HOW : Hid (r3 = true → OwnD w wn zs b3 R3 ∧ GoodD R3 ∧ Nob b3 zb) := fun hr => ⟨((hO3 hr).ownD (by omega) hsz1).1, set_good ho3 hr, ((hO3 hr).ownD (w := w) (zs := zs) (by omega) hsz1).2 zb hzz⟩
          replace HZ : Hid (Row wn zb 3 (t3 (.int .i64 0) (.slice none 0 0) (.slice none 0 0))) := HZ.out.blw hbk
          replace HTZ : Hid (Ty wn zb 25) := HTZ.out.blw hbk
          replace HO : Hid (WS Y w wn C (kk + 2 + 2 + 2) zs b D) := HO.out.blw hbk
          clear ho3 hs3 own3 hbk hO3 hsz0 hsz1 hzz
          refine hK.out _ _ HO.out.box (fun hB => ?_)
          clear hK K hB
          try simp only [Act.put, List.setIfInBounds_toArray, List.set_cons_zero, List.set_cons_succ]
          refine wpAnyH_take (i := 11) (oi := { dst := some 24, op := Op.move (Operand.tmp 35), type := 45, pos := _, after := #[{ on := 10, ground := Ground.data }], guard := none }) (v := (.tuple #[b3.val R3, .bool r3])) rfl (by kernel_rfl) (by kernel_rfl) (by kernel_rfl) (fun _ _ _ h => h) (Or.inl ⟨by rfl, fun w' hS => by (try dsimp only at hS); go_simp⟩) HO.out.box ?_
          simp only [Act.put, List.setIfInBounds_toArray, List.set_cons_zero, List.set_cons_succ]
          refine wpAnyH_take (i := 12) (oi := { dst := some 36, op := Op.extract (Operand.tmp 24) 0, type := 25, pos := _, after := #[{ on := 11, ground := Ground.data }], guard := none }) (v := (.agg #[.int .i64 R3.now, .slice b3.a1 R3.N.n b3.c1, .slice b3.a2 R3.F.n b3.c2])) rfl (by kernel_rfl) (by kernel_rfl) (by kernel_rfl) (fun _ _ _ h => h) (Or.inl ⟨by rfl, fun w' hS => by (try dsimp only at hS); go_simp⟩) HO.out.box ?_
          simp only [Act.put, List.setIfInBounds_toArray, List.set_cons_zero, List.set_cons_succ]
          refine wpAnyH_take (i := 13) (oi := { dst := some 37, op := Op.extract (Operand.tmp 24) 1, type := 4, pos := _, after := #[{ on := 11, ground := Ground.data }, { on := 15, ground := Ground.gcOnly Departure.lateStores }], guard := none }) (v := (.bool r3)) rfl (by kernel_rfl) (by kernel_rfl) (by kernel_rfl) (fun _ _ _ h => h) (Or.inl ⟨by rfl, fun w' hS => by (try dsimp only at hS); go_simp⟩) HO.out.box ?_
          simp only [Act.put, List.setIfInBounds_toArray, List.set_cons_zero, List.set_cons_succ]
          refine wpAnyH_ready (rs := [15]) (by kernel_rfl) (by simp) ?_
          refine AllReadyH.cons (o := { dst := none, op := Op.store 25 (Operand.tmp 6) (Operand.tmp 36), type := 0, pos := _, after := #[{ on := 14, ground := Ground.data }, { on := 12, ground := Ground.data }, { on := 10, ground := Ground.chain }, { on := 0, ground := Ground.phase }, { on := 1, ground := Ground.phase }, { on := 2, ground := Ground.phase }, { on := 3, ground := Ground.phase }, { on := 4, ground := Ground.phase }, { on := 5, ground := Ground.phase }, { on := 6, ground := Ground.phase }, { on := 7, ground := Ground.phase }, { on := 8, ground := Ground.phase }, { on := 9, ground := Ground.phase }, { on := 10, ground := Ground.phase }, { on := 11, ground := Ground.phase }, { on := 12, ground := Ground.phase }, { on := 13, ground := Ground.textOnly Departure.lateStores }, { on := 14, ground := Ground.phase }], guard := none }) rfl (fun K hK => ?_) AllReadyH.nil
          obtain ⟨z0, z1, z2⟩ := get3 HZ.out
          have fz0 := HZ.out.frozen 0
          have fz1 := HZ.out.frozen 1
          have fz2 := HZ.out.frozen 2
          have FIN : Hid (Got Y w C (kk + 2 + 2 + 2) zs b D (wput wn zb b3 R3) zb b3 R3 r3) := got_fin hC hYw HO.out HZ.out HTZ.out HZB.out.1 HZB.out.2.1 HZB.out.2.2.2 HOW.out
          go_simp
          refine hK.out _ _ FIN.out.1.box (fun hB => ?_)
          clear hK K hB
          try simp only [Act.put, List.setIfInBounds_toArray, List.set_cons_zero, List.set_cons_succ]
          clear z0 z1 z2 fz0 fz1 fz2
          refine wpAnyH_take (i := 16) (oi := { dst := some 7, op := Op.assign (Operand.tmp 37), type := 4, pos := _, after := #[{ on := 13, ground := Ground.data }, { on := 15, ground := Ground.chain }, { on := 0, ground := Ground.phase }, { on := 1, ground := Ground.phase }, { on := 2, ground := Ground.phase }, { on := 3, ground := Ground.phase }, { on := 4, ground := Ground.phase }, { on := 5, ground := Ground.phase }, { on := 6, ground := Ground.phase }, { on := 7, ground := Ground.phase }, { on := 8, ground := Ground.phase }, { on := 9, ground := Ground.phase }, { on := 10, ground := Ground.phase }, { on := 11, ground := Ground.phase }, { on := 12, ground := Ground.phase }, { on := 13, ground := Ground.phase }, { on := 14, ground := Ground.phase }, { on := 15, ground := Ground.phase }], guard := none }) (v := (.bool r3)) rfl (by kernel_rfl) (by kernel_rfl) (by kernel_rfl) (fun _ _ _ h => h) (Or.inl ⟨by rfl, fun w' hS => by (try dsimp only at hS); go_simp⟩) FIN.out.1.box ?_
          simp only [Act.put, List.setIfInBounds_toArray, List.set_cons_zero, List.set_cons_succ]
          refine wpAnyH_done (by kernel_rfl) ?_ _
          refine NoPanic.normal ?_
          go_wp2_with fail
          go_meet
          exact ⟨_, b3, R3, r3, rfl, rfl, FIN.out⟩
      case rest =>
        clear HO P0 P1 P2
        obtain ⟨zb, b3, R3, r3, rfl, rfl, HG⟩ := hcut
        clear wr
        go_upto_if 38 with fail
        go_cut [] from 20 to 53 (fun wx => Hid (WSx Y w wx C (kk + 2 + 2 + 2) zs))
        case first =>
          cases r3
          · go_wp2_with fail
            go_meet
            exact ⟨b, D, HG.out.1⟩
          · obtain ⟨z0, z1, z2⟩ := get3 HG.out.2.1
            obtain ⟨t0, t1, t2⟩ := get3 HG.out.1.box
            have f0 := HG.out.1.box.frozen 0
            have f1 := HG.out.1.box.frozen 1
            have f2 := HG.out.1.box.frozen 2
            have FIN : Hid (WSx Y w (wput wc zs b3 R3) C (kk + 2 + 2 + 2) zs) := ⟨_, _, got_take hC hYw HG.out⟩
            clear HG
            go_wp2_with fail
            go_meet
            exact FIN.out
        case rest =>
          have HOW0 : Hid (WSx Y w wc C (kk + 2 + 2 + 2) zs) := hcut.out
          clear hcut HG
          obtain ⟨b, D, hws⟩ := HOW0.out
          have HO : Hid (WS Y w wc C (kk + 2 + 2 + 2) zs b D) := hws
          clear hws HOW0
          have P0 : ∀ w', Row w' zs 3 (wrow b D) → w'.cell? ⟨zs, 0, none⟩ = some (.int .i64 D.now) := fun w' hh => (get3 hh).1
          have P1 : ∀ w', Row w' zs 3 (wrow b D) → w'.cell? ⟨zs, 1, none⟩ = some (.slice b.a1 D.N.n b.c1) := fun w' hh => (get3 hh).2.1
          have P2 : ∀ w', Row w' zs 3 (wrow b D) → w'.cell? ⟨zs, 2, none⟩ = some (.slice b.a2 D.F.n b.c2) := fun w' hh => (get3 hh).2.2
          go_upto_region 8 with fail
          go_cut [8, 9, 10] from 20 to 53 (fun v8 v9 v10 wx => ∃ zb b3 R3 r3, v8 = .pointer (some ⟨zb, 0, none⟩) ∧ v10 = .bool r3 ∧ Hid (Got Y w C (kk + 2 + 2 + 2 + 2) zs b D wx zb b3 R3 r3))
          case first =>
            replace HO : Hid (WS Y w wc.drew C (kk + 2 + 2 + 2) zs b D) := HO.out.blw (Blw.refl _).drew
            refine wp_region_noPanic ?_
            refine wp_region_held_drew (S := fun w' => Row w' zs 3 (wrow b D)) (by kernel_rfl) HO.out.box (fun hB => ?_)
            clear hB
            generalize wc.drew = wd at *
            refine wpAnyH_take (i := 0) (oi := { dst := some 41, op := Op.load 25 (Operand.tmp 3), type := 25, pos := _, after := #[], guard := none }) (v := (.agg #[.int .i64 D.now, .slice b.a1 D.N.n b.c1, .slice b.a2 D.F.n b.c2])) rfl (by kernel_rfl) (by kernel_rfl) (by kernel_rfl) (fun _ _ _ h => h) (Or.inl ⟨by rfl, fun w' hS => by (try dsimp only at hS); go_simp⟩) HO.out.box ?_
            simp only [Act.put, List.setIfInBounds_toArray, List.set_cons_zero, List.set_cons_succ]
            refine wpAnyH_take (i := 1) (oi := { dst := some 42, op := Op.move (Operand.tmp 0), type := 63, pos := _, after := #[], guard := none }) (v := (.pointer (some ⟨C, 0, none⟩))) rfl (by kernel_rfl) (by kernel_rfl) (by kernel_rfl) (fun _ _ _ h => h) (Or.inl ⟨by rfl, fun w' hS => by (try dsimp only at hS); go_simp⟩) HO.out.box ?_
            simp only [Act.put, List.setIfInBounds_toArray, List.set_cons_zero, List.set_cons_succ]
            refine wpAnyH_ready (rs := [2, 8]) (by kernel_rfl) (by simp) ?_
            refine AllReadyH.cons (o := { dst := some 43, op := Op.call { callee := Callee.value (Operand.func 64), args := #[Operand.tmp 42, Operand.const (Value.int IntKind.i64 9)], argTypes := #[63, 3] }, type := 3, pos := _, after := #[{ on := 1, ground := Ground.data }], guard := none }) rfl (fun K hK => ?_) (AllReadyH.cons (o := { dst := some 8, op := Op.alloc 25, type := 0, pos := _, after := #[], guard := none }) rfl (fun K hK => ?_) AllReadyH.nil)
            · go_simp
              refine (pick_any Y C (kk + 2 + 2 + 2) 9 _ (by omega) (by omega) HO.out.cur).mono ?_
              rintro e wn ⟨x2, rfl, hx2, hc, hm⟩
              have hwx2 := wrap1 x2 (by omega)
              replace HO : Hid (WS Y w wn C (kk + 2 + 2 + 2 + 2) zs b D) := HO.out.go hC hc hm
              clear hc hm
              refine hK.out _ _ HO.out.box (fun hB => ?_)
              clear hK K hB
              try simp only [Act.put, List.setIfInBounds_toArray, List.set_cons_zero, List.set_cons_succ]
              refine wpAnyH_ready (rs := [3, 8]) (by kernel_rfl) (by simp) ?_
              refine AllReadyH.cons (o := { dst := some 44, op := Op.call { callee := Callee.value (Operand.func 14), args := #[Operand.tmp 41, Operand.tmp 43], argTypes := #[25, 3] }, type := 29, pos := _, after := #[{ on := 0, ground := Ground.data }, { on := 2, ground := Ground.data }, { on := 2, ground := Ground.chain }], guard := none }) rfl (fun K hK => ?_) (AllReadyH.cons (o := { dst := some 8, op := Op.alloc 25, type := 0, pos := _, after := #[], guard := none }) rfl (fun K hK => ?_) AllReadyH.nil)
              · go_simp
                have hsz0 := HO.out.zl
                have hsz1 := HO.out.ty.lt
                refine (specRunO_any b D (x2 : Int) _ _ HO.out.at_ HO.out.small).mono ?_
                rintro e wn ⟨b3, R3, ao3, c3, m3, l3, r3, rfl, hm3, ho3, hs3, hl3, own3, oi3, hbk, hO3⟩
                have HOW : Hid (r3 = true → OwnD w wn zs b3 R3 ∧ GoodD R3) := fun hr => ⟨((hO3 hr).ownD (by omega) hsz1).1, run_good ho3 hr⟩
                replace HO : Hid (WS Y w wn C (kk + 2 + 2 + 2 + 2) zs b D) := HO.out.blw hbk
                clear ho3 hs3 own3 hbk hO3 hsz0 hsz1 oi3 hl3 hm3
                refine hK.out _ _ HO.out.box (fun hB => ?_)
                clear hK K hB
                try simp only [Act.put, List.setIfInBounds_toArray, List.set_cons_zero, List.set_cons_succ]
                refine wpAnyH_take (i := 4) (oi := { dst := some 40, op := Op.move (Operand.tmp 44), type := 29, pos := _, after := #[{ on := 3, ground := Ground.data }], guard := none }) (v := (.tuple #[b3.val R3, .slice ao3 m3 c3, .bool r3])) rfl (by kernel_rfl) (by kernel_rfl) (by kernel_rfl) (fun _ _ _ h => h) (Or.inl ⟨by rfl, fun w' hS => by (try dsimp only at hS); go_simp⟩) HO.out.box ?_
                simp only [Act.put, List.setIfInBounds_toArray, List.set_cons_zero, List.set_cons_succ]
                refine wpAnyH_take (i := 5) (oi := { dst := some 45, op := Op.extract (Operand.tmp 40) 0, type := 25, pos := _, after := #[{ on := 4, ground := Ground.data }], guard := none }) (v := (.agg #[.int .i64 R3.now, .slice b3.a1 R3.N.n b3.c1, .slice b3.a2 R3.F.n b3.c2])) rfl (by kernel_rfl) (by kernel_rfl) (by kernel_rfl) (fun _ _ _ h => h) (Or.inl ⟨by rfl, fun w' hS => by (try dsimp only at hS); go_simp⟩) HO.out.box ?_
                simp only [Act.put, List.setIfInBounds_toArray, List.set_cons_zero, List.set_cons_succ]
                refine wpAnyH_take (i := 6) (oi := { dst := some 46, op := Op.extract (Operand.tmp 40) 1, type := 28, pos := _, after := #[{ on := 4, ground := Ground.data }, { on := 9, ground := Ground.gcOnly Departure.lateStores }], guard := none }) (v := (.slice ao3 m3 c3)) rfl (by kernel_rfl) (by kernel_rfl) (by kernel_rfl) (fun _ _ _ h => h) (Or.inl ⟨by rfl, fun w' hS => by (try dsimp only at hS); go_simp⟩) HO.out.box ?_
                simp only [Act.put, List.setIfInBounds_toArray, List.set_cons_zero, List.set_cons_succ]
                refine wpAnyH_take (i := 7) (oi := { dst := some 47, op := Op.extract (Operand.tmp 40) 2, type := 4, pos := _, after := #[{ on := 4, ground := Ground.data }, { on := 10, ground := Ground.gcOnly Departure.lateStores }], guard := none }) (v := (.bool r3)) rfl (by kernel_rfl) (by kernel_rfl) (by kernel_rfl) (fun _ _ _ h => h) (Or.inl ⟨by rfl, fun w' hS => by (try dsimp only at hS); go_simp⟩) HO.out.box ?_
                simp only [Act.put, List.setIfInBounds_toArray, List.set_cons_zero, List.set_cons_succ]
                refine wpAnyH_ready (rs := [8]) (by kernel_rfl) (by simp) ?_
                refine AllReadyH.cons (o := { dst := some 8, op := Op.alloc 25, type := 0, pos := _, after := #[], guard := none }) rfl (fun K hK => ?_) AllReadyH.nil
                go_simp
                have HZ : Hid (Row (wn.alloc (.cells #[.int .i64 0, .slice none 0 0, .slice none 0 0] 25)) wn.heap.size 3 (t3 (.int .i64 0) (.slice none 0 0) (.slice none 0 0))) := box3 wn _ _ _ 25
                have HTZ : Hid (Ty (wn.alloc (.cells #[.int .i64 0, .slice none 0 0, .slice none 0 0] 25)) wn.heap.size 25) := ⟨_, heap_alloc_new _ _⟩
                have HZB : Hid (wn.heap.size ≠ zs ∧ w.heap.size < wn.heap.size ∧ C < wn.heap.size ∧ Nob b wn.heap.size) := ⟨by have h5 := HO.out.ty.lt; omega, by have h5 := HO.out.ty.lt; have h6 := HO.out.zl; omega, by have h5 := HO.out.ty.lt; have h6 := HO.out.zl; omega, HO.out.own.fresh (Nat.le_refl _)⟩
                replace HOW : Hid (r3 = true → OwnD w (wn.alloc (.cells #[.int .i64 0, .slice none 0 0, .slice none 0 0] 25)) zs b3 R3 ∧ GoodD R3 ∧ Nob b3 wn.heap.size) := fun hr => ⟨(HOW.out hr).1.blw ((Blw.refl _).alloc _), (HOW.out hr).2, (HOW.out hr).1.fresh (Nat.le_refl _)⟩
                replace HO : Hid (WS Y w (wn.alloc (.cells #[.int .i64 0, .slice none 0 0, .slice none 0 0] 25)) C (kk + 2 + 2 + 2 + 2) zs b D) := HO.out.blw ((Blw.refl _).alloc _)
                refine hK.out _ _ HO.out.box (fun hB => ?_)
                clear hK K hB
                try simp only [Act.put, List.setIfInBounds_toArray, List.set_cons_zero, List.set_cons_succ]
                generalize wn.alloc (.cells #[.int .i64 0, .slice none 0 0, .slice none 0 0] 25) = wA at *
                generalize wn.heap.size = zb at *
                refine wpAnyH_ready (rs := [9]) (by kernel_rfl) (by simp) ?_
                refine AllReadyH.cons (o := { dst := none, op := Op.store 25 (Operand.tmp 8) (Operand.tmp 45), type := 0, pos := _, after := #[{ on := 8, ground := Ground.data }, { on := 5, ground := Ground.data }, { on := 3, ground := Ground.chain }, { on := 0, ground := Ground.phase }, { on := 1, ground := Ground.phase }, { on := 2, ground := Ground.phase }, { on := 3, ground := Ground.phase }, { on := 4, ground := Ground.phase }, { on := 5, ground := Ground.phase }, { on := 6, ground := Ground.textOnly Departure.lateStores }, { on := 7, ground := Ground.textOnly Departure.lateStores }, { on := 8, ground := Ground.phase }], guard := none }) rfl (fun K hK => ?_) AllReadyH.nil
                obtain ⟨z0, z1, z2⟩ := get3 HZ.out
                have fz0 := HZ.out.frozen 0
                have fz1 := HZ.out.frozen 1
                have fz2 := HZ.out.frozen 2
                have FIN : Hid (Got Y w C (kk + 2 + 2 + 2 + 2) zs b D (wput wA zb b3 R3) zb b3 R3 r3) := got_fin hC hYw HO.out HZ.out HTZ.out HZB.out.1 HZB.out.2.1 HZB.out.2.2.2 HOW.out
                go_simp
                refine hK.out _ _ FIN.out.1.box (fun hB => ?_)
                clear hK K hB
                try simp only [Act.put, List.setIfInBounds_toArray, List.set_cons_zero, List.set_cons_succ]
                clear z0 z1 z2 fz0 fz1 fz2
                refine wpAnyH_take (i := 10) (oi := { dst := some 9, op := Op.assign (Operand.tmp 46), type := 28, pos := _, after := #[{ on := 6, ground := Ground.data }, { on := 9, ground := Ground.chain }, { on := 0, ground := Ground.phase }, { on := 1, ground := Ground.phase }, { on := 2, ground := Ground.phase }, { on := 3, ground := Ground.phase }, { on := 4, ground := Ground.phase }, { on := 5, ground := Ground.phase }, { on := 6, ground := Ground.phase }, { on := 7, ground := Ground.textOnly Departure.lateStores }, { on := 8, ground := Ground.phase }, { on := 9, ground := Ground.phase }], guard := none }) (v := (.slice ao3 m3 c3)) rfl (by kernel_rfl) (by kernel_rfl) (by kernel_rfl) (fun _ _ _ h => h) (Or.inl ⟨by rfl, fun w' hS => by (try dsimp only at hS); go_simp⟩) FIN.out.1.box ?_
                simp only [Act.put, List.setIfInBounds_toArray, List.set_cons_zero, List.set_cons_succ]
                refine wpAnyH_take (i := 11) (oi := { dst := some 10, op := Op.assign (Operand.tmp 47), type := 4, pos := _, after := #[{ on := 7, ground := Ground.data }, { on := 10, ground := Ground.chain }, { on := 0, ground := Ground.phase }, { on := 1, ground := Ground.phase }, { on := 2, ground := Ground.phase }, { on := 3, ground := Ground.phase }, { on := 4, ground := Ground.phase }, { on := 5, ground := Ground.phase }, { on := 6, ground := Ground.phase }, { on := 7, ground := Ground.phase }, { on := 8, ground := Ground.phase }, { on := 9, ground := Ground.phase }, { on := 10, ground := Ground.phase }], guard := none }) (v := (.bool r3)) rfl (by kernel_rfl) (by kernel_rfl) (by kernel_rfl) (fun _ _ _ h => h) (Or.inl ⟨by rfl, fun w' hS => by (try dsimp only at hS); go_simp⟩) FIN.out.1.box ?_
                simp only [Act.put, List.setIfInBounds_toArray, List.set_cons_zero, List.set_cons_succ]
                refine wpAnyH_done (by kernel_rfl) ?_ _
                refine NoPanic.normal ?_
                go_wp2_with fail
                go_meet
                exact ⟨_, b3, R3, r3, rfl, rfl, FIN.out⟩
              · go_simp
                have HZ : Hid (Row (wn.alloc (.cells #[.int .i64 0, .slice none 0 0, .slice none 0 0] 25)) wn.heap.size 3 (t3 (.int .i64 0) (.slice none 0 0) (.slice none 0 0))) := box3 wn _ _ _ 25
                have HTZ : Hid (Ty (wn.alloc (.cells #[.int .i64 0, .slice none 0 0, .slice none 0 0] 25)) wn.heap.size 25) := ⟨_, heap_alloc_new _ _⟩
                have HZB : Hid (wn.heap.size ≠ zs ∧ w.heap.size < wn.heap.size ∧ C < wn.heap.size ∧ Nob b wn.heap.size) := ⟨by have h5 := HO.out.ty.lt; omega, by have h5 := HO.out.ty.lt; have h6 := HO.out.zl; omega, by have h5 := HO.out.ty.lt; have h6 := HO.out.zl; omega, HO.out.own.fresh (Nat.le_refl _)⟩
                replace HO : Hid (WS Y w (wn.alloc (.cells #[.int .i64 0, .slice none 0 0, .slice none 0 0] 25)) C (kk + 2 + 2 + 2 + 2) zs b D) := HO.out.blw ((Blw.refl _).alloc _)
                refine hK.out _ _ HO.out.box (fun hB => ?_)
                clear hK K hB
                try simp only [Act.put, List.setIfInBounds_toArray, List.set_cons_zero, List.set_cons_succ]
                generalize wn.alloc (.cells #[.int .i64 0, .slice none 0 0, .slice none 0 0] 25) = wA at *
                generalize wn.heap.size = zb at *
                refine wpAnyH_ready (rs := [3]) (by kernel_rfl) (by simp) ?_
                refine AllReadyH.cons (o := { dst := some 44, op := Op.call { callee := Callee.value (Operand.func 14), args := #[Operand.tmp 41, Operand.tmp 43], argTypes := #[25, 3] }, type := 29, pos := _, after := #[{ on := 0, ground := Ground.data }, { on := 2, ground := Ground.data }, { on := 2, ground := Ground.chain }], guard := none }) rfl (fun K hK => ?_) AllReadyH.nil
                go_simp
                have hsz0 := HO.out.zl
                have hsz1 := HO.out.ty.lt
                have hzz := HTZ.out.lt
                refine (specRunO_any b D (x2 : Int) _ _ HO.out.at_ HO.out.small).mono ?_
                rintro e wn ⟨b3, R3, ao3, c3, m3, l3, r3, rfl, hm3, ho3, hs3, hl3, own3, oi3, hbk, hO3⟩
                have HOW : Hid (r3 = true → OwnD w wn zs b3 R3 ∧ GoodD R3 ∧ Nob b3 zb) := fun hr => ⟨((hO3 hr).ownD (by omega) hsz1).1, run_good ho3 hr, ((hO3 hr).ownD (w := w) (zs := zs) (by omega) hsz1).2 zb hzz⟩
                replace HZ : Hid (Row wn zb 3 (t3 (.int .i64 0) (.slice none 0 0) (.slice none 0 0))) := HZ.out.blw hbk
                replace HTZ : Hid (Ty wn zb 25) := HTZ.out.blw hbk
                replace HO : Hid (WS Y w wn C (kk + 2 + 2 + 2 + 2) zs b D) := HO.out.blw hbk
                clear ho3 hs3 own3 hbk hO3 hsz0 hsz1 hzz oi3 hl3 hm3
                refine hK.out _ _ HO.out.box (fun hB => ?_)
                clear hK K hB
                try simp only [Act.put, List.setIfInBounds_toArray, List.set_cons_zero, List.set_cons_succ]
                refine wpAnyH_take (i := 4) (oi := { dst := some 40, op := Op.move (Operand.tmp 44), type := 29, pos := _, after := #[{ on := 3, ground := Ground.data }], guard := none }) (v := (.tuple #[b3.val R3, .slice ao3 m3 c3, .bool r3])) rfl (by kernel_rfl) (by kernel_rfl) (by kernel_rfl) (fun _ _ _ h => h) (Or.inl ⟨by rfl, fun w' hS => by (try dsimp only at hS); go_simp⟩) HO.out.box ?_
                simp only [Act.put, List.setIfInBounds_toArray, List.set_cons_zero, List.set_cons_succ]
                refine wpAnyH_take (i := 5) (oi := { dst := some 45, op := Op.extract (Operand.tmp 40) 0, type := 25, pos := _, after := #[{ on := 4, ground := Ground.data }], guard := none }) (v := (.agg #[.int .i64 R3.now, .slice b3.a1 R3.N.n b3.c1, .slice b3.a2 R3.F.n b3.c2])) rfl (by kernel_rfl) (by kernel_rfl) (by kernel_rfl) (fun _ _ _ h => h) (Or.inl ⟨by rfl, fun w' hS => by (try dsimp only at hS); go_simp⟩) HO.out.box ?_
                simp only [Act.put, List.setIfInBounds_toArray, List.set_cons_zero, List.set_cons_succ]
                refine wpAnyH_take (i := 6) (oi := { dst := some 46, op := Op.extract (Operand.tmp 40) 1, type := 28, pos := _, after := #[{ on := 4, ground := Ground.data }, { on := 9, ground := Ground.gcOnly Departure.lateStores }], guard := none }) (v := (.slice ao3 m3 c3)) rfl (by kernel_rfl) (by kernel_rfl) (by kernel_rfl) (fun _ _ _ h => h) (Or.inl ⟨by rfl, fun w' hS => by (try dsimp only at hS); go_simp⟩) HO.out.box ?_
                simp only [Act.put, List.setIfInBounds_toArray, List.set_cons_zero, List.set_cons_succ]
                refine wpAnyH_take (i := 7) (oi := { dst := some 47, op := Op.extract (Operand.tmp 40) 2, type := 4, pos := _, after := #[{ on := 4, ground := Ground.data }, { on := 10, ground := Ground.gcOnly Departure.lateStores }], guard := none }) (v := (.bool r3)) rfl (by kernel_rfl) (by kernel_rfl) (by kernel_rfl) (fun _ _ _ h => h) (Or.inl ⟨by rfl, fun w' hS => by (try dsimp only at hS); go_simp⟩) HO.out.box ?_
                simp only [Act.put, List.setIfInBounds_toArray, List.set_cons_zero, List.set_cons_succ]
                refine wpAnyH_ready (rs := [9]) (by kernel_rfl) (by simp) ?_
                refine AllReadyH.cons (o := { dst := none, op := Op.store 25 (Operand.tmp 8) (Operand.tmp 45), type := 0, pos := _, after := #[{ on := 8, ground := Ground.data }, { on := 5, ground := Ground.data }, { on := 3, ground := Ground.chain }, { on := 0, ground := Ground.phase }, { on := 1, ground := Ground.phase }, { on := 2, ground := Ground.phase }, { on := 3, ground := Ground.phase }, { on := 4, ground := Ground.phase }, { on := 5, ground := Ground.phase }, { on := 6, ground := Ground.textOnly Departure.lateStores }, { on := 7, ground := Ground.textOnly Departure.lateStores }, { on := 8, ground := Ground.phase }], guard := none }) rfl (fun K hK => ?_) AllReadyH.nil
                obtain ⟨z0, z1, z2⟩ := get3 HZ.out
                have fz0 := HZ.out.frozen 0
                have fz1 := HZ.out.frozen 1
                have fz2 := HZ.out.frozen 2
                have FIN : Hid (Got Y w C (kk + 2 + 2 + 2 + 2) zs b D (wput wn zb b3 R3) zb b3 R3 r3) := got_fin hC hYw HO.out HZ.out HTZ.out HZB.out.1 HZB.out.2.1 HZB.out.2.2.2 HOW.out
                go_simp
                refine hK.out _ _ FIN.out.1.box (fun hB => ?_)
                clear hK K hB
                try simp only [Act.put, List.setIfInBounds_toArray, List.set_cons_zero, List.set_cons_succ]
                clear z0 z1 z2 fz0 fz1 fz2
                refine wpAnyH_take (i := 10) (oi := { dst := some 9, op := Op.assign (Operand.tmp 46), type := 28, pos := _, after := #[{ on := 6, ground := Ground.data }, { on := 9, ground := Ground.chain }, { on := 0, ground := Ground.phase }, { on := 1, ground := Ground.phase }, { on := 2, ground := Ground.phase }, { on := 3, ground := Ground.phase }, { on := 4, ground := Ground.phase }, { on := 5, ground := Ground.phase }, { on := 6, ground := Ground.phase }, { on := 7, ground := Ground.textOnly Departure.lateStores }, { on := 8, ground := Ground.phase }, { on := 9, ground := Ground.phase }], guard := none }) (v := (.slice ao3 m3 c3)) rfl (by kernel_rfl) (by kernel_rfl) (by kernel_rfl) (fun _ _ _ h => h) (Or.inl ⟨by rfl, fun w' hS => by (try dsimp only at hS); go_simp⟩) FIN.out.1.box ?_
                simp only [Act.put, List.setIfInBounds_toArray, List.set_cons_zero, List.set_cons_succ]
                refine wpAnyH_take (i := 11) (oi := { dst := some 10, op := Op.assign (Operand.tmp 47), type := 4, pos := _, after := #[{ on := 7, ground := Ground.data }, { on := 10, ground := Ground.chain }, { on := 0, ground := Ground.phase }, { on := 1, ground := Ground.phase }, { on := 2, ground := Ground.phase }, { on := 3, ground := Ground.phase }, { on := 4, ground := Ground.phase }, { on := 5, ground := Ground.phase }, { on := 6, ground := Ground.phase }, { on := 7, ground := Ground.phase }, { on := 8, ground := Ground.phase }, { on := 9, ground := Ground.phase }, { on := 10, ground := Ground.phase }], guard := none }) (v := (.bool r3)) rfl (by kernel_rfl) (by kernel_rfl) (by kernel_rfl) (fun _ _ _ h => h) (Or.inl ⟨by rfl, fun w' hS => by (try dsimp only at hS); go_simp⟩) FIN.out.1.box ?_
                simp only [Act.put, List.setIfInBounds_toArray, List.set_cons_zero, List.set_cons_succ]
                refine wpAnyH_done (by kernel_rfl) ?_ _
                refine NoPanic.normal ?_
                go_wp2_with fail
                go_meet
                exact ⟨_, b3, R3, r3, rfl, rfl, FIN.out⟩
            · go_simp
              have HZ : Hid (Row (wd.alloc (.cells #[.int .i64 0, .slice none 0 0, .slice none 0 0] 25)) wd.heap.size 3 (t3 (.int .i64 0) (.slice none 0 0) (.slice none 0 0))) := box3 wd _ _ _ 25
              have HTZ : Hid (Ty (wd.alloc (.cells #[.int .i64 0, .slice none 0 0, .slice none 0 0] 25)) wd.heap.size 25) := ⟨_, heap_alloc_new _ _⟩
              have HZB : Hid (wd.heap.size ≠ zs ∧ w.heap.size < wd.heap.size ∧ C < wd.heap.size ∧ Nob b wd.heap.size) := ⟨by have h5 := HO.out.ty.lt; omega, by have h5 := HO.out.ty.lt; have h6 := HO.out.zl; omega, by have h5 := HO.out.ty.lt; have h6 := HO.out.zl; omega, HO.out.own.fresh (Nat.le_refl _)⟩
              replace HO : Hid (WS Y w (wd.alloc (.cells #[.int .i64 0, .slice none 0 0, .slice none 0 0] 25)) C (kk + 2 + 2 + 2) zs b D) := HO.out.blw ((Blw.refl _).alloc _)
              refine hK.out _ _ HO.out.box (fun hB => ?_)
              clear hK K hB
              try simp only [Act.put, List.setIfInBounds_toArray, List.set_cons_zero, List.set_cons_succ]
              generalize wd.alloc (.cells #[.int .i64 0, .slice none 0 0, .slice none 0 0] 25) = wA at *
              generalize wd.heap.size = zb at *
              refine wpAnyH_ready (rs := [2]) (by kernel_rfl) (by simp) ?_
              refine AllReadyH.cons (o := { dst := some 43, op := Op.call { callee := Callee.value (Operand.func 64), args := #[Operand.tmp 42, Operand.const (Value.int IntKind.i64 9)], argTypes := #[63, 3] }, type := 3, pos := _, after := #[{ on := 1, ground := Ground.data }], guard := none }) rfl (fun K hK => ?_) AllReadyH.nil
              go_simp
              refine (pick_any Y C (kk + 2 + 2 + 2) 9 _ (by omega) (by omega) HO.out.cur).mono ?_
              rintro e wn ⟨x2, rfl, hx2, hc, hm⟩
              have hwx2 := wrap1 x2 (by omega)
              replace HO : Hid (WS Y w wn C (kk + 2 + 2 + 2 + 2) zs b D) := HO.out.go hC hc hm
              replace HZ : Hid (Row wn zb 3 (t3 (.int .i64 0) (.slice none 0 0) (.slice none 0 0))) := HZ.out.mod hm (by have h5 := HZB.out.2.2.1; omega)
              replace HTZ : Hid (Ty wn zb 25) := HTZ.out.mod hm (by have h5 := HZB.out.2.2.1; omega)
              clear hc hm
              refine hK.out _ _ HO.out.box (fun hB => ?_)
              clear hK K hB
              try simp only [Act.put, List.setIfInBounds_toArray, List.set_cons_zero, List.set_cons_succ]
              refine wpAnyH_ready (rs := [3]) (by kernel_rfl) (by simp) ?_
              refine AllReadyH.cons (o := { dst := some 44, op := Op.call { callee := Callee.value (Operand.func 14), args := #[Operand.tmp 41, Operand.tmp 43], argTypes := #[25, 3] }, type := 29, pos := _, after := #[{ on := 0, ground := Ground.data }, { on := 2, ground := Ground.data }, { on := 2, ground := Ground.chain }], guard := none }) rfl (fun K hK => ?_) AllReadyH.nil
              go_simp
              have hsz0 := HO.out.zl
              have hsz1 := HO.out.ty.lt
              have hzz := HTZ.out.lt
              refine (specRunO_any b D (x2 : Int) _ _ HO.out.at_ HO.out.small).mono ?_
              rintro e wn ⟨b3, R3, ao3, c3, m3, l3, r3, rfl, hm3, ho3, hs3, hl3, own3, oi3, hbk, hO3⟩
              have HOW : Hid (r3 = true → OwnD w wn zs b3 R3 ∧ GoodD R3 ∧ Nob b3 zb) := fun hr => ⟨((hO3 hr).ownD (by omega) hsz1).1, run_good ho3 hr, ((hO3 hr).ownD (w := w) (zs := zs) (by omega) hsz1).2 zb hzz⟩
              replace HZ : Hid (Row wn zb 3 (t3 (.int .i64 0) (.slice none 0 0) (.slice none 0 0))) := HZ.out.blw hbk
              replace HTZ : Hid (Ty wn zb 25) := HTZ.out.blw hbk
              replace HO : Hid (WS Y w wn C (kk + 2 + 2 + 2 + 2) zs b D) := HO.out.blw hbk
              clear ho3 hs3 own3 hbk hO3 hsz0 hsz1 hzz oi3 hl3 hm3
              refine hK.out _ _ HO.out.box (fun hB => ?_)
              clear hK K hB
              try simp only [Act.put, List.setIfInBounds_toArray, List.set_cons_zero, List.set_cons_succ]
              refine wpAnyH_take (i := 4) (oi := { dst := some 40, op := Op.move (Operand.tmp 44), type := 29, pos := _, after := #[{ on := 3, ground := Ground.data }], guard := none }) (v := (.tuple #[b3.val R3, .slice ao3 m3 c3, .bool r3])) rfl (by kernel_rfl) (by kernel_rfl) (by kernel_rfl) (fun _ _ _ h => h) (Or.inl ⟨by rfl, fun w' hS => by (try dsimp only at hS); go_simp⟩) HO.out.box ?_
              simp only [Act.put, List.setIfInBounds_toArray, List.set_cons_zero, List.set_cons_succ]
              refine wpAnyH_take (i := 5) (oi := { dst := some 45, op := Op.extract (Operand.tmp 40) 0, type := 25, pos := _, after := #[{ on := 4, ground := Ground.data }], guard := none }) (v := (.agg #[.int .i64 R3.now, .slice b3.a1 R3.N.n b3.c1, .slice b3.a2 R3.F.n b3.c2])) rfl (by kernel_rfl) (by kernel_rfl) (by kernel_rfl) (fun _ _ _ h => h) (Or.inl ⟨by rfl, fun w' hS => by (try dsimp only at hS); go_simp⟩) HO.out.box ?_
              simp only [Act.put, List.setIfInBounds_toArray, List.set_cons_zero, List.set_cons_succ]
              refine wpAnyH_take (i := 6) (oi := { dst := some 46, op := Op.extract (Operand.tmp 40) 1, type := 28, pos := _, after := #[{ on := 4, ground := Ground.data }, { on := 9, ground := Ground.gcOnly Departure.lateStores }], guard := none }) (v := (.slice ao3 m3 c3)) rfl (by kernel_rfl) (by kernel_rfl) (by kernel_rfl) (fun _ _ _ h => h) (Or.inl ⟨by rfl, fun w' hS => by (try dsimp only at hS); go_simp⟩) HO.out.box ?_
              simp only [Act.put, List.setIfInBounds_toArray, List.set_cons_zero, List.set_cons_succ]
              refine wpAnyH_take (i := 7) (oi := { dst := some 47, op := Op.extract (Operand.tmp 40) 2, type := 4, pos := _, after := #[{ on := 4, ground := Ground.data }, { on := 10, ground := Ground.gcOnly Departure.lateStores }], guard := none }) (v := (.bool r3)) rfl (by kernel_rfl) (by kernel_rfl) (by kernel_rfl) (fun _ _ _ h => h) (Or.inl ⟨by rfl, fun w' hS => by (try dsimp only at hS); go_simp⟩) HO.out.box ?_
              simp only [Act.put, List.setIfInBounds_toArray, List.set_cons_zero, List.set_cons_succ]
              refine wpAnyH_ready (rs := [9]) (by kernel_rfl) (by simp) ?_
              refine AllReadyH.cons (o := { dst := none, op := Op.store 25 (Operand.tmp 8) (Operand.tmp 45), type := 0, pos := _, after := #[{ on := 8, ground := Ground.data }, { on := 5, ground := Ground.data }, { on := 3, ground := Ground.chain }, { on := 0, ground := Ground.phase }, { on := 1, ground := Ground.phase }, { on := 2, ground := Ground.phase }, { on := 3, ground := Ground.phase }, { on := 4, ground := Ground.phase }, { on := 5, ground := Ground.phase }, { on := 6, ground := Ground.textOnly Departure.lateStores }, { on := 7, ground := Ground.textOnly Departure.lateStores }, { on := 8, ground := Ground.phase }], guard := none }) rfl (fun K hK => ?_) AllReadyH.nil
              obtain ⟨z0, z1, z2⟩ := get3 HZ.out
              have fz0 := HZ.out.frozen 0
              have fz1 := HZ.out.frozen 1
              have fz2 := HZ.out.frozen 2
              have FIN : Hid (Got Y w C (kk + 2 + 2 + 2 + 2) zs b D (wput wn zb b3 R3) zb b3 R3 r3) := got_fin hC hYw HO.out HZ.out HTZ.out HZB.out.1 HZB.out.2.1 HZB.out.2.2.2 HOW.out
              go_simp
              refine hK.out _ _ FIN.out.1.box (fun hB => ?_)
              clear hK K hB
              try simp only [Act.put, List.setIfInBounds_toArray, List.set_cons_zero, List.set_cons_succ]
              clear z0 z1 z2 fz0 fz1 fz2
              refine wpAnyH_take (i := 10) (oi := { dst := some 9, op := Op.assign (Operand.tmp 46), type := 28, pos := _, after := #[{ on := 6, ground := Ground.data }, { on := 9, ground := Ground.chain }, { on := 0, ground := Ground.phase }, { on := 1, ground := Ground.phase }, { on := 2, ground := Ground.phase }, { on := 3, ground := Ground.phase }, { on := 4, ground := Ground.phase }, { on := 5, ground := Ground.phase }, { on := 6, ground := Ground.phase }, { on := 7, ground := Ground.textOnly Departure.lateStores }, { on := 8, ground := Ground.phase }, { on := 9, ground := Ground.phase }], guard := none }) (v := (.slice ao3 m3 c3)) rfl (by kernel_rfl) (by kernel_rfl) (by kernel_rfl) (fun _ _ _ h => h) (Or.inl ⟨by rfl, fun w' hS => by (try dsimp only at hS); go_simp⟩) FIN.out.1.box ?_
              simp only [Act.put, List.setIfInBounds_toArray, List.set_cons_zero, List.set_cons_succ]
              refine wpAnyH_take (i := 11) (oi := { dst := some 10, op := Op.assign (Operand.tmp 47), type := 4, pos := _, after := #[{ on := 7, ground := Ground.data }, { on := 10, ground := Ground.chain }, { on := 0, ground := Ground.phase }, { on := 1, ground := Ground.phase }, { on := 2, ground := Ground.phase }, { on := 3, ground := Ground.phase }, { on := 4, ground := Ground.phase }, { on := 5, ground := Ground.phase }, { on := 6, ground := Ground.phase }, { on := 7, ground := Ground.phase }, { on := 8, ground := Ground.phase }, { on := 9, ground := Ground.phase }, { on := 10, ground := Ground.phase }], guard := none }) (v := (.bool r3)) rfl (by kernel_rfl) (by kernel_rfl) (by kernel_rfl) (fun _ _ _ h => h) (Or.inl ⟨by rfl, fun w' hS => by (try dsimp only at hS); go_simp⟩) FIN.out.1.box ?_
              simp only [Act.put, List.setIfInBounds_toArray, List.set_cons_zero, List.set_cons_succ]
              refine wpAnyH_done (by kernel_rfl) ?_ _
              refine NoPanic.normal ?_
              go_wp2_with fail
              go_meet
              exact ⟨_, b3, R3, r3, rfl, rfl, FIN.out⟩
          case rest =>
            clear HO P0 P1 P2
            obtain ⟨zb, b3, R3, r3, rfl, rfl, HG⟩ := hcut
            cases r3
            · have FIN : Hid (WSx Y w wc C (kk + 2 + 2 + 2 + 2) zs) := ⟨_, _, HG.out.1⟩
              have HFN : Hid (WSx Y w _ C (k + 4 + 12 * (9 - (i - 1))) zs) := FIN.out.le (by have := HKK.out; omega)
              clear FIN HG
              go_wp2
              go_roundw
              case rel => exact ⟨i - 1, by omega, by congr 1; omega, HFN.out⟩
              case measure => simp [intOf]; omega
            · go_wp2_with fail
              refine (one_any Y C (kk + 2 + 2 + 2 + 2) 3 _ (by omega) (by omega) HG.out.1.cur).mono ?_
              rintro e w9 ⟨ro, rfl, hc, hm⟩
              replace HG : Hid (Got Y w C (kk + 2 + 2 + 2 + 2 + 2) zs b D w9 zb b3 R3 true) := HG.out.go hC hc hm
              clear hc hm
              cases ro
              · have FIN : Hid (WSx Y w w9 C (kk + 2 + 2 + 2 + 2 + 2) zs) := ⟨_, _, HG.out.1⟩
                have HFN : Hid (WSx Y w _ C (k + 4 + 12 * (9 - (i - 1))) zs) := FIN.out.le (by have := HKK.out; omega)
                clear FIN HG
                go_wp2
                go_roundw
                case rel => exact ⟨i - 1, by omega, by congr 1; omega, HFN.out⟩
                case measure => simp [intOf]; omega
              · obtain ⟨z0, z1, z2⟩ := get3 HG.out.2.1
                obtain ⟨t0, t1, t2⟩ := get3 HG.out.1.box
                have f0 := HG.out.1.box.frozen 0
                have f1 := HG.out.1.box.frozen 1
                have f2 := HG.out.1.box.frozen 2
                have FIN : Hid (WSx Y w (wput w9 zs b3 R3) C (kk + 2 + 2 + 2 + 2 + 2) zs) := ⟨_, _, got_take hC hYw HG.out⟩
                have HFN : Hid (WSx Y w _ C (k + 4 + 12 * (9 - (i - 1))) zs) := FIN.out.le (by have := HKK.out; omega)
                clear FIN HG
                go_wp2
                go_roundw
                case rel => exact ⟨i - 1, by omega, by congr 1; omega, HFN.out⟩
                case measure => simp [intOf]; omega
    · obtain rfl : i = 0 := by omega
      obtain ⟨b, D, hws⟩ := HOW0.out
      go_wp2_with fail
      refine (pick_any Y C (k + 4 + 12 * (9 - 0)) 30 _ (by omega) (by omega) hws.cur).mono ?_
      rintro e w5 ⟨x, rfl, hx30, hc5, hm5⟩
      have HO : Hid (WS Y w w5 C (k + 4 + 12 * (9 - 0) + 2) zs b D) := hws.go hC hc5 hm5
      clear HOW0 hws hc5 hm5
      by_cases x0 : x = 0
      · subst x0
        have HI : Hid (IntsAt (fun b => b = w5.heap.size) (w5.alloc (.cells #[.int .i64 (-1), .int .i64 1000, .int .i64 1001] 3)) (some ⟨w5.heap.size, 0, none⟩) 3 (fun i => [-1, 1000, 1001].getD i 0)) := ints_lit w5 [-1, 1000, 1001] (by simp)
        have HZI : Hid (C < w5.heap.size) := by have h5 := HO.out.mod.size; show _ < _; omega
        replace HO : Hid (WS Y w (w5.alloc (.cells #[.int .i64 (-1), .int .i64 1000, .int .i64 1001] 3)) C (k + 4 + 12 * (9 - 0) + 2) zs b D) := HO.out.blw ((Blw.refl _).alloc _)
        go_wp2_with fail
        refine (among_any Y _ C (k + 4 + 12 * (9 - 0) + 2) _ 3 3 _ _ (by omega) (by omega) HI.out (fun b hb => by have h5 := HZI.out; have h6 : b = w5.heap.size := hb; omega) HO.out.cur).mono ?_
        rintro e w6 ⟨y0, rfl, hc, hm⟩
        replace HO : Hid (WS Y w w6 C (k + 4 + 12 * (9 - 0) + 2 + 2) zs b D) := HO.out.go hC hc hm
        clear hc hm HI HZI
        obtain ⟨p0, p1, p2⟩ := get3 HO.out.box
        have pf := HO.out.box.frozen 0
        have HF : Hid (WF Y w (w6.setCell ⟨zs, 0, none⟩ (.int .i64 y0)) C (k + 4 + 12 * (9 - 0) + 2 + 2) zs b ⟨y0, D.N, D.F⟩) := HO.out.now hC hYw y0
        clear HO
        go_upto_region 16 with fail
        clear p0 p1 p2 pf
        generalize w6.setCell ⟨zs, 0, none⟩ (.int .i64 y0) = w7 at *
        obtain ⟨j0, j1, j2⟩ := get3 HF.out.box
        obtain ⟨t0, t1, t2⟩ := get3 HF.out.out
        have f0 := HF.out.out.frozen 0
        have f1 := HF.out.out.frozen 1
        have f2 := HF.out.out.frozen 2
        have FIN : Hid (Drawn Y w (wput w7 w.heap.size b ⟨y0, D.N, D.F⟩) C (k + 400) b ⟨y0, D.N, D.F⟩) := HF.out.drawn hC hYw (by omega)
        have r9 := wput_row HF.out.out b ⟨y0, D.N, D.F⟩
        obtain ⟨u0, u1, u2⟩ := get3 r9
        clear HF r9
        go_wp2_with fail
        exact bodyPost_ret (v := (b : WV).val ⟨y0, D.N, D.F⟩) (by simp [results, Try.results46, go_sem, t0, t1, t2, WV.val]) rfl ⟨b, ⟨y0, D.N, D.F⟩, rfl, FIN.out⟩
      · have d0 : ((x : Int) == 0) = false := by simp; omega
        by_cases x1 : x = 1
        · subst x1
          have hb5 : Blw w5 w5.drew := (Blw.refl _).drew
          replace HO : Hid (WS Y w w5.drew C (k + 4 + 12 * (9 - 0) + 2) zs b D) := HO.out.blw hb5
          clear hb5
          go_upto_region 15 with fail
          obtain ⟨g1, g2, R, p, nn, cc, hb', hD', hcell, hfr, hne, hlt, a', c', w', hrun, hbx, hc1, hf1, hF⟩ := HO.out.more hC hYw
          have HF : Hid (WF Y w (w'.setCell ⟨g1, 0, none⟩ (.slice a' (nn + 1) c')) C (k + 4 + 12 * (9 - 0) + 2) zs b (wd8 D.now (moreR D.now R))) := hF
          have hbx0 := HO.out.box
          have hba : Blw w5.drew (w5.drew.alloc (.cells #[.int .i64 99, .int .i64 (D.now + 1)] 39)) := (Blw.refl _).alloc _
          have hS1 : Row (w5.drew.alloc (.cells #[.int .i64 99, .int .i64 (D.now + 1)] 39)) zs 3 (wrow b D) ∧ (w5.drew.alloc (.cells #[.int .i64 99, .int .i64 (D.now + 1)] 39)).cell? ⟨g1, 0, none⟩ = some (.slice p nn cc) := ⟨hbx0.blw hba, hba.cell hcell⟩
          have hS3 : Row (w'.setCell ⟨g1, 0, none⟩ (.slice a' (nn + 1) c')) zs 3 (wrow b D) ∧ True := ⟨hbx.mod (Mod.setCell (X := fun b => b = g1) w' (p := ⟨g1, 0, none⟩) rfl (.slice a' (nn + 1) c')) (fun e => hne e.symm), trivial⟩
          have hn0 : 0 ≤ D.now ∧ D.now ≤ 1000 := HO.out.good.now
          have hd8 : D.N.n = 8 := by rw [hD']
          have PL : ∀ w', Row w' zs 3 (wrow b D) → w'.cell? ⟨zs, 0, none⟩ = some (.int .i64 D.now) := fun w' hh => (get3 hh).1
          have PM : ∀ w', Row w' zs 3 (wrow b D) → w'.cell? ⟨zs, 1, none⟩ = some (.slice (some ⟨g1, 0, none⟩) 8 8) := fun w' hh => by have h5 := (get3 hh).2.1; rw [h5, hd8, hb']
          have hcA : (w5.alloc (.cells #[.int .i64 99, .int .i64 (D.now + 1)] 39)).cell? ⟨g1, 0, none⟩ = some (.slice p nn cc) := hS1.2
          obtain ⟨D9, hD9⟩ : ∃ D9, wd8 D.now (moreR D.now R) = D9 := ⟨_, rfl⟩
          rw [hD9] at HF
          have hw99 : IntKind.i64.wrap (D.now + 1) = D.now + 1 := by rw [IntKind.wrap_i64] <;> omega
          clear HO hD' hd8 hba hF hlt hb' hD9
          refine wp_region_noPanic ?_
          refine wp_region_held_drew (S := fun w' => Row w' zs 3 (wrow b D)) (by kernel_rfl) hbx0 (fun hB => ?_)
          clear hB
          refine wpAnyH_take (i := 0) (oi := { dst := some 64, op := Op.fieldAddr 25 (Operand.tmp 3) 1, type := 0, pos := _, after := #[], guard := none }) (v := (.pointer (some ⟨zs, 1, none⟩))) rfl (by kernel_rfl) (by kernel_rfl) (by kernel_rfl) (fun _ _ _ h => h) (Or.inl ⟨by rfl, fun w' hS => by (try dsimp only at hS); go_simp⟩) hbx0 ?_
          simp only [Act.put, List.setIfInBounds_toArray, List.set_cons_zero, List.set_cons_succ]
          refine wpAnyH_take (i := 2) (oi := { dst := some 66, op := Op.fieldAddr 25 (Operand.tmp 3) 1, type := 0, pos := _, after := #[], guard := none }) (v := (.pointer (some ⟨zs, 1, none⟩))) rfl (by kernel_rfl) (by kernel_rfl) (by kernel_rfl) (fun _ _ _ h => h) (Or.inl ⟨by rfl, fun w' hS => by (try dsimp only at hS); go_simp⟩) hbx0 ?_
          simp only [Act.put, List.setIfInBounds_toArray, List.set_cons_zero, List.set_cons_succ]
          refine wpAnyH_take (i := 6) (oi := { dst := some 70, op := Op.fieldAddr 25 (Operand.tmp 3) 0, type := 0, pos := _, after := #[], guard := none }) (v := (.pointer (some ⟨zs, 0, none⟩))) rfl (by kernel_rfl) (by kernel_rfl) (by kernel_rfl) (fun _ _ _ h => h) (Or.inl ⟨by rfl, fun w' hS => by (try dsimp only at hS); go_simp⟩) hbx0 ?_
          simp only [Act.put, List.setIfInBounds_toArray, List.set_cons_zero, List.set_cons_succ]
          refine wpAnyH_take (i := 1) (oi := { dst := some 65, op := Op.load 23 (Operand.tmp 64), type := 23, pos := _, after := #[{ on := 0, ground := Ground.data }], guard := none }) (v := (.slice (some ⟨g1, 0, none⟩) 8 8)) rfl (by kernel_rfl) (by kernel_rfl) (by kernel_rfl) (fun _ _ _ h => h) (Or.inl ⟨by rfl, fun w' hS => by (try dsimp only at hS); go_simp⟩) hbx0 ?_
          simp only [Act.put, List.setIfInBounds_toArray, List.set_cons_zero, List.set_cons_succ]
          refine wpAnyH_take (i := 3) (oi := { dst := some 67, op := Op.load 23 (Operand.tmp 66), type := 23, pos := _, after := #[{ on := 2, ground := Ground.data }], guard := none }) (v := (.slice (some ⟨g1, 0, none⟩) 8 8)) rfl (by kernel_rfl) (by kernel_rfl) (by kernel_rfl) (fun _ _ _ h => h) (Or.inl ⟨by rfl, fun w' hS => by (try dsimp only at hS); go_simp⟩) hbx0 ?_
          simp only [Act.put, List.setIfInBounds_toArray, List.set_cons_zero, List.set_cons_succ]
          refine wpAnyH_take (i := 7) (oi := { dst := some 71, op := Op.load 3 (Operand.tmp 70), type := 3, pos := _, after := #[{ on := 6, ground := Ground.data }], guard := none }) (v := (.int .i64 D.now)) rfl (by kernel_rfl) (by kernel_rfl) (by kernel_rfl) (fun _ _ _ h => h) (Or.inl ⟨by rfl, fun w' hS => by (try dsimp only at hS); go_simp⟩) hbx0 ?_
          simp only [Act.put, List.setIfInBounds_toArray, List.set_cons_zero, List.set_cons_succ]
          refine wpAnyH_take (i := 4) (oi := { dst := some 68, op := Op.indexAddr 23 (Operand.tmp 67) (Operand.const (Value.int IntKind.i64 0)), type := 0, pos := _, after := #[{ on := 3, ground := Ground.data }], guard := none }) (v := (.pointer (some ⟨g1, 0, none⟩))) rfl (by kernel_rfl) (by kernel_rfl) (by kernel_rfl) (fun _ _ _ h => h) (Or.inl ⟨by rfl, fun w' hS => by (try dsimp only at hS); go_simp⟩) hbx0 ?_
          simp only [Act.put, List.setIfInBounds_toArray, List.set_cons_zero, List.set_cons_succ]
          refine wpAnyH_take (i := 8) (oi := { dst := some 72, op := Op.binOp BinOp.add 3 (Operand.tmp 71) (Operand.const (Value.int IntKind.i64 1)) 3, type := 3, pos := _, after := #[{ on := 7, ground := Ground.data }], guard := none }) (v := (.int .i64 (D.now + 1))) rfl (by kernel_rfl) (by kernel_rfl) (by kernel_rfl) (fun _ _ _ h => h) (Or.inl ⟨by rfl, fun w' hS => by (try dsimp only at hS); go_simp⟩) hbx0 ?_
          simp only [Act.put, List.setIfInBounds_toArray, List.set_cons_zero, List.set_cons_succ]
          refine wpAnyH_take (i := 9) (oi := { dst := some 73, op := Op.build 39 #[(0, Operand.const (Value.int IntKind.i64 99)), (1, Operand.tmp 72)], type := 39, pos := _, after := #[{ on := 8, ground := Ground.data }], guard := none }) (v := (.agg #[.int .i64 99, .int .i64 (D.now + 1)])) rfl (by kernel_rfl) (by kernel_rfl) (by kernel_rfl) (fun _ _ _ h => h) (Or.inl ⟨by rfl, fun w' hS => by (try dsimp only at hS); go_simp⟩) hbx0 ?_
          simp only [Act.put, List.setIfInBounds_toArray, List.set_cons_zero, List.set_cons_succ]
          refine wpAnyH_ready (rs := [5, 10]) (by kernel_rfl) (by simp) ?_
          refine AllReadyH.cons (o := { dst := some 69, op := Op.load 31 (Operand.tmp 68), type := 31, pos := _, after := #[{ on := 4, ground := Ground.data }], guard := none }) rfl (fun K hK => ?_) (AllReadyH.cons (o := { dst := some 74, op := Op.buildSlice 31 1 #[(0, Operand.tmp 73)], type := 31, pos := _, after := #[{ on := 9, ground := Ground.data }], guard := none }) rfl (fun K hK => ?_) AllReadyH.nil)
          · go_simp
            refine hK.out _ _ hbx0 (fun hB => ?_)
            clear hK K hB
            try simp only [Act.put, List.setIfInBounds_toArray, List.set_cons_zero, List.set_cons_succ]
            refine wpAnyH_ready (rs := [10]) (by kernel_rfl) (by simp) ?_
            refine AllReadyH.cons (o := { dst := some 74, op := Op.buildSlice 31 1 #[(0, Operand.tmp 73)], type := 31, pos := _, after := #[{ on := 9, ground := Ground.data }], guard := none }) rfl (fun K hK => ?_) AllReadyH.nil
            go_simp
            refine hK.out _ _ hS1.1 (fun hB => ?_)
            clear hK K hB
            try simp only [Act.put, List.setIfInBounds_toArray, List.set_cons_zero, List.set_cons_succ]
            refine wpAnyH_ready (rs := [11]) (by kernel_rfl) (by simp) ?_
            refine AllReadyH.cons (o := { dst := some 75, op := Op.call { callee := Callee.builtin Builtin.append, args := #[Operand.tmp 69, Operand.tmp 74], argTypes := #[31, 31] }, type := 31, pos := _, after := #[{ on := 5, ground := Ground.data }, { on := 10, ground := Ground.data }], guard := none }) rfl (fun K hK => ?_) AllReadyH.nil
            refine step_append_run rfl (.tmp 69) (.tmp 74) 31 rfl _ _ rfl rfl hrun ?_
            refine hK.out _ _ hbx (fun hB => ?_)
            clear hK K hB
            try simp only [Act.put, List.setIfInBounds_toArray, List.set_cons_zero, List.set_cons_succ]
            refine wpAnyH_take (i := 12) (oi := { dst := some 76, op := Op.indexAddr 23 (Operand.tmp 65) (Operand.const (Value.int IntKind.i64 0)), type := 0, pos := _, after := #[{ on := 1, ground := Ground.data }, { on := 0, ground := Ground.phase }, { on := 1, ground := Ground.phase }, { on := 2, ground := Ground.phase }, { on := 3, ground := Ground.phase }, { on := 4, ground := Ground.phase }, { on := 5, ground := Ground.phase }, { on := 6, ground := Ground.phase }, { on := 7, ground := Ground.phase }, { on := 8, ground := Ground.phase }, { on := 9, ground := Ground.phase }, { on := 10, ground := Ground.phase }, { on := 11, ground := Ground.phase }], guard := none }) (v := (.pointer (some ⟨g1, 0, none⟩))) rfl (by kernel_rfl) (by kernel_rfl) (by kernel_rfl) (fun _ _ _ h => h) (Or.inl ⟨by rfl, fun w' hS => by (try dsimp only at hS); go_simp⟩) hbx ?_
            simp only [Act.put, List.setIfInBounds_toArray, List.set_cons_zero, List.set_cons_succ]
            refine wpAnyH_ready (rs := [13]) (by kernel_rfl) (by simp) ?_
            refine AllReadyH.cons (o := { dst := none, op := Op.store 31 (Operand.tmp 76) (Operand.tmp 75), type := 0, pos := _, after := #[{ on := 12, ground := Ground.data }, { on := 11, ground := Ground.data }, { on := 11, ground := Ground.chain }, { on := 0, ground := Ground.phase }, { on := 1, ground := Ground.phase }, { on := 2, ground := Ground.phase }, { on := 3, ground := Ground.phase }, { on := 4, ground := Ground.phase }, { on := 5, ground := Ground.phase }, { on := 6, ground := Ground.phase }, { on := 7, ground := Ground.phase }, { on := 8, ground := Ground.phase }, { on := 9, ground := Ground.phase }, { on := 10, ground := Ground.phase }, { on := 11, ground := Ground.phase }], guard := none }) rfl (fun K hK => ?_) AllReadyH.nil
            go_simp
            refine hK.out _ _ hS3.1 (fun hB => ?_)
            clear hK K hB
            try simp only [Act.put, List.setIfInBounds_toArray, List.set_cons_zero, List.set_cons_succ]
            refine wpAnyH_done (by kernel_rfl) ?_ _
            refine NoPanic.normal ?_
            clear hcell hfr hrun hbx hc1 hf1 hS1 hS3 hcA PL PM hbx0
            generalize w'.setCell ⟨g1, 0, none⟩ (.slice a' (nn + 1) c') = w7 at *
            obtain ⟨j0, j1, j2⟩ := get3 HF.out.box
            obtain ⟨t0, t1, t2⟩ := get3 HF.out.out
            have f0 := HF.out.out.frozen 0
            have f1 := HF.out.out.frozen 1
            have f2 := HF.out.out.frozen 2
            have FIN : Hid (Drawn Y w (wput w7 w.heap.size b D9) C (k + 400) b D9) := HF.out.drawn hC hYw (by omega)
            have r9 := wput_row HF.out.out b D9
            obtain ⟨u0, u1, u2⟩ := get3 r9
            clear HF r9
            go_wp2_with fail
            exact bodyPost_ret (v := (b : WV).val D9) (by simp [results, Try.results46, go_sem, t0, t1, t2, WV.val]) rfl ⟨b, D9, rfl, FIN.out⟩
          · go_simp
            refine hK.out _ _ hS1.1 (fun hB => ?_)
            clear hK K hB
            try simp only [Act.put, List.setIfInBounds_toArray, List.set_cons_zero, List.set_cons_succ]
            refine wpAnyH_ready (rs := [5]) (by kernel_rfl) (by simp) ?_
            refine AllReadyH.cons (o := { dst := some 69, op := Op.load 31 (Operand.tmp 68), type := 31, pos := _, after := #[{ on := 4, ground := Ground.data }], guard := none }) rfl (fun K hK => ?_) AllReadyH.nil
            go_simp
            refine hK.out _ _ hS1.1 (fun hB => ?_)
            clear hK K hB
            try simp only [Act.put, List.setIfInBounds_toArray, List.set_cons_zero, List.set_cons_succ]
            refine wpAnyH_ready (rs := [11]) (by kernel_rfl) (by simp) ?_
            refine AllReadyH.cons (o := { dst := some 75, op := Op.call { callee := Callee.builtin Builtin.append, args := #[Operand.tmp 69, Operand.tmp 74], argTypes := #[31, 31] }, type := 31, pos := _, after := #[{ on := 5, ground := Ground.data }, { on := 10, ground := Ground.data }], guard := none }) rfl (fun K hK => ?_) AllReadyH.nil
            refine step_append_run rfl (.tmp 69) (.tmp 74) 31 rfl _ _ rfl rfl hrun ?_
            refine hK.out _ _ hbx (fun hB => ?_)
            clear hK K hB
            try simp only [Act.put, List.setIfInBounds_toArray, List.set_cons_zero, List.set_cons_succ]
            refine wpAnyH_take (i := 12) (oi := { dst := some 76, op := Op.indexAddr 23 (Operand.tmp 65) (Operand.const (Value.int IntKind.i64 0)), type := 0, pos := _, after := #[{ on := 1, ground := Ground.data }, { on := 0, ground := Ground.phase }, { on := 1, ground := Ground.phase }, { on := 2, ground := Ground.phase }, { on := 3, ground := Ground.phase }, { on := 4, ground := Ground.phase }, { on := 5, ground := Ground.phase }, { on := 6, ground := Ground.phase }, { on := 7, ground := Ground.phase }, { on := 8, ground := Ground.phase }, { on := 9, ground := Ground.phase }, { on := 10, ground := Ground.phase }, { on := 11, ground := Ground.phase }], guard := none }) (v := (.pointer (some ⟨g1, 0, none⟩))) rfl (by kernel_rfl) (by kernel_rfl) (by kernel_rfl) (fun _ _ _ h => h) (Or.inl ⟨by rfl, fun w' hS => by (try dsimp only at hS); go_simp⟩) hbx ?_
            simp only [Act.put, List.setIfInBounds_toArray, List.set_cons_zero, List.set_cons_succ]
            refine wpAnyH_ready (rs := [13]) (by kernel_rfl) (by simp) ?_
            refine AllReadyH.cons (o := { dst := none, op := Op.store 31 (Operand.tmp 76) (Operand.tmp 75), type := 0, pos := _, after := #[{ on := 12, ground := Ground.data }, { on := 11, ground := Ground.data }, { on := 11, ground := Ground.chain }, { on := 0, ground := Ground.phase }, { on := 1, ground := Ground.phase }, { on := 2, ground := Ground.phase }, { on := 3, ground := Ground.phase }, { on := 4, ground := Ground.phase }, { on := 5, ground := Ground.phase }, { on := 6, ground := Ground.phase }, { on := 7, ground := Ground.phase }, { on := 8, ground := Ground.phase }, { on := 9, ground := Ground.phase }, { on := 10, ground := Ground.phase }, { on := 11, ground := Ground.phase }], guard := none }) rfl (fun K hK => ?_) AllReadyH.nil
            go_simp
            refine hK.out _ _ hS3.1 (fun hB => ?_)
            clear hK K hB
            try simp only [Act.put, List.setIfInBounds_toArray, List.set_cons_zero, List.set_cons_succ]
            refine wpAnyH_done (by kernel_rfl) ?_ _
            refine NoPanic.normal ?_
            clear hcell hfr hrun hbx hc1 hf1 hS1 hS3 hcA PL PM hbx0
            generalize w'.setCell ⟨g1, 0, none⟩ (.slice a' (nn + 1) c') = w7 at *
            obtain ⟨j0, j1, j2⟩ := get3 HF.out.box
            obtain ⟨t0, t1, t2⟩ := get3 HF.out.out
            have f0 := HF.out.out.frozen 0
            have f1 := HF.out.out.frozen 1
            have f2 := HF.out.out.frozen 2
            have FIN : Hid (Drawn Y w (wput w7 w.heap.size b D9) C (k + 400) b D9) := HF.out.drawn hC hYw (by omega)
            have r9 := wput_row HF.out.out b D9
            obtain ⟨u0, u1, u2⟩ := get3 r9
            clear HF r9
            go_wp2_with fail
            exact bodyPost_ret (v := (b : WV).val D9) (by simp [results, Try.results46, go_sem, t0, t1, t2, WV.val]) rfl ⟨b, D9, rfl, FIN.out⟩
        · have d1 : ((x : Int) == 1) = false := by simp; omega
          have HF : Hid (WF Y w w5 C (k + 4 + 12 * (9 - 0) + 2) zs b D) := HO.out.fin
          clear HO
          obtain ⟨j0, j1, j2⟩ := get3 HF.out.box
          obtain ⟨t0, t1, t2⟩ := get3 HF.out.out
          have f0 := HF.out.out.frozen 0
          have f1 := HF.out.out.frozen 1
          have f2 := HF.out.out.frozen 2
          have FIN : Hid (Drawn Y w (wput w5 w.heap.size b D) C (k + 400) b D) := HF.out.drawn hC hYw (by omega)
          have r9 := wput_row HF.out.out b D
          obtain ⟨u0, u1, u2⟩ := get3 r9
          clear HF r9
          go_wp2_with fail
          exact bodyPost_ret (v := (b : WV).val D) (by simp [results, Try.results46, go_sem, t0, t1, t2, WV.val]) rfl ⟨b, D, rfl, FIN.out⟩
end Go.Proofs.Ytkmkidahaagbpaa
