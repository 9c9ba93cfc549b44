/- Merged by program, in this order: Gv, Cp, Gt, Gn, Nw, Lx. -/
import Derived.Test.YtneafnfdemodnaaDoorJoin1
/- A turn is given: the program's and the model's. -/
namespace Go.Proofs.YtneafnfdemodnaaDoor
open Go.RowKit
set_option linter.unusedSimpArgs false
set_option linter.unusedVariables false
set_option maxRecDepth 10000 in
set_option maxHeartbeats 1600000 in
theorem l10Next_any (ao : Option Addr) (c n : Nat) (F : Nat → Nat → Int) (Y : Nat → Prop) (w : World) (h : KAt 3 Y w ao n F) :
    Calls Tryd.prog 57 #[.slice ao n c] w fun e w' => e = .returned (.int .i64 (lst F n)) ∧ Blw w w' := by
  have H : Hid (KAt 3 Y w ao n F) := h
  have hnn := h.1
  clear h
  go_enter Tryd.func57, Tryd.ntmps57
  go_wp2_with fail
  go_loopw [3, 8] (fun b i wr => ∃ k : Nat, k ≤ n ∧ b = .int .i64 (lst F k) ∧ i = .int .i64 k ∧ Blw w wr) (fun _ i _ => n - (intOf i).toNat)
  case atStart => exact ⟨0, Nat.zero_le _, rfl, rfl, Blw.refl _⟩
  case round =>
    obtain ⟨k, hk, rfl, rfl, hb⟩ := hrel
    have HB : Hid (Blw w wr) := hb
    clear hb
    by_cases hlt : k < n
    · have hlt' : (k : Int) < n := by omega
      obtain ⟨b, o, rfl, -, g⟩ := (H.out.blw HB.out).2 k hlt
      have g0 := g 0 (by omega)
      have g1 := g 1 (by omega)
      have g2 := g 2 (by omega)
      rw [Nat.add_zero] at g0
      have hm : lst F k < n := Nat.lt_of_le_of_lt (lst_le F k) hlt
      obtain ⟨b', o', eb, -, g'⟩ := (H.out.blw HB.out).2 (lst F k) hm
      have g3 := g' 1 (by omega)
      cases eb
      have hA : Blw wr (wr.alloc (.cells #[.int .i64 (F k 0), .int .i64 (F k 1), .int .i64 (F k 2)] 35)) := (Blw.refl _).alloc _
      have HA : Hid (Blw w (wr.alloc (.cells #[.int .i64 (F k 0), .int .i64 (F k 1), .int .i64 (F k 2)] 35))) := HB.out.trans hA
      have g4 := hA.cell g3
      have r3 := box3 wr (.int .i64 (F k 0)) (.int .i64 (F k 1)) (.int .i64 (F k 2)) 35
      have g5 := (get3 r3).2.1
      clear g g' H HB r3
      by_cases hq : F k 1 < F (lst F k) 1
      · have E : Hid (lst F (k + 1) = k) := by show _ = _; simp only [lst]; rw [if_pos hq]
        have d1 : decide (F k 1 < F (lst F k) 1) = true := by simpa using hq
        clear hq
        generalize lst F k = m at *
        have hl2 : (m : Int) < n := by omega
        go_upto_region 5 with fail
        clear g0 g1 g2 g3 hA
        generalize (wr.alloc (.cells #[.int .i64 (F k 0), .int .i64 (F k 1), .int .i64 (F k 2)] 35)) = w1 at *
        go_wp2
        go_quiet (fail)
        go_wp2
        go_roundw
        case rel => exact ⟨k + 1, by omega, by rw [E.out], by go_num, by first | exact HA.out.drew | exact HA.out | exact HA.out.drewN _⟩
        case measure => simp [intOf]; omega
      · have E : Hid (lst F (k + 1) = lst F k) := by show _ = _; simp only [lst]; rw [if_neg hq]
        have d1 : decide (F k 1 < F (lst F k) 1) = false := by simpa using hq
        clear hq
        generalize hmk : lst F k = m at *
        have HM : Hid (lst F k = m) := hmk
        clear hmk
        have hl2 : (m : Int) < n := by omega
        go_upto_region 5 with fail
        clear g0 g1 g2 g3 hA
        generalize (wr.alloc (.cells #[.int .i64 (F k 0), .int .i64 (F k 1), .int .i64 (F k 2)] 35)) = w1 at *
        go_wp2
        go_quiet (fail)
        go_wp2
        go_roundw
        case rel => exact ⟨k + 1, by omega, by rw [E.out], by go_num, by first | exact HA.out.drew | exact HA.out | exact HA.out.drewN _⟩
        case measure => simp [intOf]; omega
    · obtain rfl : k = n := by omega
      go_wp2
      go_ret
      exact ⟨rfl, HB.out⟩
theorem give_congr {n : Nat} {F : Nat → Nat → Int} {s : Int} (hs : s = 27720 / F (lst F n) 0) (i c : Nat) (hc : c < 3) : updF (updF F (lst F n) 1 (F (lst F n) 1 + s)) (lst F n) 2 (F (lst F n) 2 + 1) i c = giveC n F i c := by
  unfold updF giveC
  subst hs
  by_cases e : i = lst F n
  · subst e
    rcases (show c = 0 ∨ c = 1 ∨ c = 2 by omega) with rfl | rfl | rfl <;> simp
  · simp [e]
set_option maxRecDepth 10000 in
set_option maxHeartbeats 1600000 in
theorem giveTurn_any (ao : Option Addr) (c n : Nat) (F : Nat → Nat → Int) (X : Nat → Prop) (m : Int) (w : World) (hn : 1 ≤ n ∧ n ≤ 6) (hm : m ≤ 200) (hr : Rng n F m) (hT : Tb w) (hX : ∀ x, X x → x < w.heap.size) (h : KOwn 3 X w ao n F) :
    Calls Tryd.prog 45 #[.slice ao n c] w fun e w' => e = .returned (.int .i64 (lst F n)) ∧ KOwn 3 X w' ao n (giveC n F) ∧ Mod X w w' := by
  have H : Hid (KOwn 3 X w ao n F) := h
  have HRG : Hid (Rng n F m) := hr
  have HX : Hid (∀ x, X x → x < w.heap.size) := hX
  have HT : Hid (Tb w) := hT
  clear h hr hX hT
  have hk : lst F n < n := lst_lt F (by omega)
  have HGC : Hid (∀ s : Int, s = 27720 / F (lst F n) 0 → ∀ i c : Nat, c < 3 → updF (updF F (lst F n) 1 (F (lst F n) 1 + s)) (lst F n) 2 (F (lst F n) 2 + 1) i c = giveC n F i c) := fun s hs i c hc => give_congr hs i c hc
  go_enter Tryd.func45, Tryd.ntmps45
  go_wp2_with fail
  refine (nextOf_any ao c n F X _ (by omega) H.out.at).mono ?_
  rintro e w1 ⟨rfl, hb⟩
  generalize hkq : lst F n = k at *
  have HK : Hid (lst F n = k) := hkq
  clear hkq
  have HB : Hid (Blw w w1) := hb
  obtain ⟨b, hx, rfl, r⟩ := (H.out.blw hb).2 (by omega)
  have HXB : Hid (X b) := hx
  have R : Hid (Row w1 b (n * 3) (kc 3 F)) := r
  clear hb hx r H
  have hlt' : (k : Int) < n := by omega
  have t0 := HRG.out.t k hk
  have t1 := HRG.out.p k hk
  have t2 := HRG.out.u k hk
  have t3 := stride_le t0.1
  have e1 : IntKind.i64.wrap (F k 1 + 27720 / F k 0) = F k 1 + 27720 / F k 0 := by rw [IntKind.wrap_i64] <;> omega
  have e2 : IntKind.i64.wrap (F k 2 + 1) = F k 2 + 1 := by rw [IntKind.wrap_i64] <;> omega
  have HTK : Hid (tkOK (F k 0)) := t0
  have hne : ¬ F k 0 = 0 := by omega
  have hq : (27720 : Int).tdiv (F k 0) = 27720 / F k 0 := Int.tdiv_eq_ediv_of_nonneg (by omega)
  have e3 : IntKind.i64.wrap (27720 / F k 0) = 27720 / F k 0 := by rw [IntKind.wrap_i64] <;> omega
  have p0 := k_get R.out hk (c := 0) (by omega)
  have p1 := k_get R.out hk (c := 1) (by omega)
  have p2 := k_get R.out hk (c := 2) (by omega)
  rw [Nat.add_zero] at p0
  have f1 := R.out.frozen (k * 3 + 1)
  have f2 := R.out.frozen (k * 3 + 2)
  have HF : Hid (KOwn 3 X ((w1.setCell ⟨b, k * 3 + 1, none⟩ (.int .i64 (F k 1 + 27720 / F k 0))).setCell ⟨b, k * 3 + 2, none⟩ (.int .i64 (F k 2 + 1))) (some ⟨b, 0, none⟩) n (giveC n F) ∧ Mod X w ((w1.setCell ⟨b, k * 3 + 1, none⟩ (.int .i64 (F k 1 + 27720 / F k 0))).setCell ⟨b, k * 3 + 2, none⟩ (.int .i64 (F k 2 + 1)))) := by
    have hq := setK (setK R.out k (c := 1) (by omega) (F k 1 + 27720 / F k 0)) k (c := 2) (by omega) (F k 2 + 1)
    refine ⟨⟨by omega, fun _ => ⟨b, HXB.out, rfl, hq.congr (fun j hj => ?_)⟩⟩, ((HB.out.mod X).trans (Mod.setCell _ (p := ⟨b, k * 3 + 1, none⟩) HXB.out _)).trans (Mod.setCell _ (p := ⟨b, k * 3 + 2, none⟩) HXB.out _)⟩
    unfold kc
    rw [HGC.out _ rfl _ _ (Nat.mod_lt _ (by omega))]
  have HT9 : Hid (Tb w1) := HT.out.blw HB.out
  clear t0 t1 t2 t3 HRG HGC HB
  go_wp2_with fail
  refine (implStride_any (F k 0) w1 HT9.out).mono ?_
  rintro e w2 ⟨s, r, rfl, ho, rfl⟩
  obtain ⟨rfl, rfl⟩ := soOut_ok ho HTK.out
  clear ho HTK
  go_wp2
  go_ret
  exact ⟨by first | (rw [HK.out]; done) | (rw [HK.out]; rfl), HF.out.1, HF.out.2⟩
set_option maxRecDepth 10000 in
set_option maxHeartbeats 1600000 in
theorem l10Give_any (ao : Option Addr) (c n : Nat) (F : Nat → Nat → Int) (X : Nat → Prop) (m : Int) (w : World) (hn : 1 ≤ n ∧ n ≤ 6) (hm : m ≤ 200) (hr : Rng n F m) (hX : ∀ x, X x → x < w.heap.size) (h : KOwn 3 X w ao n F) :
    Calls Tryd.prog 54 #[.slice ao n c] w fun e w' => e = .returned (.int .i64 (lst F n)) ∧ KOwn 3 X w' ao n (giveC n F) ∧ Mod X w w' := by
  have H : Hid (KOwn 3 X w ao n F) := h
  have HRG : Hid (Rng n F m) := hr
  have HX : Hid (∀ x, X x → x < w.heap.size) := hX

  clear h hr hX
  have hk : lst F n < n := lst_lt F (by omega)
  have HGC : Hid (∀ s : Int, s = 27720 / F (lst F n) 0 → ∀ i c : Nat, c < 3 → updF (updF F (lst F n) 1 (F (lst F n) 1 + s)) (lst F n) 2 (F (lst F n) 2 + 1) i c = giveC n F i c) := fun s hs i c hc => give_congr hs i c hc
  go_enter Tryd.func54, Tryd.ntmps54
  go_wp2_with fail
  refine (l10Next_any ao c n F X _ H.out.at).mono ?_
  rintro e w1 ⟨rfl, hb⟩
  generalize hkq : lst F n = k at *
  have HK : Hid (lst F n = k) := hkq
  clear hkq
  have HB : Hid (Blw w w1) := hb
  obtain ⟨b, hx, rfl, r⟩ := (H.out.blw hb).2 (by omega)
  have HXB : Hid (X b) := hx
  have R : Hid (Row w1 b (n * 3) (kc 3 F)) := r
  clear hb hx r H
  replace R : Hid (Row w1.drew b (n * 3) (kc 3 F)) := R.out.blw (Blw.refl _).drew
  replace HB : Hid (Blw w w1.drew) := HB.out.drew
  have hlt' : (k : Int) < n := by omega
  go_upto_region 2 with fail
  have t0 := HRG.out.t k hk
  have t1 := HRG.out.p k hk
  have t2 := HRG.out.u k hk
  have t3 := stride_le t0.1
  have e1 : IntKind.i64.wrap (F k 1 + 27720 / F k 0) = F k 1 + 27720 / F k 0 := by rw [IntKind.wrap_i64] <;> omega
  have e2 : IntKind.i64.wrap (F k 2 + 1) = F k 2 + 1 := by rw [IntKind.wrap_i64] <;> omega
  have HTK : Hid (tkOK (F k 0)) := t0
  have hne : ¬ F k 0 = 0 := by omega
  have hq : (27720 : Int).tdiv (F k 0) = 27720 / F k 0 := Int.tdiv_eq_ediv_of_nonneg (by omega)
  have e3 : IntKind.i64.wrap (27720 / F k 0) = 27720 / F k 0 := by rw [IntKind.wrap_i64] <;> omega
  have p0 := k_get R.out hk (c := 0) (by omega)
  have p1 := k_get R.out hk (c := 1) (by omega)
  have p2 := k_get R.out hk (c := 2) (by omega)
  rw [Nat.add_zero] at p0
  have f1 := R.out.frozen (k * 3 + 1)
  have f2 := R.out.frozen (k * 3 + 2)
  have HF : Hid (KOwn 3 X ((w1.drew.setCell ⟨b, k * 3 + 1, none⟩ (.int .i64 (F k 1 + 27720 / F k 0))).setCell ⟨b, k * 3 + 2, none⟩ (.int .i64 (F k 2 + 1))) (some ⟨b, 0, none⟩) n (giveC n F) ∧ Mod X w ((w1.drew.setCell ⟨b, k * 3 + 1, none⟩ (.int .i64 (F k 1 + 27720 / F k 0))).setCell ⟨b, k * 3 + 2, none⟩ (.int .i64 (F k 2 + 1)))) := by
    have hq := setK (setK R.out k (c := 1) (by omega) (F k 1 + 27720 / F k 0)) k (c := 2) (by omega) (F k 2 + 1)
    refine ⟨⟨by omega, fun _ => ⟨b, HXB.out, rfl, hq.congr (fun j hj => ?_)⟩⟩, ((HB.out.mod X).trans (Mod.setCell _ (p := ⟨b, k * 3 + 1, none⟩) HXB.out _)).trans (Mod.setCell _ (p := ⟨b, k * 3 + 2, none⟩) HXB.out _)⟩
    unfold kc
    rw [HGC.out _ rfl _ _ (Nat.mod_lt _ (by omega))]
  clear t0 t1 t2 t3 HRG HGC HB
  refine wp_region_noPanic ?_
  refine wp_region_held_drew (S := fun _ => True) (by kernel_rfl) trivial (fun hB => ?_)
  clear hB
  generalize w1.drew = wd at *
  refine wpAnyH_take (i := 0) (oi := { dst := some 6, op := Op.move (Operand.tmp 0), type := 25, pos := _, after := #[], guard := none }) (v := (.slice (some ⟨b, 0, none⟩) n c)) rfl (by kernel_rfl) (by kernel_rfl) (by kernel_rfl) (fun _ _ _ h => h) (Or.inl ⟨by rfl, fun w' hS => by (try dsimp only at hS); go_simp⟩) trivial ?_
  simp only [Act.put, List.setIfInBounds_toArray, List.set_cons_zero, List.set_cons_succ]
  refine wpAnyH_take (i := 1) (oi := { dst := some 7, op := Op.move (Operand.tmp 3), type := 3, pos := _, after := #[], guard := none }) (v := (.int .i64 (k : Int))) rfl (by kernel_rfl) (by kernel_rfl) (by kernel_rfl) (fun _ _ _ h => h) (Or.inl ⟨by rfl, fun w' hS => by (try dsimp only at hS); go_simp⟩) trivial ?_
  simp only [Act.put, List.setIfInBounds_toArray, List.set_cons_zero, List.set_cons_succ]
  refine wpAnyH_take (i := 5) (oi := { dst := some 11, op := Op.move (Operand.tmp 0), type := 25, pos := _, after := #[], guard := none }) (v := (.slice (some ⟨b, 0, none⟩) n c)) rfl (by kernel_rfl) (by kernel_rfl) (by kernel_rfl) (fun _ _ _ h => h) (Or.inl ⟨by rfl, fun w' hS => by (try dsimp only at hS); go_simp⟩) trivial ?_
  simp only [Act.put, List.setIfInBounds_toArray, List.set_cons_zero, List.set_cons_succ]
  refine wpAnyH_take (i := 6) (oi := { dst := some 12, op := Op.move (Operand.tmp 3), type := 3, pos := _, after := #[], guard := none }) (v := (.int .i64 (k : Int))) rfl (by kernel_rfl) (by kernel_rfl) (by kernel_rfl) (fun _ _ _ h => h) (Or.inl ⟨by rfl, fun w' hS => by (try dsimp only at hS); go_simp⟩) trivial ?_
  simp only [Act.put, List.setIfInBounds_toArray, List.set_cons_zero, List.set_cons_succ]
  refine wpAnyH_take (i := 2) (oi := { dst := some 8, op := Op.indexAddr 25 (Operand.tmp 6) (Operand.tmp 7), type := 0, pos := _, after := #[{ on := 0, ground := Ground.data }, { on := 1, ground := Ground.data }], guard := none }) (v := (.pointer (some ⟨b, k * 3, none⟩))) rfl (by kernel_rfl) (by kernel_rfl) (by kernel_rfl) (fun _ _ _ h => h) (Or.inl ⟨by rfl, fun w' hS => by (try dsimp only at hS); go_simp⟩) trivial ?_
  simp only [Act.put, List.setIfInBounds_toArray, List.set_cons_zero, List.set_cons_succ]
  refine wpAnyH_take (i := 7) (oi := { dst := some 13, op := Op.indexAddr 25 (Operand.tmp 11) (Operand.tmp 12), type := 0, pos := _, after := #[{ on := 5, ground := Ground.data }, { on := 6, ground := Ground.data }], guard := none }) (v := (.pointer (some ⟨b, k * 3, none⟩))) rfl (by kernel_rfl) (by kernel_rfl) (by kernel_rfl) (fun _ _ _ h => h) (Or.inl ⟨by rfl, fun w' hS => by (try dsimp only at hS); go_simp⟩) trivial ?_
  simp only [Act.put, List.setIfInBounds_toArray, List.set_cons_zero, List.set_cons_succ]
  refine wpAnyH_take (i := 3) (oi := { dst := some 9, op := Op.fieldAddr 35 (Operand.tmp 8) 1, type := 0, pos := _, after := #[{ on := 2, ground := Ground.data }], guard := none }) (v := (.pointer (some ⟨b, k * 3 + 1, none⟩))) rfl (by kernel_rfl) (by kernel_rfl) (by kernel_rfl) (fun _ _ _ h => h) (Or.inl ⟨by rfl, fun w' hS => by (try dsimp only at hS); go_simp⟩) trivial ?_
  simp only [Act.put, List.setIfInBounds_toArray, List.set_cons_zero, List.set_cons_succ]
  refine wpAnyH_take (i := 8) (oi := { dst := some 14, op := Op.fieldAddr 35 (Operand.tmp 13) 0, type := 0, pos := _, after := #[{ on := 7, ground := Ground.data }], guard := none }) (v := (.pointer (some ⟨b, k * 3, none⟩))) rfl (by kernel_rfl) (by kernel_rfl) (by kernel_rfl) (fun _ _ _ h => h) (Or.inl ⟨by rfl, fun w' hS => by (try dsimp only at hS); go_simp⟩) trivial ?_
  simp only [Act.put, List.setIfInBounds_toArray, List.set_cons_zero, List.set_cons_succ]
  refine wpAnyH_ready (rs := [4, 9]) (by kernel_rfl) (by simp) ?_
  refine AllReadyH.cons (o := { dst := some 10, op := Op.load 3 (Operand.tmp 9), type := 3, pos := _, after := #[{ on := 3, ground := Ground.data }], guard := none }) rfl (fun K hK => ?_) (AllReadyH.cons (o := { dst := some 15, op := Op.load 3 (Operand.tmp 14), type := 3, pos := _, after := #[{ on := 8, ground := Ground.data }], guard := none }) rfl (fun K hK => ?_) AllReadyH.nil)
  · go_simp
    refine hK.out _ _ trivial (fun hB => ?_)
    clear hK K hB
    try simp only [Act.put, List.setIfInBounds_toArray, List.set_cons_zero, List.set_cons_succ]
    refine wpAnyH_ready (rs := [9]) (by kernel_rfl) (by simp) ?_
    refine AllReadyH.cons (o := { dst := some 15, op := Op.load 3 (Operand.tmp 14), type := 3, pos := _, after := #[{ on := 8, ground := Ground.data }], guard := none }) rfl (fun K hK => ?_) AllReadyH.nil
    go_simp
    refine hK.out _ _ trivial (fun hB => ?_)
    clear hK K hB
    try simp only [Act.put, List.setIfInBounds_toArray, List.set_cons_zero, List.set_cons_succ]
    refine wpAnyH_take (i := 10) (oi := { dst := some 16, op := Op.binOp BinOp.quo 3 (Operand.const (Value.int IntKind.i64 27720)) (Operand.tmp 15) 3, type := 3, pos := _, after := #[{ on := 9, ground := Ground.data }], guard := none }) (v := (.int .i64 (27720 / F k 0))) rfl (by kernel_rfl) (by kernel_rfl) (by kernel_rfl) (fun _ _ _ h => h) (Or.inl ⟨by rfl, fun w' hS => by (try dsimp only at hS); go_simp⟩) trivial ?_
    simp only [Act.put, List.setIfInBounds_toArray, List.set_cons_zero, List.set_cons_succ]
    refine wpAnyH_take (i := 11) (oi := { dst := some 17, op := Op.binOp BinOp.add 3 (Operand.tmp 10) (Operand.tmp 16) 3, type := 3, pos := _, after := #[{ on := 4, ground := Ground.data }, { on := 10, ground := Ground.data }], guard := none }) (v := (.int .i64 (F k 1 + 27720 / F k 0))) rfl (by kernel_rfl) (by kernel_rfl) (by kernel_rfl) (fun _ _ _ h => h) (Or.inl ⟨by rfl, fun w' hS => by (try dsimp only at hS); go_simp⟩) trivial ?_
    simp only [Act.put, List.setIfInBounds_toArray, List.set_cons_zero, List.set_cons_succ]
    refine wpAnyH_take (i := 12) (oi := { dst := some 18, op := Op.indexAddr 25 (Operand.tmp 6) (Operand.tmp 7), type := 0, pos := _, after := #[{ on := 0, ground := Ground.data }, { on := 1, ground := Ground.data }, { on := 0, ground := Ground.phase }, { on := 1, ground := Ground.phase }, { on := 2, ground := Ground.phase }, { on := 3, ground := Ground.phase }, { on := 4, ground := Ground.phase }, { on := 5, ground := Ground.phase }, { on := 6, ground := Ground.phase }, { on := 7, ground := Ground.phase }, { on := 8, ground := Ground.phase }, { on := 9, ground := Ground.phase }, { on := 10, ground := Ground.phase }, { on := 11, ground := Ground.phase }], guard := none }) (v := (.pointer (some ⟨b, k * 3, none⟩))) rfl (by kernel_rfl) (by kernel_rfl) (by kernel_rfl) (fun _ _ _ h => h) (Or.inl ⟨by rfl, fun w' hS => by (try dsimp only at hS); go_simp⟩) trivial ?_
    simp only [Act.put, List.setIfInBounds_toArray, List.set_cons_zero, List.set_cons_succ]
    refine wpAnyH_take (i := 13) (oi := { dst := some 19, op := Op.fieldAddr 35 (Operand.tmp 18) 1, type := 0, pos := _, after := #[{ on := 12, ground := Ground.data }, { on := 0, ground := Ground.phase }, { on := 1, ground := Ground.phase }, { on := 2, ground := Ground.phase }, { on := 3, ground := Ground.phase }, { on := 4, ground := Ground.phase }, { on := 5, ground := Ground.phase }, { on := 6, ground := Ground.phase }, { on := 7, ground := Ground.phase }, { on := 8, ground := Ground.phase }, { on := 9, ground := Ground.phase }, { on := 10, ground := Ground.phase }, { on := 11, ground := Ground.phase }], guard := none }) (v := (.pointer (some ⟨b, k * 3 + 1, none⟩))) rfl (by kernel_rfl) (by kernel_rfl) (by kernel_rfl) (fun _ _ _ h => h) (Or.inl ⟨by rfl, fun w' hS => by (try dsimp only at hS); go_simp⟩) trivial ?_
    simp only [Act.put, List.setIfInBounds_toArray, List.set_cons_zero, List.set_cons_succ]
    refine wpAnyH_ready (rs := [14]) (by kernel_rfl) (by simp) ?_
    refine AllReadyH.cons (o := { dst := none, op := Op.store 3 (Operand.tmp 19) (Operand.tmp 17), type := 0, pos := _, after := #[{ on := 13, ground := Ground.data }, { on := 11, ground := Ground.data }, { on := 0, ground := Ground.phase }, { on := 1, ground := Ground.phase }, { on := 2, ground := Ground.phase }, { on := 3, ground := Ground.phase }, { on := 4, ground := Ground.phase }, { on := 5, ground := Ground.phase }, { on := 6, ground := Ground.phase }, { on := 7, ground := Ground.phase }, { on := 8, ground := Ground.phase }, { on := 9, ground := Ground.phase }, { on := 10, ground := Ground.phase }, { on := 11, ground := Ground.phase }], guard := none }) rfl (fun K hK => ?_) AllReadyH.nil
    go_simp
    refine hK.out _ _ trivial (fun hB => ?_)
    clear hK K hB
    try simp only [Act.put, List.setIfInBounds_toArray, List.set_cons_zero, List.set_cons_succ]
    clear p0 p1 f1 e1
    refine wpAnyH_done (by kernel_rfl) ?_ _
    refine NoPanic.normal ?_
    go_wp2
    go_ret
    exact ⟨by first | (rw [HK.out]; done) | (rw [HK.out]; rfl), HF.out.1, HF.out.2⟩
  · go_simp
    refine hK.out _ _ trivial (fun hB => ?_)
    clear hK K hB
    try simp only [Act.put, List.setIfInBounds_toArray, List.set_cons_zero, List.set_cons_succ]
    refine wpAnyH_take (i := 10) (oi := { dst := some 16, op := Op.binOp BinOp.quo 3 (Operand.const (Value.int IntKind.i64 27720)) (Operand.tmp 15) 3, type := 3, pos := _, after := #[{ on := 9, ground := Ground.data }], guard := none }) (v := (.int .i64 (27720 / F k 0))) rfl (by kernel_rfl) (by kernel_rfl) (by kernel_rfl) (fun _ _ _ h => h) (Or.inl ⟨by rfl, fun w' hS => by (try dsimp only at hS); go_simp⟩) trivial ?_
    simp only [Act.put, List.setIfInBounds_toArray, List.set_cons_zero, List.set_cons_succ]
    refine wpAnyH_ready (rs := [4]) (by kernel_rfl) (by simp) ?_
    refine AllReadyH.cons (o := { dst := some 10, op := Op.load 3 (Operand.tmp 9), type := 3, pos := _, after := #[{ on := 3, ground := Ground.data }], guard := none }) rfl (fun K hK => ?_) AllReadyH.nil
    go_simp
    refine hK.out _ _ trivial (fun hB => ?_)
    clear hK K hB
    try simp only [Act.put, List.setIfInBounds_toArray, List.set_cons_zero, List.set_cons_succ]
    refine wpAnyH_take (i := 11) (oi := { dst := some 17, op := Op.binOp BinOp.add 3 (Operand.tmp 10) (Operand.tmp 16) 3, type := 3, pos := _, after := #[{ on := 4, ground := Ground.data }, { on := 10, ground := Ground.data }], guard := none }) (v := (.int .i64 (F k 1 + 27720 / F k 0))) rfl (by kernel_rfl) (by kernel_rfl) (by kernel_rfl) (fun _ _ _ h => h) (Or.inl ⟨by rfl, fun w' hS => by (try dsimp only at hS); go_simp⟩) trivial ?_
    simp only [Act.put, List.setIfInBounds_toArray, List.set_cons_zero, List.set_cons_succ]
    refine wpAnyH_take (i := 12) (oi := { dst := some 18, op := Op.indexAddr 25 (Operand.tmp 6) (Operand.tmp 7), type := 0, pos := _, after := #[{ on := 0, ground := Ground.data }, { on := 1, ground := Ground.data }, { on := 0, ground := Ground.phase }, { on := 1, ground := Ground.phase }, { on := 2, ground := Ground.phase }, { on := 3, ground := Ground.phase }, { on := 4, ground := Ground.phase }, { on := 5, ground := Ground.phase }, { on := 6, ground := Ground.phase }, { on := 7, ground := Ground.phase }, { on := 8, ground := Ground.phase }, { on := 9, ground := Ground.phase }, { on := 10, ground := Ground.phase }, { on := 11, ground := Ground.phase }], guard := none }) (v := (.pointer (some ⟨b, k * 3, none⟩))) rfl (by kernel_rfl) (by kernel_rfl) (by kernel_rfl) (fun _ _ _ h => h) (Or.inl ⟨by rfl, fun w' hS => by (try dsimp only at hS); go_simp⟩) trivial ?_
    simp only [Act.put, List.setIfInBounds_toArray, List.set_cons_zero, List.set_cons_succ]
    refine wpAnyH_take (i := 13) (oi := { dst := some 19, op := Op.fieldAddr 35 (Operand.tmp 18) 1, type := 0, pos := _, after := #[{ on := 12, ground := Ground.data }, { on := 0, ground := Ground.phase }, { on := 1, ground := Ground.phase }, { on := 2, ground := Ground.phase }, { on := 3, ground := Ground.phase }, { on := 4, ground := Ground.phase }, { on := 5, ground := Ground.phase }, { on := 6, ground := Ground.phase }, { on := 7, ground := Ground.phase }, { on := 8, ground := Ground.phase }, { on := 9, ground := Ground.phase }, { on := 10, ground := Ground.phase }, { on := 11, ground := Ground.phase }], guard := none }) (v := (.pointer (some ⟨b, k * 3 + 1, none⟩))) rfl (by kernel_rfl) (by kernel_rfl) (by kernel_rfl) (fun _ _ _ h => h) (Or.inl ⟨by rfl, fun w' hS => by (try dsimp only at hS); go_simp⟩) trivial ?_
    simp only [Act.put, List.setIfInBounds_toArray, List.set_cons_zero, List.set_cons_succ]
    refine wpAnyH_ready (rs := [14]) (by kernel_rfl) (by simp) ?_
    refine AllReadyH.cons (o := { dst := none, op := Op.store 3 (Operand.tmp 19) (Operand.tmp 17), type := 0, pos := _, after := #[{ on := 13, ground := Ground.data }, { on := 11, ground := Ground.data }, { on := 0, ground := Ground.phase }, { on := 1, ground := Ground.phase }, { on := 2, ground := Ground.phase }, { on := 3, ground := Ground.phase }, { on := 4, ground := Ground.phase }, { on := 5, ground := Ground.phase }, { on := 6, ground := Ground.phase }, { on := 7, ground := Ground.phase }, { on := 8, ground := Ground.phase }, { on := 9, ground := Ground.phase }, { on := 10, ground := Ground.phase }, { on := 11, ground := Ground.phase }], guard := none }) rfl (fun K hK => ?_) AllReadyH.nil
    go_simp
    refine hK.out _ _ trivial (fun hB => ?_)
    clear hK K hB
    try simp only [Act.put, List.setIfInBounds_toArray, List.set_cons_zero, List.set_cons_succ]
    clear p0 p1 f1 e1
    refine wpAnyH_done (by kernel_rfl) ?_ _
    refine NoPanic.normal ?_
    go_wp2
    go_ret
    exact ⟨by first | (rw [HK.out]; done) | (rw [HK.out]; rfl), HF.out.1, HF.out.2⟩
end Go.Proofs.YtneafnfdemodnaaDoor
/- Lists of clients that grow; a copy of a list. -/
namespace Go.Proofs.YtneafnfdemodnaaDoor
open Go.RowKit
set_option linter.unusedSimpArgs false
set_option linter.unusedVariables false
def BufC (X : Nat → Prop) (w : World) (v : Value) (n : Nat) (F : Nat → Nat → Int) : Prop := Buf 35 3 X w v n (kc 3 F)
def catC (k : Nat) (F G : Nat → Nat → Int) : Nat → Nat → Int := fun i c => if i < k then F i c else G (i - k) c
theorem cat_kc (K k : Nat) (hK : 0 < K) (F G : Nat → Nat → Int) (j : Nat) : cat (k * K) (kc K F) (kc K G) j = kc K (catC k F G) j := by
  unfold cat kc catC
  by_cases h : j < k * K
  · rw [if_pos h, if_pos (Nat.div_lt_of_lt_mul (by rw [Nat.mul_comm]; exact h))]
  · have h1 : ¬ j / K < k := fun q => h (by have := Nat.lt_mul_of_div_lt q hK; rw [Nat.mul_comm]; rw [Nat.mul_comm] at this; exact Nat.mul_comm K k ▸ this)
    rw [if_neg h, if_neg h1]
    obtain ⟨q, rfl⟩ : ∃ q, j = k * K + q := ⟨j - k * K, by omega⟩
    rw [Nat.add_sub_cancel_left, Nat.mul_comm k K, Nat.mul_add_div hK, Nat.mul_add_mod, Nat.add_sub_cancel_left]
theorem BufC.own {X : Nat → Prop} {w : World} {v : Value} {n : Nat} {F : Nat → Nat → Int} (h : BufC X w v n F) (hn : n ≤ 9223372036854775807) : ∃ ao cap, v = .slice ao n cap ∧ KOwn 3 X w ao n F := by
  obtain ⟨ao, cap, e, h1⟩ := Buf.form h
  exact ⟨ao, cap, e, hn, h1⟩
theorem Buf.client {w : World} (x0 x1 x2 : Int) : KOwn 3 (fun b => b = w.heap.size) (w.alloc (.cells #[.int .i64 x0, .int .i64 x1, .int .i64 x2] 35)) (some ⟨w.heap.size, 0, none⟩) 1 (fun _ c => if c = 0 then x0 else if c = 1 then x1 else x2) :=
  ⟨by omega, fun _ => ⟨w.heap.size, rfl, rfl, _, 35, heap_alloc_new _ _, by simp, fun i hi => by
    match i, hi with
    | 0, _ => rfl
    | 1, _ => rfl
    | 2, _ => rfl⟩⟩
theorem BufC.append {X Y : Nat → Prop} {w : World} {v : Value} {n : Nat} {F : Nat → Nat → Int} (h : BufC X w v n F) {ao : Option Addr} {m : Nat} (c : Nat) {G : Nat → Nat → Int} (hs : KAt 3 Y w ao m G) (hb : n + m ≤ 2097152) (ty : TypeId) :
    ∃ ao' cap w', (Builtin.append_ #[25, 25] ty #[v, .slice ao m c]).run Tryd.prog w = .ok (.slice ao' (n + m) cap) w' ∧ BufC (fun b => (X b ∨ b = w.heap.size) ∧ b < w'.heap.size) w' (.slice ao' (n + m) cap) (n + m) (catC n F G) ∧ Mod (fun b => v.ownBlock = some b) w w' := by
  obtain ⟨i0, hi, hz0, hz1, hz2⟩ := info_parts infoCli
  obtain ⟨a', c', w', hrun, hB, hM⟩ := Buf.append (t := 25) Tryd.underlying25 hi hz0 hz1 hz2 (by rfl) (by omega) h (ao := ao) (m := m) c (G := kc 3 G) (fun e => by
      rcases Nat.eq_zero_or_pos m with h0 | h0
      · exact h0
      · obtain ⟨b, o, e2, -⟩ := hs.2 0 h0
        rw [e] at e2; cases e2) (fun ad e j hj => by
      obtain ⟨b, o, e2, -, h4⟩ := hs.2 (j / 3) (by omega)
      rw [e] at e2
      cases e2
      rw [Addr.add_mid]
      have h5 := h4 (j % 3) (Nat.mod_lt _ (by omega))
      have e6 : o + j / 3 * 3 + j % 3 = o + j := by omega
      rw [e6] at h5
      exact h5) (fun j => rfl) hb (by omega) ty
  exact ⟨a', c', w', hrun, Buf.congr hB (fun i _ => cat_kc 3 n (by omega) F _ i), hM⟩
theorem BufC.push {X : Nat → Prop} {w : World} {v : Value} {n : Nat} {F : Nat → Nat → Int} (h : BufC X w v n F) (hn : n ≤ 1048576) (a b c : Int) :
    ∃ ao cap w', (Builtin.append_ #[25, 25] 25 #[v, .slice (some ⟨w.heap.size, 0, none⟩) 1 1]).run Tryd.prog (w.alloc (.cells #[.int .i64 a, .int .i64 b, .int .i64 c] 35)) = .ok (.slice ao (n + 1) cap) w' ∧ BufC (fun x => (X x ∨ w.heap.size ≤ x) ∧ x < w'.heap.size) w' (.slice ao (n + 1) cap) (n + 1) (catC n F (fun _ c_ => if c_ = 0 then a else if c_ = 1 then b else c)) ∧ Mod (fun b => v.ownBlock = some b) w w' := by
  have hb : Blw w (w.alloc (.cells #[.int .i64 a, .int .i64 b, .int .i64 c] 35)) := (Blw.refl _).alloc _
  obtain ⟨a', c', w', hrun, hB, hM⟩ := BufC.append (Buf.blw h hb) 1 (Buf.client (w := w) a b c).at (by omega) 25
  refine ⟨a', c', w', hrun, Buf.mono hB (fun b hb => ⟨?_, hb.2⟩), (hb.mod _).trans hM⟩
  rcases hb.1 with h1 | h1
  · exact Or.inl h1
  · rw [World.size_alloc] at h1; exact Or.inr (by omega)
theorem BufI.push {X : Nat → Prop} {w : World} {v : Value} {n : Nat} {f : Nat → Int} (h : BufI X w v n f) (hn : n ≤ 1048576) (a : Int) :
    ∃ ao cap w', (Builtin.append_ #[23, 23] 23 #[v, .slice (some ⟨w.heap.size, 0, none⟩) 1 1]).run Tryd.prog (w.alloc (.cells #[.int .i64 a] 3)) = .ok (.slice ao (n + 1) cap) w' ∧ BufI (fun x => (X x ∨ w.heap.size ≤ x) ∧ x < w'.heap.size) w' (.slice ao (n + 1) cap) (n + 1) (icat n f (fun _ => a)) ∧ Mod (fun b => v.ownBlock = some b) w w' := by
  have hb : Blw w (w.alloc (.cells #[.int .i64 a] 3)) := (Blw.refl _).alloc _
  obtain ⟨a', c', w', hrun, hB, hM⟩ := BufI.append (Buf.blw h hb) 1 (one_ints w a) (by omega) 23
  refine ⟨a', c', w', hrun, Buf.mono hB (fun b hb => ⟨?_, hb.2⟩), (hb.mod _).trans hM⟩
  rcases hb.1 with h1 | h1
  · exact Or.inl h1
  · rw [World.size_alloc] at h1; exact Or.inr (by omega)
theorem copyC {Y : Nat → Prop} {W : World} {ao : Option Addr} {n : Nat} {F : Nat → Nat → Int} (h : KAt 3 Y W ao n F) (hn : n ≤ 1048576) (c : Nat) :
    ∃ ao' cap w', (Builtin.append_ #[25, 25] 25 #[.slice (some ⟨W.heap.size, 0, none⟩) 0 0, .slice ao n c]).run Tryd.prog (W.alloc (.cells #[] 35)) = .ok (.slice ao' n cap) w' ∧ KOwn 3 (fun b => W.heap.size ≤ b ∧ b < w'.heap.size) w' ao' n F ∧ Blw W w' := by
  have hb : BufC (fun b => b = W.heap.size) (W.alloc (.cells #[] 35)) (.slice (some ⟨W.heap.size, 0, none⟩) 0 0) 0 (fun _ _ => 0) := Buf.lit (X := fun b => b = W.heap.size) (heap_alloc_new W _) 3 rfl _
  obtain ⟨a, cap, w', h1, h2, h3⟩ := BufC.append hb c (h.blw ((Blw.refl _).alloc _)) (by omega) 25
  rw [Nat.zero_add] at h1 h2
  obtain ⟨a2, c2, e2, h4⟩ := h2.own (by omega)
  cases e2
  refine ⟨a, cap, w', h1, (h4.mono (fun b hb => ?_)).congr (by omega) (fun i c hi hc => by simp [catC]), Mod.blw ((Blw.refl _).alloc _) h3 (fun i hi => ?_)⟩
  · simp at hb
    omega
  · simp [Value.ownBlock] at hi
    omega
theorem eqnilIn (d t e b o n c : Nat) (ht : Tryd.prog.underlying t = some (.slice e)) (w : World) : (Op.equalIn (d + 1) t (.slice (some ⟨b, o, none⟩) n c) (.slice none 0 0)).run Tryd.prog w = .ok false w := by
  simp [Op.equalIn, run_underlying ht]
theorem eqnil (t e b o n c : Nat) (ht : Tryd.prog.underlying t = some (.slice e)) (w : World) : (binOp .eql t (.slice (some ⟨b, o, none⟩) n c) (.slice none 0 0)).run Tryd.prog w = .ok (.bool false) w := by
  have h1 : (Op.equal t (.slice (some ⟨b, o, none⟩) n c) (.slice none 0 0)).run Tryd.prog w = .ok false w := by
    exact eqnilIn 9999 t e b o n c ht w
  simp only [binOp]
  simp [h1]
set_option maxRecDepth 10000 in
set_option maxHeartbeats 1600000 in
theorem clone_any (ao : Option Addr) (c n : Nat) (F : Nat → Nat → Int) (Y : Nat → Prop) (w : World) (hn : 1 ≤ n ∧ n ≤ 1048576) (h : KAt 3 Y w ao n F) :
    Calls Tryd.prog 44 #[.slice ao n c] w fun e w' => ∃ a q, e = .returned (.slice a n q) ∧ KOwn 3 (fun x => w.heap.size ≤ x ∧ x < w'.heap.size) w' a n F ∧ Blw w w' := by
  obtain ⟨a, q, w2, hrun, hO, hB⟩ := copyC h hn.2 c
  obtain ⟨b, o, rfl, -, -⟩ := h.2 0 (by omega)
  have HRN : Hid _ := hrun
  have FIN : Hid (KOwn 3 (fun x => w.heap.size ≤ x ∧ x < w2.heap.size) w2 a n F ∧ Blw w w2) := ⟨hO, hB⟩
  have hnil := eqnil 25 35 b o n c Tryd.underlying25
  clear hrun hO hB h
  go_enter Tryd.func44, Tryd.ntmps44
  go_wp2_with (first | (at_builtin; refine wpList_app (.tmp 5) (.tmp 6) 25 (by rfl) ?_; refine ⟨_, _, HRN.out, ?_⟩) | fail)
  exact bodyPost_ret (v := .slice a n q) (by simp [results, Tryd.results44, go_sem]) rfl ⟨a, q, rfl, FIN.out.1, FIN.out.2⟩
end Go.Proofs.YtneafnfdemodnaaDoor
/- GiveTurns, the program's and the model's. -/
namespace Go.Proofs.YtneafnfdemodnaaDoor
open Go.RowKit
set_option linter.unusedSimpArgs false
set_option linter.unusedVariables false
def gtsOut (n : Nat) (F : Nat → Nat → Int) (m : Int) (n1 : Nat) (F1 : Nat → Nat → Int) (n2 : Nat) (g : Nat → Int) (r : Bool) : Prop :=
  ((GoodC n F ∧ (0 ≤ m ∧ m ≤ 200) ∧ GoodC n (gv n F m.toNat)) ∧ n1 = n ∧ F1 = gv n F m.toNat ∧ n2 = m.toNat ∧ g = whoC n F ∧ r = true) ∨
  (¬ (GoodC n F ∧ (0 ≤ m ∧ m ≤ 200) ∧ GoodC n (gv n F m.toNat)) ∧ n1 = 0 ∧ F1 = (fun _ _ => 0) ∧ n2 = 0 ∧ g = (fun _ => 0) ∧ r = false)
theorem gtsOut_same {n : Nat} {F : Nat → Nat → Int} {m : Int} {n1 n1' : Nat} {F1 F1' : Nat → Nat → Int} {n2 n2' : Nat} {g g' : Nat → Int} {r r' : Bool} (h : gtsOut n F m n1 F1 n2 g r) (k : gtsOut n F m n1' F1' n2' g' r') : n1 = n1' ∧ F1 = F1' ∧ n2 = n2' ∧ g = g' ∧ r = r' := by
  rcases h with ⟨q, rfl, rfl, rfl, rfl, rfl⟩ | ⟨q, rfl, rfl, rfl, rfl, rfl⟩ <;> rcases k with ⟨l, rfl, rfl, rfl, rfl, rfl⟩ | ⟨l, rfl, rfl, rfl, rfl, rfl⟩
  · exact ⟨rfl, rfl, rfl, rfl, rfl⟩
  · exact absurd q l
  · exact absurd l q
  · exact ⟨rfl, rfl, rfl, rfl, rfl⟩
theorem gtsOut_small {n : Nat} {F : Nat → Nat → Int} {m : Int} {n1 : Nat} {F1 : Nat → Nat → Int} {n2 : Nat} {g : Nat → Int} {r : Bool} (h : gtsOut n F m n1 F1 n2 g r) : n1 ≤ 6 ∧ n2 ≤ 200 := by
  rcases h with ⟨q, rfl, rfl, rfl, rfl, rfl⟩ | ⟨q, rfl, rfl, rfl, rfl, rfl⟩
  · exact ⟨q.1.1.2, by have := q.2.1; omega⟩
  · exact ⟨by omega, by omega⟩
/-- Two lists, apart from one another. -/
def Two (lo hi : Nat) (w : World) (a1 : Option Addr) (n1 : Nat) (F1 : Nat → Nat → Int) (a2 : Option Addr) (n2 : Nat) (g : Nat → Int) : Prop :=
  ∃ M, (lo ≤ M ∧ M ≤ hi) ∧ KOwn 3 (fun x => lo ≤ x ∧ x < M) w a1 n1 F1 ∧ IntsOwn (fun x => M ≤ x ∧ x < hi) w a2 n2 g
theorem IntsOwn.nil0 (X : Nat → Prop) (w : World) (a : Option Addr) (f : Nat → Int) : IntsOwn X w a 0 f := ⟨by omega, fun h => absurd h (by omega)⟩
theorem Two.zero {lo hi : Nat} (h : lo ≤ hi) (w : World) : Two lo hi w none 0 (fun _ _ => 0) none 0 (fun _ => 0) := ⟨hi, ⟨h, Nat.le_refl _⟩, KOwn.nil _ _ _ _ _, IntsOwn.nil0 _ _ _ _⟩
set_option maxRecDepth 10000 in
set_option maxHeartbeats 3200000 in
theorem implTurns_any (ao : Option Addr) (c n : Nat) (F : Nat → Nat → Int) (m : Int) (Y : Nat → Prop) (w : World) (hT : Tb w) (h : KAt 3 Y w ao n F) :
    Calls Tryd.prog 14 #[.slice ao n c, .int .i64 m] w fun e w' => ∃ (a1 : Option Addr) (n1 c1 : Nat) (F1 : Nat → Nat → Int) (a2 : Option Addr) (n2 c2 : Nat) (g : Nat → Int) (r : Bool), e = .returned (.tuple #[.slice a1 n1 c1, .slice a2 n2 c2, .bool r]) ∧ gtsOut n F m n1 F1 n2 g r ∧ Two w.heap.size w'.heap.size w' a1 n1 F1 a2 n2 g ∧ Blw w w' := by
  have H : Hid (KAt 3 Y w ao n F) := h
  have HT : Hid (Tb w) := hT
  clear h hT
  go_enter Tryd.func14, Tryd.ntmps14
  go_wp2_with fail
  refine (implGood_any ao c n F Y _ H.out).mono ?_
  rintro e w1 ⟨r, rfl, hr, hb⟩
  have HR : Hid (r = true ↔ GoodC n F) := hr
  have HB : Hid (Blw w w1) := hb
  clear hr hb
  cases r
  · have HN : Hid (¬ GoodC n F) := fun g => by have := HR.out.2 g; cases this
    clear HR H HT
    go_wp2
    refine bodyPost_ret (v := .tuple #[.slice none 0 0, .slice none 0 0, .bool false]) (by simp [results, Tryd.results14, go_sem]) rfl ⟨none, 0, 0, fun _ _ => 0, none, 0, 0, fun _ => 0, false, rfl, Or.inr ⟨fun g => HN.out g.1, rfl, rfl, rfl, rfl, rfl⟩, Two.zero HB.out.size _, HB.out⟩
  have HG : Hid (GoodC n F) := HR.out.1 (by first | rfl | trivial)
  clear HR
  by_cases h1 : m < 0
  · have d1 : decide (m < 0) = true := by simpa using h1
    have HN : Hid (¬ (0 ≤ m ∧ m ≤ 200)) := fun g => by omega
    clear h1 H HT
    go_wp2
    refine bodyPost_ret (v := .tuple #[.slice none 0 0, .slice none 0 0, .bool false]) (by simp [results, Tryd.results14, go_sem]) rfl ⟨none, 0, 0, fun _ _ => 0, none, 0, 0, fun _ => 0, false, rfl, Or.inr ⟨fun g => HN.out g.2.1, rfl, rfl, rfl, rfl, rfl⟩, Two.zero HB.out.size _, HB.out⟩
  have d1 : decide (m < 0) = false := by simpa using h1
  by_cases h2 : m > 200
  · have d2 : decide (m > 200) = true := by simpa using h2
    have HN : Hid (¬ (0 ≤ m ∧ m ≤ 200)) := fun g => by omega
    clear h1 h2 H HT
    go_wp2
    refine bodyPost_ret (v := .tuple #[.slice none 0 0, .slice none 0 0, .bool false]) (by simp [results, Tryd.results14, go_sem]) rfl ⟨none, 0, 0, fun _ _ => 0, none, 0, 0, fun _ => 0, false, rfl, Or.inr ⟨fun g => HN.out g.2.1, rfl, rfl, rfl, rfl, rfl⟩, Two.zero HB.out.size _, HB.out⟩
  have d2 : decide (m > 200) = false := by simpa using h2
  obtain ⟨k, rfl⟩ : ∃ k : Nat, m = (k : Int) := ⟨m.toNat, by omega⟩
  have hk : k ≤ 200 := by omega
  clear h1 h2
  go_wp2_with fail
  clear d1 d2
  refine (clone_any ao c n F Y w1 ⟨HG.out.1.1, by have := HG.out.1.2; omega⟩ (H.out.blw HB.out)).mono ?_
  rintro e w2 ⟨a, q, rfl, hO, hb⟩
  have HO : Hid (KOwn 3 (fun x => w.heap.size ≤ x ∧ x < w2.heap.size) w2 a n F) := hO.mono (fun x hx => ⟨Nat.le_trans HB.out.size hx.1, hx.2⟩)
  replace HB : Hid (Blw w w2) := HB.out.trans hb
  have HWX : Hid (w.heap.size ≤ w2.heap.size) := HB.out.size
  clear hO hb H
  have hmk := mkInts k (by omega) w2
  go_wp2_with fail
  clear hmk
  go_loopw [27] (fun i wr => ∃ j : Nat, j ≤ k ∧ i = .int .i64 j ∧ Blw w wr ∧ w2.heap.size < wr.heap.size ∧ KOwn 3 (fun x => w.heap.size ≤ x ∧ x < w2.heap.size) wr a n (gv n F j) ∧ Row wr w2.heap.size k (fun t => Value.int .i64 (if t < j then whoC n F t else 0))) (fun i _ => k - (intOf i).toNat)
  case atStart => exact ⟨0, Nat.zero_le _, rfl, HB.out.trans ((Blw.refl _).alloc _), by simp, HO.out.blw ((Blw.refl _).alloc _), (Row.made w2 (.int .i64 0) k 3).congr (fun i _ => by simp)⟩
  case round =>
    obtain ⟨j, hj, rfl, hb, hs, hO, hR⟩ := hrel
    clear HB HO
    have HB : Hid (Blw w wr) := hb
    have HS : Hid (w2.heap.size < wr.heap.size) := hs
    have HO : Hid (KOwn 3 (fun x => w.heap.size ≤ x ∧ x < w2.heap.size) wr a n (gv n F j)) := hO
    have HR : Hid (Row wr w2.heap.size k (fun t => Value.int .i64 (if t < j then whoC n F t else 0))) := hR
    clear hb hs hO hR
    by_cases hlt : j < k
    · have hlt' : (j : Int) < k := by omega
      go_wp2_with fail
      refine (giveTurn_any a q n (gv n F j) (fun x => w.heap.size ≤ x ∧ x < w2.heap.size) j wr HG.out.1 (by omega) (Rng.gv HG.out j) (HT.out.blw HB.out) (fun x hx => by have := HS.out; omega) HO.out).mono ?_
      rintro e w3 ⟨rfl, ho, hm⟩
      have hw : (lst (gv n F j) n : Int) = whoC n F j := rfl
      rw [hw]
      have hr3 := HR.out.mod hm (fun hh => by omega)
      have HS3 : Hid (w2.heap.size < w3.heap.size) := Nat.lt_of_lt_of_le HS.out hm.size
      have HB3 : Hid (Blw w w3) := Mod.blw HB.out hm (fun i hi => hi.1)
      have g2 := hr3.cell hlt
      have g3 := hr3.frozen j
      have HR4 : Hid (Row (w3.setCell ⟨w2.heap.size, j, none⟩ (.int .i64 (whoC n F j))) w2.heap.size k (fun t => Value.int .i64 (if t < j + 1 then whoC n F t else 0))) := (hr3.set j _).congr fun i hi => by
        by_cases h1 : i = j
        · subst h1; simp
        · by_cases h2 : i < j
          · simp [h1, h2, Nat.lt_succ_of_lt h2]
          · have h3 : ¬ i < j + 1 := by omega
            simp [h1, h2, h3]
      have HM4 : Hid (Mod (fun x => x = w2.heap.size) w3 (w3.setCell ⟨w2.heap.size, j, none⟩ (.int .i64 (whoC n F j)))) := Mod.setCell (X := fun x => x = w2.heap.size) _ (p := ⟨w2.heap.size, j, none⟩) rfl _
      have HO4 : Hid (KOwn 3 (fun x => w.heap.size ≤ x ∧ x < w2.heap.size) (w3.setCell ⟨w2.heap.size, j, none⟩ (.int .i64 (whoC n F j))) a n (gv n F (j + 1))) := KOwn.mod ho HM4.out (fun b hb e => by omega)
      have HW2 : Hid (w.heap.size ≤ w2.heap.size) := HWX.out
      have HB4 : Hid (Blw w (w3.setCell ⟨w2.heap.size, j, none⟩ (.int .i64 (whoC n F j)))) := Mod.blw HB3.out HM4.out (fun i hi => by have := HW2.out; omega)
      have HS4 : Hid (w2.heap.size < (w3.setCell ⟨w2.heap.size, j, none⟩ (.int .i64 (whoC n F j))).heap.size) := Nat.lt_of_lt_of_le HS3.out HM4.out.size
      clear ho hm hr3 HB HS HO HR HB3 HS3 HM4 HW2 hw
      generalize whoC n F j = wj at *
      go_wp2
      go_roundw
      case rel => exact ⟨j + 1, by omega, by go_num, HB4.out, HS4.out, HO4.out, HR4.out⟩
      case measure => simp [intOf]; omega
    · obtain rfl : j = k := by omega
      go_wp2_with fail
      refine (implGood_any a q n (gv n F j) _ _ HO.out.at).mono ?_
      rintro e w3 ⟨r, rfl, hr, hb⟩
      have HQ : Hid (r = true ↔ GoodC n (gv n F j)) := hr
      have HB3 : Hid (Blw w w3) := HB.out.trans hb
      have HTW : Hid (Two w.heap.size w3.heap.size w3 a n (gv n F j) (some ⟨w2.heap.size, 0, none⟩) j (whoC n F)) := ⟨w2.heap.size, ⟨HWX.out, Nat.le_of_lt (Nat.lt_of_lt_of_le HS.out hb.size)⟩, HO.out.blw hb, ⟨by omega, fun _ => ⟨w2.heap.size, ⟨Nat.le_refl _, Nat.lt_of_lt_of_le HS.out hb.size⟩, rfl, (HR.out.blw hb).congr (fun i hi => by simp [hi])⟩⟩⟩
      clear hr hb HB HS HO HR
      cases r
      · have HN : Hid (¬ GoodC n (gv n F j)) := fun g => by have := HQ.out.2 g; cases this
        clear HQ HTW
        go_wp2
        refine bodyPost_ret (v := .tuple #[.slice none 0 0, .slice none 0 0, .bool false]) (by simp [results, Tryd.results14, go_sem]) rfl ⟨none, 0, 0, fun _ _ => 0, none, 0, 0, fun _ => 0, false, rfl, Or.inr ⟨fun g => HN.out (by simpa using g.2.2), rfl, rfl, rfl, rfl, rfl⟩, Two.zero HB3.out.size _, HB3.out⟩
      · have HQG : Hid (GoodC n (gv n F j)) := HQ.out.1 (by first | rfl | trivial)
        clear HQ
        go_wp2
        refine bodyPost_ret (v := .tuple #[.slice a n q, .slice (some ⟨w2.heap.size, 0, none⟩) j j, .bool true]) (by simp [results, Tryd.results14, go_sem]) rfl ⟨a, n, q, _, _, j, j, _, true, rfl, Or.inl ⟨⟨HG.out, ⟨by omega, by omega⟩, HQG.out⟩, rfl, rfl, rfl, rfl, rfl⟩, HTW.out, HB3.out⟩
set_option maxRecDepth 10000 in
set_option maxHeartbeats 3200000 in
theorem specTurns_any (ao : Option Addr) (c n : Nat) (F : Nat → Nat → Int) (m : Int) (Y : Nat → Prop) (w : World) (h : KAt 3 Y w ao n F) :
    Calls Tryd.prog 17 #[.slice ao n c, .int .i64 m] w fun e w' => ∃ (a1 : Option Addr) (n1 c1 : Nat) (F1 : Nat → Nat → Int) (a2 : Option Addr) (n2 c2 : Nat) (g : Nat → Int) (r : Bool), e = .returned (.tuple #[.slice a1 n1 c1, .slice a2 n2 c2, .bool r]) ∧ gtsOut n F m n1 F1 n2 g r ∧ Two w.heap.size w'.heap.size w' a1 n1 F1 a2 n2 g ∧ Blw w w' := by
  have H : Hid (KAt 3 Y w ao n F) := h
  clear h
  go_enter Tryd.func17, Tryd.ntmps17
  go_wp2_with fail
  refine (specGood_any ao c n F Y _ H.out).mono ?_
  rintro e w1 ⟨r, rfl, hr, hb⟩
  have HR : Hid (r = true ↔ GoodC n F) := hr
  have HB : Hid (Blw w w1) := hb
  clear hr hb
  cases r
  · have HN : Hid (¬ GoodC n F) := fun g => by have := HR.out.2 g; cases this
    clear HR H
    go_wp2
    refine bodyPost_ret (v := .tuple #[.slice none 0 0, .slice none 0 0, .bool false]) (by simp [results, Tryd.results17, go_sem]) rfl ⟨none, 0, 0, fun _ _ => 0, none, 0, 0, fun _ => 0, false, rfl, Or.inr ⟨fun g => HN.out g.1, rfl, rfl, rfl, rfl, rfl⟩, Two.zero HB.out.size _, HB.out⟩
  have HG : Hid (GoodC n F) := HR.out.1 (by first | rfl | trivial)
  clear HR
  go_wp2_with fail
  refine (l1In_any m 0 200 _).mono ?_
  rintro e w' ⟨r, rfl, hr, rfl⟩
  have HR : Hid (r = true ↔ 0 ≤ m ∧ m ≤ 200) := hr
  clear hr
  cases r
  · have HN : Hid (¬ (0 ≤ m ∧ m ≤ 200)) := fun g => by have := HR.out.2 g; cases this
    clear HR H
    go_wp2
    refine bodyPost_ret (v := .tuple #[.slice none 0 0, .slice none 0 0, .bool false]) (by simp [results, Tryd.results17, go_sem]) rfl ⟨none, 0, 0, fun _ _ => 0, none, 0, 0, fun _ => 0, false, rfl, Or.inr ⟨fun g => HN.out g.2.1, rfl, rfl, rfl, rfl, rfl⟩, Two.zero HB.out.size _, HB.out⟩
  have hmm : 0 ≤ m ∧ m ≤ 200 := HR.out.1 (by first | rfl | trivial)
  clear HR
  obtain ⟨k, rfl⟩ : ∃ k : Nat, m = (k : Int) := ⟨m.toNat, by omega⟩
  have hk : k ≤ 200 := by omega
  clear hmm
  have hn6 := HG.out.1
  obtain ⟨a, q, w2, r1, hO, hb⟩ := copyC (H.out.blw HB.out) (by omega) c
  have HO : Hid (KOwn 3 (fun x => w.heap.size ≤ x ∧ x < w2.heap.size) w2 a n F) := hO.mono (fun x hx => ⟨Nat.le_trans HB.out.size hx.1, hx.2⟩)
  have HR1 : Hid _ := r1
  replace HB : Hid (Blw w w2) := HB.out.trans hb
  have HWX : Hid (w.heap.size ≤ w2.heap.size) := HB.out.size
  clear hO hb H r1
  go_wp2_with (first | (at_builtin; refine wpList_append_at rfl (.tmp 17) (.tmp 18) 25 rfl ?_; refine ⟨_, _, HR1.out, ?_⟩) | fail)
  clear HR1
  go_loopw [1, 8] (fun mv v wr => ∃ j : Nat, j ≤ k ∧ mv = .int .i64 ((k : Int) - j) ∧ Blw w wr ∧ w2.heap.size ≤ wr.heap.size ∧ KOwn 3 (fun x => w.heap.size ≤ x ∧ x < w2.heap.size) wr a n (gv n F j) ∧ BufI (fun x => w2.heap.size ≤ x ∧ x < wr.heap.size) wr v j (whoC n F)) (fun mv _ _ => (intOf mv).toNat)
  case atStart => exact ⟨0, Nat.zero_le _, by simp, HB.out, Nat.le_refl _, HO.out, Buf.nil _ _ _ _ _⟩
  case round =>
    obtain ⟨j, hj, rfl, hb, hs, hO, hV⟩ := hrel
    clear HB HO
    have HB : Hid (Blw w wr) := hb
    have HS : Hid (w2.heap.size ≤ wr.heap.size) := hs
    have HO : Hid (KOwn 3 (fun x => w.heap.size ≤ x ∧ x < w2.heap.size) wr a n (gv n F j)) := hO
    have HV : Hid (BufI (fun x => w2.heap.size ≤ x ∧ x < wr.heap.size) wr u8 j (whoC n F)) := hV
    clear hb hs hO hV
    by_cases hlt : j < k
    · have hlt' : (k : Int) - j > 0 := by omega
      go_wp2_with fail
      refine (l10Give_any a q n (gv n F j) (fun x => w.heap.size ≤ x ∧ x < w2.heap.size) j wr HG.out.1 (by omega) (Rng.gv HG.out j) (fun x hx => by have := HS.out; omega) HO.out).mono ?_
      rintro e w3 ⟨rfl, ho, hm⟩
      have hw : (lst (gv n F j) n : Int) = whoC n F j := rfl
      rw [hw]
      have HS3 : Hid (w2.heap.size ≤ w3.heap.size) := Nat.le_trans HS.out hm.size
      have hv3 := Buf.mod HV.out hm (fun b hb hh => by omega)
      have HB3 : Hid (Blw w w3) := Mod.blw HB.out hm (fun i hi => hi.1)
      obtain ⟨a2, q2, w4, r2, hv4, hm4⟩ := BufI.push hv3 (by omega) (whoC n F j)
      have hob : ∀ b, (u8).ownBlock = some b → w2.heap.size ≤ b := fun b hb => (HV.out.2 b hb).1
      have HO4 : Hid (KOwn 3 (fun x => w.heap.size ≤ x ∧ x < w2.heap.size) w4 a n (gv n F (j + 1))) := KOwn.mod ho hm4 (fun b hb e => by have := hob b e; omega)
      have HB4 : Hid (Blw w w4) := Mod.blw HB3.out hm4 (fun i hi => by have := hob i hi; have := HWX.out; omega)
      have HS4 : Hid (w2.heap.size ≤ w4.heap.size) := Nat.le_trans HS3.out hm4.size
      have HV4 : Hid (BufI (fun x => w2.heap.size ≤ x ∧ x < w4.heap.size) w4 (.slice a2 (j + 1) q2) (j + 1) (whoC n F)) := Buf.congr (Buf.mono hv4 (fun b hb => ⟨hb.1.elim (fun h1 => h1.1) (fun h1 => Nat.le_trans HS3.out h1), hb.2⟩)) (fun i hi => by
        rw [Nat.mul_one] at hi
        simp only [ic, icat]
        by_cases h1 : i < j
        · rw [if_pos h1]
        · rw [if_neg h1, show i = j by omega])
      have HR2 : Hid _ := r2
      clear ho hm hv3 hv4 hm4 hob HB HS HO HV HB3 HS3 hw r2
      generalize whoC n F j = wj at *
      go_wp2_with (first | (at_builtin; refine wpList_append_at rfl (.tmp 24) (.tmp 27) 23 rfl ?_; refine ⟨_, _, HR2.out, ?_⟩) | fail)
      go_roundw
      case rel => exact ⟨j + 1, by omega, by congr 1; omega, HB4.out, HS4.out, HO4.out, HV4.out⟩
      case measure => simp [intOf]; omega
    · obtain rfl : j = k := by omega
      have hlt' : ¬ (j : Int) - j > 0 := by omega
      obtain ⟨a2, q2, ev, hI⟩ := BufI.own HV.out (by omega)
      subst ev
      go_wp2_with fail
      refine (specGood_any a q n (gv n F j) _ _ HO.out.at).mono ?_
      rintro e w3 ⟨r, rfl, hr, hb⟩
      have HQ : Hid (r = true ↔ GoodC n (gv n F j)) := hr
      have HB3 : Hid (Blw w w3) := HB.out.trans hb
      have HTW : Hid (Two w.heap.size w3.heap.size w3 a n (gv n F j) a2 j (whoC n F)) := ⟨w2.heap.size, ⟨HWX.out, Nat.le_trans HS.out hb.size⟩, HO.out.blw hb, (hI.blw hb).mono (fun x hx => ⟨hx.1, Nat.lt_of_lt_of_le hx.2 hb.size⟩)⟩
      clear hr hb HB HS HO HV hI
      cases r
      · have HN : Hid (¬ GoodC n (gv n F j)) := fun g => by have := HQ.out.2 g; cases this
        clear HQ HTW
        go_wp2
        refine bodyPost_ret (v := .tuple #[.slice none 0 0, .slice none 0 0, .bool false]) (by simp [results, Tryd.results17, go_sem]) rfl ⟨none, 0, 0, fun _ _ => 0, none, 0, 0, fun _ => 0, false, rfl, Or.inr ⟨fun g => HN.out (by simpa using g.2.2), rfl, rfl, rfl, rfl, rfl⟩, Two.zero HB3.out.size _, HB3.out⟩
      · have HQG : Hid (GoodC n (gv n F j)) := HQ.out.1 (by first | rfl | trivial)
        clear HQ
        go_wp2
        refine bodyPost_ret (v := .tuple #[.slice a n q, .slice a2 j q2, .bool true]) (by simp [results, Tryd.results17, go_sem]) rfl ⟨a, n, q, _, _, j, q2, _, true, rfl, Or.inl ⟨⟨HG.out, ⟨by omega, by omega⟩, HQG.out⟩, rfl, rfl, rfl, rfl, rfl⟩, HTW.out, HB3.out⟩
end Go.Proofs.YtneafnfdemodnaaDoor
/- GiveTurn, NextClient, LagOf: the program's and the model's. -/
namespace Go.Proofs.YtneafnfdemodnaaDoor
open Go.RowKit
set_option linter.unusedSimpArgs false
set_option linter.unusedVariables false
def gtOut (n : Nat) (F : Nat → Nat → Int) (n1 : Nat) (F1 : Nat → Nat → Int) (x : Int) (r : Bool) : Prop :=
  ((GoodC n F ∧ GoodC n (giveC n F)) ∧ n1 = n ∧ F1 = giveC n F ∧ x = lst F n ∧ r = true) ∨ (¬ (GoodC n F ∧ GoodC n (giveC n F)) ∧ n1 = 0 ∧ F1 = (fun _ _ => 0) ∧ x = 0 ∧ r = false)
theorem gtOut_same {n : Nat} {F : Nat → Nat → Int} {n1 n1' : Nat} {F1 F1' : Nat → Nat → Int} {x x' : Int} {r r' : Bool} (h : gtOut n F n1 F1 x r) (k : gtOut n F n1' F1' x' r') : n1 = n1' ∧ F1 = F1' ∧ x = x' ∧ r = r' := by
  rcases h with ⟨q, rfl, rfl, rfl, rfl⟩ | ⟨q, rfl, rfl, rfl, rfl⟩ <;> rcases k with ⟨l, rfl, rfl, rfl, rfl⟩ | ⟨l, rfl, rfl, rfl, rfl⟩
  · exact ⟨rfl, rfl, rfl, rfl⟩
  · exact absurd q l
  · exact absurd l q
  · exact ⟨rfl, rfl, rfl, rfl⟩
theorem gtOut_small {n : Nat} {F : Nat → Nat → Int} {n1 : Nat} {F1 : Nat → Nat → Int} {x : Int} {r : Bool} (h : gtOut n F n1 F1 x r) : n1 ≤ 6 := by
  rcases h with ⟨q, rfl, rfl, rfl, rfl⟩ | ⟨q, rfl, rfl, rfl, rfl⟩
  · exact q.1.1.2
  · omega
def ncOut (n : Nat) (F : Nat → Nat → Int) (x : Int) (r : Bool) : Prop := (GoodC n F ∧ x = lst F n ∧ r = true) ∨ (¬ GoodC n F ∧ x = 0 ∧ r = false)
theorem ncOut_same {n : Nat} {F : Nat → Nat → Int} {x x' : Int} {r r' : Bool} (h : ncOut n F x r) (k : ncOut n F x' r') : x = x' ∧ r = r' := by
  rcases h with ⟨q, rfl, rfl⟩ | ⟨q, rfl, rfl⟩ <;> rcases k with ⟨l, rfl, rfl⟩ | ⟨l, rfl, rfl⟩
  · exact ⟨rfl, rfl⟩
  · exact absurd q l
  · exact absurd l q
  · exact ⟨rfl, rfl⟩
def lgOut (n : Nat) (F : Nat → Nat → Int) (n1 : Nat) (g : Nat → Int) (r : Bool) : Prop := (GoodC n F ∧ n1 = n ∧ g = lagC n F ∧ r = true) ∨ (¬ GoodC n F ∧ n1 = 0 ∧ g = (fun _ => 0) ∧ r = false)
theorem lgOut_same {n : Nat} {F : Nat → Nat → Int} {n1 n1' : Nat} {g g' : Nat → Int} {r r' : Bool} (h : lgOut n F n1 g r) (k : lgOut n F n1' g' r') : n1 = n1' ∧ g = g' ∧ r = r' := by
  rcases h with ⟨q, rfl, rfl, rfl⟩ | ⟨q, rfl, rfl, rfl⟩ <;> rcases k with ⟨l, rfl, rfl, rfl⟩ | ⟨l, rfl, rfl, rfl⟩
  · exact ⟨rfl, rfl, rfl⟩
  · exact absurd q l
  · exact absurd l q
  · exact ⟨rfl, rfl, rfl⟩
theorem lgOut_small {n : Nat} {F : Nat → Nat → Int} {n1 : Nat} {g : Nat → Int} {r : Bool} (h : lgOut n F n1 g r) : n1 ≤ 6 := by
  rcases h with ⟨q, rfl, rfl, rfl⟩ | ⟨q, rfl, rfl, rfl⟩
  · exact q.1.2
  · omega
set_option maxRecDepth 10000 in
set_option maxHeartbeats 3200000 in
theorem implTurn_any (ao : Option Addr) (c n : Nat) (F : Nat → Nat → Int) (Y : Nat → Prop) (w : World) (hT : Tb w) (h : KAt 3 Y w ao n F) :
    Calls Tryd.prog 22 #[.slice ao n c] w fun e w' => ∃ (a1 : Option Addr) (n1 c1 : Nat) (F1 : Nat → Nat → Int) (x : Int) (r : Bool), e = .returned (.tuple #[.slice a1 n1 c1, .int .i64 x, .bool r]) ∧ gtOut n F n1 F1 x r ∧ KOwn 3 (fun x => w.heap.size ≤ x ∧ x < w'.heap.size) w' a1 n1 F1 ∧ Blw w w' := by
  have H : Hid (KAt 3 Y w ao n F) := h
  have HT : Hid (Tb w) := hT
  clear h hT
  go_enter Tryd.func22, Tryd.ntmps22
  go_wp2_with fail
  refine (implTurns_any ao c n F 1 Y _ HT.out H.out).mono ?_
  rintro e w1 ⟨a1, n1, c1, F1, a2, n2, c2, g, r, rfl, ho, hw, hb⟩
  have HO : Hid (gtsOut n F 1 n1 F1 n2 g r) := ho
  have HW : Hid (Two w.heap.size w1.heap.size w1 a1 n1 F1 a2 n2 g) := hw
  have HB : Hid (Blw w w1) := hb
  clear ho hw hb H
  cases r
  · have HN : Hid (¬ (GoodC n F ∧ GoodC n (giveC n F))) := by
      rcases HO.out with ⟨_, _, _, _, _, e⟩ | ⟨q, _⟩
      · cases e
      · exact fun g => q ⟨g.1, ⟨by omega, by omega⟩, g.2⟩
    clear HO HW
    go_wp2
    refine bodyPost_ret (v := .tuple #[.slice none 0 0, .int .i64 0, .bool false]) (by simp [results, Tryd.results22, go_sem]) rfl ⟨none, 0, 0, fun _ _ => 0, 0, false, rfl, Or.inr ⟨HN.out, rfl, rfl, rfl, rfl⟩, KOwn.nil _ _ _ _ _, HB.out⟩
  obtain ⟨⟨q1, _, q2⟩, rfl, rfl, e2, rfl⟩ : (GoodC n F ∧ (0 ≤ (1 : Int) ∧ (1 : Int) ≤ 200) ∧ GoodC n (gv n F (1 : Int).toNat)) ∧ n1 = n ∧ F1 = gv n F (1 : Int).toNat ∧ n2 = (1 : Int).toNat ∧ g = whoC n F := by
    rcases HO.out with ⟨q, e1, e2, e3, e4, _⟩ | ⟨_, _, _, _, _, e⟩
    · exact ⟨q, e1, e2, e3, e4⟩
    · cases e
  have e3 : n2 = 1 := e2
  subst e3
  obtain ⟨M, hM, k1, k2⟩ := HW.out
  obtain ⟨b, hx, rfl, hr⟩ := k2.2 (by omega)
  have g0 := hr.cell (i := 0) (by omega)
  have hw0 : whoC n1 F 0 = lst F n1 := rfl
  rw [hw0] at g0
  have HF : Hid (gtOut n1 F n1 (giveC n1 F) (lst F n1) true ∧ KOwn 3 (fun x => w.heap.size ≤ x ∧ x < w1.heap.size) w1 a1 n1 (giveC n1 F) ∧ Blw w w1) := ⟨Or.inl ⟨⟨q1, q2⟩, rfl, rfl, rfl, rfl⟩, k1.mono (fun x hx => ⟨hx.1, Nat.lt_of_lt_of_le hx.2 hM.2⟩), HB.out⟩
  clear HO HW HB k1 k2 hr hw0 q1 q2 hM hx e2
  go_upto_region 4 with fail
  go_quiet (fail)
  go_wp2
  refine bodyPost_ret (v := .tuple #[.slice a1 n1 c1, .int .i64 (lst F n1), .bool true]) (by simp [results, Tryd.results22, go_sem]) rfl ⟨a1, n1, c1, _, _, true, rfl, HF.out.1, ?_, ?_⟩
  · first | exact HF.out.2.1 | exact HF.out.2.1.blw (Blw.refl _).drew | exact HF.out.2.1.blw ((Blw.refl _).drewN _)
  · first | exact HF.out.2.2 | exact HF.out.2.2.drew | exact HF.out.2.2.drewN _
set_option maxRecDepth 10000 in
set_option maxHeartbeats 3200000 in
theorem specTurn_any (ao : Option Addr) (c n : Nat) (F : Nat → Nat → Int) (Y : Nat → Prop) (w : World) (h : KAt 3 Y w ao n F) :
    Calls Tryd.prog 23 #[.slice ao n c] w fun e w' => ∃ (a1 : Option Addr) (n1 c1 : Nat) (F1 : Nat → Nat → Int) (x : Int) (r : Bool), e = .returned (.tuple #[.slice a1 n1 c1, .int .i64 x, .bool r]) ∧ gtOut n F n1 F1 x r ∧ KOwn 3 (fun x => w.heap.size ≤ x ∧ x < w'.heap.size) w' a1 n1 F1 ∧ Blw w w' := by
  have H : Hid (KAt 3 Y w ao n F) := h

  clear h
  go_enter Tryd.func23, Tryd.ntmps23
  go_wp2_with fail
  refine (specTurns_any ao c n F 1 Y _ H.out).mono ?_
  rintro e w1 ⟨a1, n1, c1, F1, a2, n2, c2, g, r, rfl, ho, hw, hb⟩
  have HO : Hid (gtsOut n F 1 n1 F1 n2 g r) := ho
  have HW : Hid (Two w.heap.size w1.heap.size w1 a1 n1 F1 a2 n2 g) := hw
  have HB : Hid (Blw w w1) := hb
  clear ho hw hb H
  cases r
  · have HN : Hid (¬ (GoodC n F ∧ GoodC n (giveC n F))) := by
      rcases HO.out with ⟨_, _, _, _, _, e⟩ | ⟨q, _⟩
      · cases e
      · exact fun g => q ⟨g.1, ⟨by omega, by omega⟩, g.2⟩
    clear HO HW
    go_wp2
    refine bodyPost_ret (v := .tuple #[.slice none 0 0, .int .i64 0, .bool false]) (by simp [results, Tryd.results23, go_sem]) rfl ⟨none, 0, 0, fun _ _ => 0, 0, false, rfl, Or.inr ⟨HN.out, rfl, rfl, rfl, rfl⟩, KOwn.nil _ _ _ _ _, HB.out⟩
  obtain ⟨⟨q1, _, q2⟩, rfl, rfl, e2, rfl⟩ : (GoodC n F ∧ (0 ≤ (1 : Int) ∧ (1 : Int) ≤ 200) ∧ GoodC n (gv n F (1 : Int).toNat)) ∧ n1 = n ∧ F1 = gv n F (1 : Int).toNat ∧ n2 = (1 : Int).toNat ∧ g = whoC n F := by
    rcases HO.out with ⟨q, e1, e2, e3, e4, _⟩ | ⟨_, _, _, _, _, e⟩
    · exact ⟨q, e1, e2, e3, e4⟩
    · cases e
  have e3 : n2 = 1 := e2
  subst e3
  obtain ⟨M, hM, k1, k2⟩ := HW.out
  obtain ⟨b, hx, rfl, hr⟩ := k2.2 (by omega)
  have g0 := hr.cell (i := 0) (by omega)
  have hw0 : whoC n1 F 0 = lst F n1 := rfl
  rw [hw0] at g0
  have HF : Hid (gtOut n1 F n1 (giveC n1 F) (lst F n1) true ∧ KOwn 3 (fun x => w.heap.size ≤ x ∧ x < w1.heap.size) w1 a1 n1 (giveC n1 F) ∧ Blw w w1) := ⟨Or.inl ⟨⟨q1, q2⟩, rfl, rfl, rfl, rfl⟩, k1.mono (fun x hx => ⟨hx.1, Nat.lt_of_lt_of_le hx.2 hM.2⟩), HB.out⟩
  clear HO HW HB k1 k2 hr hw0 q1 q2 hM hx e2
  go_upto_region 4 with fail
  go_quiet (fail)
  go_wp2
  refine bodyPost_ret (v := .tuple #[.slice a1 n1 c1, .int .i64 (lst F n1), .bool true]) (by simp [results, Tryd.results23, go_sem]) rfl ⟨a1, n1, c1, _, _, true, rfl, HF.out.1, ?_, ?_⟩
  · first | exact HF.out.2.1 | exact HF.out.2.1.blw (Blw.refl _).drew | exact HF.out.2.1.blw ((Blw.refl _).drewN _)
  · first | exact HF.out.2.2 | exact HF.out.2.2.drew | exact HF.out.2.2.drewN _
set_option maxRecDepth 10000 in
set_option maxHeartbeats 1600000 in
theorem implNext_any (ao : Option Addr) (c n : Nat) (F : Nat → Nat → Int) (Y : Nat → Prop) (w : World) (h : KAt 3 Y w ao n F) :
    Calls Tryd.prog 24 #[.slice ao n c] w fun e w' => ∃ (x : Int) (r : Bool), e = .returned (.tuple #[.int .i64 x, .bool r]) ∧ ncOut n F x r ∧ Blw w w' := by
  have H : Hid (KAt 3 Y w ao n F) := h
  clear h
  go_enter Tryd.func24, Tryd.ntmps24
  go_wp2_with fail
  refine (implGood_any ao c n F Y _ H.out).mono ?_
  rintro e w1 ⟨r, rfl, hr, hb⟩
  have HR : Hid (r = true ↔ GoodC n F) := hr
  have HB : Hid (Blw w w1) := hb
  clear hr hb
  cases r
  · have HN : Hid (¬ GoodC n F) := fun g => by have := HR.out.2 g; cases this
    clear HR H
    go_wp2
    refine bodyPost_ret (v := .tuple #[.int .i64 0, .bool false]) (by simp [results, Tryd.results24, go_sem]) rfl ⟨0, false, rfl, Or.inr ⟨HN.out, rfl, rfl⟩, HB.out⟩
  have HG : Hid (GoodC n F) := HR.out.1 (by first | rfl | trivial)
  clear HR
  go_wp2_with fail
  refine (nextOf_any ao c n F Y _ (by have := HG.out.1; omega) (H.out.blw HB.out)).mono ?_
  rintro e w2 ⟨rfl, hb⟩
  have HB2 : Hid (Blw w w2) := HB.out.trans hb
  clear hb HB H
  go_wp2
  refine bodyPost_ret (v := .tuple #[.int .i64 (lst F n), .bool true]) (by simp [results, Tryd.results24, go_sem]) rfl ⟨_, true, rfl, Or.inl ⟨HG.out, rfl, rfl⟩, HB2.out⟩
set_option maxRecDepth 10000 in
set_option maxHeartbeats 1600000 in
theorem specNext_any (ao : Option Addr) (c n : Nat) (F : Nat → Nat → Int) (Y : Nat → Prop) (w : World) (h : KAt 3 Y w ao n F) :
    Calls Tryd.prog 25 #[.slice ao n c] w fun e w' => ∃ (x : Int) (r : Bool), e = .returned (.tuple #[.int .i64 x, .bool r]) ∧ ncOut n F x r ∧ Blw w w' := by
  have H : Hid (KAt 3 Y w ao n F) := h
  clear h
  go_enter Tryd.func25, Tryd.ntmps25
  go_wp2_with fail
  refine (specGood_any ao c n F Y _ H.out).mono ?_
  rintro e w1 ⟨r, rfl, hr, hb⟩
  have HR : Hid (r = true ↔ GoodC n F) := hr
  have HB : Hid (Blw w w1) := hb
  clear hr hb
  cases r
  · have HN : Hid (¬ GoodC n F) := fun g => by have := HR.out.2 g; cases this
    clear HR H
    go_wp2
    refine bodyPost_ret (v := .tuple #[.int .i64 0, .bool false]) (by simp [results, Tryd.results25, go_sem]) rfl ⟨0, false, rfl, Or.inr ⟨HN.out, rfl, rfl⟩, HB.out⟩
  have HG : Hid (GoodC n F) := HR.out.1 (by first | rfl | trivial)
  clear HR
  go_wp2_with fail
  refine (l10Next_any ao c n F Y _ (H.out.blw HB.out)).mono ?_
  rintro e w2 ⟨rfl, hb⟩
  have HB2 : Hid (Blw w w2) := HB.out.trans hb
  clear hb HB H
  go_wp2
  refine bodyPost_ret (v := .tuple #[.int .i64 (lst F n), .bool true]) (by simp [results, Tryd.results25, go_sem]) rfl ⟨_, true, rfl, Or.inl ⟨HG.out, rfl, rfl⟩, HB2.out⟩
theorem lag_rng {n : Nat} {F : Nat → Nat → Int} (h : GoodC n F) : (0 ≤ sm (fun i => F i 2) n ∧ sm (fun i => F i 2) n ≤ 600000) ∧ (0 ≤ sm (fun i => F i 0) n ∧ sm (fun i => F i 0) n ≤ 72) ∧ ∀ k, k < n → (0 ≤ F k 0 * sm (fun i => F i 2) n ∧ F k 0 * sm (fun i => F i 2) n ≤ 7200000) ∧ (0 ≤ F k 2 * sm (fun i => F i 0) n ∧ F k 2 * sm (fun i => F i 0) n ≤ 7200000) := by
  have h1 := sm_bound (f := fun i => F i 2) (n := n) (a := 0) (b := 100000) (fun i hi => (h.2 i hi).2.2)
  have h2 := sm_bound (f := fun i => F i 0) (n := n) (a := 0) (b := 12) (fun i hi => ⟨by have := (h.2 i hi).1.1; omega, (h.2 i hi).1.2⟩)
  have hn := h.1
  generalize sm (fun i => F i 2) n = u at *
  generalize sm (fun i => F i 0) n = t at *
  refine ⟨⟨by omega, by omega⟩, ⟨by omega, by omega⟩, fun k hk => ?_⟩
  obtain ⟨a1, a2, a3⟩ := h.2 k hk
  have c1 : F k 0 * u ≤ 12 * u := Int.mul_le_mul_of_nonneg_right a1.2 (by omega)
  have c2 : F k 2 * t ≤ 100000 * t := Int.mul_le_mul_of_nonneg_right a3.2 (by omega)
  exact ⟨⟨Int.mul_nonneg (by omega) (by omega), by omega⟩, ⟨Int.mul_nonneg a3.1 (by omega), by omega⟩⟩
theorem box1 (w : World) (a : Value) (t : TypeId) : Row (w.alloc (.cells #[a] t)) w.heap.size 1 (fun _ => a) :=
  ⟨_, t, heap_alloc_new _ _, by simp, fun i hi => by obtain rfl : i = 0 := by omega
                                                     rfl⟩
set_option maxRecDepth 10000 in
set_option maxHeartbeats 3200000 in
theorem implLag_any (ao : Option Addr) (c n : Nat) (F : Nat → Nat → Int) (Y : Nat → Prop) (w : World) (h : KAt 3 Y w ao n F) :
    Calls Tryd.prog 15 #[.slice ao n c] w fun e w' => ∃ (a1 : Option Addr) (n1 c1 : Nat) (g : Nat → Int) (r : Bool), e = .returned (.tuple #[.slice a1 n1 c1, .bool r]) ∧ lgOut n F n1 g r ∧ IntsOwn (fun x => w.heap.size ≤ x ∧ x < w'.heap.size) w' a1 n1 g ∧ Blw w w' := by
  have H : Hid (KAt 3 Y w ao n F) := h
  clear h
  go_enter Tryd.func15, Tryd.ntmps15
  go_wp2_with fail
  refine (implGood_any ao c n F Y _ H.out).mono ?_
  rintro e w1 ⟨r, rfl, hr, hb⟩
  have HR : Hid (r = true ↔ GoodC n F) := hr
  have HB : Hid (Blw w w1) := hb
  clear hr hb
  cases r
  · have HN : Hid (¬ GoodC n F) := fun g => by have := HR.out.2 g; cases this
    clear HR H
    go_wp2
    refine bodyPost_ret (v := .tuple #[.slice none 0 0, .bool false]) (by simp [results, Tryd.results15, go_sem]) rfl ⟨none, 0, 0, fun _ => 0, false, rfl, Or.inr ⟨HN.out, rfl, rfl, rfl⟩, IntsOwn.nil0 _ _ _ _, HB.out⟩
  have HG : Hid (GoodC n F) := HR.out.1 (by first | rfl | trivial)
  clear HR
  have hn6 : n ≤ 6 := HG.out.1.2
  go_wp2_with fail
  refine (eachTurns_any ao c n F Y _ (by omega) (H.out.blw HB.out)).mono ?_
  rintro e w2 ⟨rfl, hr, hb⟩
  have HI : Hid (IntsAt (fun x => x < w2.heap.size) w2 (some ⟨w1.heap.size, 0, none⟩) n (fun i => F i 2)) := (row_ints' hr (by omega) hr.lt).at
  replace HB : Hid (Blw w w2) := HB.out.trans hb
  clear hr hb
  go_wp2_with fail
  refine (sumOf_any _ _ n _ 100000 _ _ (by omega) (by omega) HI.out (fun k hk => (HG.out.2 k hk).2.2)).mono ?_
  rintro e w3 ⟨rfl, hw3⟩
  subst hw3
  clear HI
  have HZ1 : Hid (Row (w3.alloc (.cells #[.int .i64 (sm (fun i => F i 2) n)] 3)) w3.heap.size 1 (fun _ => .int .i64 (sm (fun i => F i 2) n))) := box1 w3 _ 3
  have HB3 : Hid (Blw w (w3.alloc (.cells #[.int .i64 (sm (fun i => F i 2) n)] 3))) := HB.out.trans ((Blw.refl _).alloc _)
  clear HB
  go_wp2_with fail
  generalize hw4 : w3.alloc (.cells #[.int .i64 (sm (fun i => F i 2) n)] 3) = w4 at *
  clear hw4
  refine (eachTick_any ao c n F Y _ (by omega) (H.out.blw HB3.out)).mono ?_
  rintro e w5 ⟨rfl, hr, hb⟩
  have HI : Hid (IntsAt (fun x => x < w5.heap.size) w5 (some ⟨w4.heap.size, 0, none⟩) n (fun i => F i 0)) := (row_ints' hr (by omega) hr.lt).at
  replace HB3 : Hid (Blw w w5) := HB3.out.trans hb
  replace HZ1 : Hid (Row w5 w3.heap.size 1 (fun _ => .int .i64 (sm (fun i => F i 2) n))) := HZ1.out.blw hb
  clear hr hb
  go_wp2_with fail
  refine (sumOf_any _ _ n _ 12 _ _ (by omega) (by omega) HI.out (fun k hk => ⟨by have := (HG.out.2 k hk).1; omega, (HG.out.2 k hk).1.2⟩)).mono ?_
  rintro e w6 ⟨rfl, hw6⟩
  subst hw6
  clear HI
  have HZ2 : Hid (Row (w6.alloc (.cells #[.int .i64 (sm (fun i => F i 0) n)] 3)) w6.heap.size 1 (fun _ => .int .i64 (sm (fun i => F i 0) n))) := box1 w6 _ 3
  have HB6 : Hid (Blw w (w6.alloc (.cells #[.int .i64 (sm (fun i => F i 0) n)] 3))) := HB3.out.trans ((Blw.refl _).alloc _)
  replace HZ1 : Hid (Row (w6.alloc (.cells #[.int .i64 (sm (fun i => F i 0) n)] 3)) w3.heap.size 1 (fun _ => .int .i64 (sm (fun i => F i 2) n))) := HZ1.out.blw ((Blw.refl _).alloc _)
  have HR : Hid (∀ k, k < n → (-9223372036854775808 ≤ F k 0 * sm (fun i => F i 2) n ∧ F k 0 * sm (fun i => F i 2) n ≤ 9223372036854775807) ∧ (-9223372036854775808 ≤ F k 2 * sm (fun i => F i 0) n ∧ F k 2 * sm (fun i => F i 0) n ≤ 9223372036854775807) ∧ (-9223372036854775808 ≤ F k 0 * sm (fun i => F i 2) n - F k 2 * sm (fun i => F i 0) n ∧ F k 0 * sm (fun i => F i 2) n - F k 2 * sm (fun i => F i 0) n ≤ 9223372036854775807)) := fun k hk => by have := (lag_rng HG.out).2.2 k hk; omega
  clear HB3
  go_wp2_with fail
  generalize hw7 : w6.alloc (.cells #[.int .i64 (sm (fun i => F i 0) n)] 3) = w7 at *
  clear hw7
  refine (eachLag_any ao c n F _ _ w3.heap.size w6.heap.size Y _ (by omega) (H.out.blw HB6.out) HZ1.out HZ2.out HR.out).mono ?_
  rintro e w8 ⟨rfl, hr, hb⟩
  have HF : Hid (IntsOwn (fun x => w.heap.size ≤ x ∧ x < w8.heap.size) w8 (some ⟨w7.heap.size, 0, none⟩) n (lagC n F) ∧ Blw w w8) := ⟨row_ints' hr (by omega) ⟨HB6.out.size, hr.lt⟩, HB6.out.trans hb⟩
  clear hr hb HZ1 HZ2 HB6 HR H
  go_wp2
  refine bodyPost_ret (v := .tuple #[.slice (some ⟨w7.heap.size, 0, none⟩) n n, .bool true]) (by simp [results, Tryd.results15, go_sem]) rfl ⟨_, n, n, _, true, rfl, Or.inl ⟨HG.out, rfl, rfl, rfl⟩, HF.out.1, HF.out.2⟩
set_option maxRecDepth 10000 in
set_option maxHeartbeats 3200000 in
theorem specLag_any (ao : Option Addr) (c n : Nat) (F : Nat → Nat → Int) (Y : Nat → Prop) (w : World) (h : KAt 3 Y w ao n F) :
    Calls Tryd.prog 19 #[.slice ao n c] w fun e w' => ∃ (a1 : Option Addr) (n1 c1 : Nat) (g : Nat → Int) (r : Bool), e = .returned (.tuple #[.slice a1 n1 c1, .bool r]) ∧ lgOut n F n1 g r ∧ IntsOwn (fun x => w.heap.size ≤ x ∧ x < w'.heap.size) w' a1 n1 g ∧ Blw w w' := by
  have H : Hid (KAt 3 Y w ao n F) := h
  clear h
  go_enter Tryd.func19, Tryd.ntmps19
  go_wp2_with fail
  refine (specGood_any ao c n F Y _ H.out).mono ?_
  rintro e w1 ⟨r, rfl, hr, hb⟩
  have HR : Hid (r = true ↔ GoodC n F) := hr
  have HB : Hid (Blw w w1) := hb
  clear hr hb
  cases r
  · have HN : Hid (¬ GoodC n F) := fun g => by have := HR.out.2 g; cases this
    clear HR H
    go_wp2
    refine bodyPost_ret (v := .tuple #[.slice none 0 0, .bool false]) (by simp [results, Tryd.results19, go_sem]) rfl ⟨none, 0, 0, fun _ => 0, false, rfl, Or.inr ⟨HN.out, rfl, rfl, rfl⟩, IntsOwn.nil0 _ _ _ _, HB.out⟩
  have HG : Hid (GoodC n F) := HR.out.1 (by first | rfl | trivial)
  clear HR
  have hn6 : n ≤ 6 := HG.out.1.2
  go_wp2_with fail
  go_loopw [4, 5, 16] (fun t u i wr => ∃ k : Nat, k ≤ n ∧ t = .int .i64 (sm (fun i => F i 0) k) ∧ u = .int .i64 (sm (fun i => F i 2) k) ∧ i = .int .i64 k ∧ Blw w wr) (fun _ _ i _ => n - (intOf i).toNat)
  case atStart => exact ⟨0, Nat.zero_le _, rfl, rfl, rfl, HB.out⟩
  case round =>
    obtain ⟨k, hk, rfl, rfl, rfl, hb⟩ := hrel
    clear HB
    have HB : Hid (Blw w wr) := hb
    clear hb
    by_cases hlt : k < n
    · have hlt' : (k : Int) < n := by omega
      have b1 := sm_bound (f := fun i => F i 0) (n := k) (a := 0) (b := 12) (fun i hi => ⟨by have := (HG.out.2 i (by omega)).1.1; omega, (HG.out.2 i (by omega)).1.2⟩)
      have b2 := sm_bound (f := fun i => F i 2) (n := k) (a := 0) (b := 100000) (fun i hi => (HG.out.2 i (by omega)).2.2)
      have b3 := (HG.out.2 k hlt).1
      have b4 := (HG.out.2 k hlt).2.2
      have e1 : IntKind.i64.wrap (sm (fun i => F i 0) k + F k 0) = sm (fun i => F i 0) k + F k 0 := by rw [IntKind.wrap_i64] <;> omega
      have e2 : IntKind.i64.wrap (sm (fun i => F i 2) k + F k 2) = sm (fun i => F i 2) k + F k 2 := by rw [IntKind.wrap_i64] <;> omega
      have E1 : Hid (sm (fun i => F i 0) k + F k 0 = sm (fun i => F i 0) (k + 1)) := rfl
      have E2 : Hid (sm (fun i => F i 2) k + F k 2 = sm (fun i => F i 2) (k + 1)) := rfl
      clear b1 b2 b3 b4
      obtain ⟨b, o, rfl, -, g⟩ := (H.out.blw HB.out).2 k hlt
      have g0 := g 0 (by omega)
      have g1 := g 1 (by omega)
      have g2 := g 2 (by omega)
      clear g
      rw [Nat.add_zero] at g0
      have HB2 : Hid (Blw w (wr.alloc (.cells #[.int .i64 (F k 0), .int .i64 (F k 1), .int .i64 (F k 2)] 35))) := HB.out.trans ((Blw.refl _).alloc _)
      clear H HB
      generalize sm (fun i => F i 0) k = s1 at *
      generalize sm (fun i => F i 2) k = s2 at *
      go_wp2
      go_roundw
      case rel => exact ⟨k + 1, by omega, by rw [E1.out], by rw [E2.out], by go_num, HB2.out⟩
      case measure => simp [intOf]; omega
    · obtain rfl : k = n := by omega
      have HR : Hid _ := lag_rng HG.out
      go_wp2_with fail
      go_loopw [8, 31] (fun v i wr => ∃ j : Nat, j ≤ k ∧ i = .int .i64 j ∧ Blw w wr ∧ BufI (fun x => w.heap.size ≤ x ∧ x < wr.heap.size) wr v j (lagC k F)) (fun _ i _ => k - (intOf i).toNat)
      case atStart => exact ⟨0, Nat.zero_le _, rfl, HB.out, Buf.nil _ _ _ _ _⟩
      case round =>
        obtain ⟨j, hj, rfl, hb, hv⟩ := hrel
        clear HB
        have HB : Hid (Blw w wr) := hb
        have HV : Hid (BufI (fun x => w.heap.size ≤ x ∧ x < wr.heap.size) wr u8 j (lagC k F)) := hv
        clear hb hv
        by_cases hlt : j < k
        · have hlt' : (j : Int) < k := by omega
          obtain ⟨b, o, rfl, -, g⟩ := (H.out.blw HB.out).2 j hlt
          have g0 := g 0 (by omega)
          have g1 := g 1 (by omega)
          have g2 := g 2 (by omega)
          clear g
          rw [Nat.add_zero] at g0
          have hb3 := HR.out.2.2 j hlt
          have e1 : IntKind.i64.wrap (F j 0 * sm (fun i => F i 2) k) = F j 0 * sm (fun i => F i 2) k := by rw [IntKind.wrap_i64] <;> omega
          have e2 : IntKind.i64.wrap (F j 2 * sm (fun i => F i 0) k) = F j 2 * sm (fun i => F i 0) k := by rw [IntKind.wrap_i64] <;> omega
          have e3 : IntKind.i64.wrap (F j 0 * sm (fun i => F i 2) k - F j 2 * sm (fun i => F i 0) k) = F j 0 * sm (fun i => F i 2) k - F j 2 * sm (fun i => F i 0) k := by rw [IntKind.wrap_i64] <;> omega
          have HL : Hid (F j 0 * sm (fun i => F i 2) k - F j 2 * sm (fun i => F i 0) k = lagC k F j) := rfl
          have hA : Blw wr (wr.alloc (.cells #[.int .i64 (F j 0), .int .i64 (F j 1), .int .i64 (F j 2)] 35)) := (Blw.refl _).alloc _
          obtain ⟨a2, q2, w4, r2, hv4, hm4⟩ := BufI.push (Buf.blw HV.out hA) (by omega) (F j 0 * sm (fun i => F i 2) k - F j 2 * sm (fun i => F i 0) k)
          rw [World.size_alloc] at r2
          have hob : ∀ b, (u8).ownBlock = some b → w.heap.size ≤ b := fun b hb => (HV.out.2 b hb).1
          have HB4 : Hid (Blw w w4) := Mod.blw (HB.out.trans hA) hm4 (fun i hi => hob i hi)
          have HV4 : Hid (BufI (fun x => w.heap.size ≤ x ∧ x < w4.heap.size) w4 (.slice a2 (j + 1) q2) (j + 1) (lagC k F)) := Buf.congr (Buf.mono hv4 (fun b hb => ⟨hb.1.elim (fun h1 => h1.1) (fun h1 => Nat.le_trans (Nat.le_trans HB.out.size hA.size) h1), hb.2⟩)) (fun i hi => by
            rw [Nat.mul_one] at hi
            simp only [ic, icat]
            by_cases h1 : i < j
            · rw [if_pos h1]
            · rw [if_neg h1, show i = j by omega]; exact congrArg _ HL.out)
          have HR2 : Hid _ := r2
          clear hb3 hv4 hm4 hob HB HV hA HR H r2 HL
          generalize sm (fun i => F i 2) k = s2 at *
          generalize sm (fun i => F i 0) k = s1 at *
          go_wp2_with (first | (at_builtin; refine wpList_append_at rfl (.tmp 35) (.tmp 45) 23 rfl ?_; refine ⟨_, _, HR2.out, ?_⟩) | fail)
          go_roundw
          case rel => exact ⟨j + 1, by omega, by go_num, HB4.out, HV4.out⟩
          case measure => simp [intOf]; omega
        · obtain rfl : j = k := by omega
          obtain ⟨a2, q2, ev, hI⟩ := BufI.own HV.out (by omega)
          subst ev
          have HF : Hid (IntsOwn (fun x => w.heap.size ≤ x ∧ x < wr.heap.size) wr a2 j (lagC j F) ∧ Blw w wr) := ⟨hI, HB.out⟩
          clear HV hI HB H HR
          go_wp2
          refine bodyPost_ret (v := .tuple #[.slice a2 j q2, .bool true]) (by simp [results, Tryd.results19, go_sem]) rfl ⟨_, j, q2, _, true, rfl, Or.inl ⟨HG.out, rfl, rfl, rfl⟩, HF.out.1, HF.out.2⟩
end Go.Proofs.YtneafnfdemodnaaDoor
/- NewClients, the program's and the model's; clients that are the same. -/
namespace Go.Proofs.YtneafnfdemodnaaDoor
open Go.RowKit
set_option linter.unusedSimpArgs false
set_option linter.unusedVariables false
def strF (t : Int) : Int := if 1 ≤ t ∧ t ≤ 12 then 27720 / t else 0
theorem soOut_str {t s : Int} {r : Bool} (h : soOut t s r) : s = strF t := by
  rcases h with ⟨g, e, _⟩ | ⟨g, e, _⟩
  · rw [e]; exact (if_pos g).symm
  · rw [e]; exact (if_neg g).symm
def newF (f : Nat → Int) : Nat → Nat → Int := fun i c => if c = 0 then f i else if c = 1 then strF (f i) else 0
def nwGood (n : Nat) (f : Nat → Int) : Prop := (1 ≤ n ∧ n ≤ 6) ∧ ∀ k, k < n → tkOK (f k)
theorem newF_new {n : Nat} {f : Nat → Int} (h : ∀ k, k < n → tkOK (f k)) (i c : Nat) (hi : i < n) : newF f i c = newC f i c := by
  unfold newF newC strF
  have := h i hi
  unfold tkOK at this
  rw [if_pos this]
theorem newC_good {n : Nat} {f : Nat → Int} (h : nwGood n f) : GoodC n (newC f) := ⟨h.1, fun k hk => by
  have h1 := h.2 k hk
  have h2 := stride_le h1.1
  exact ⟨h1, ⟨h2.2, by show 27720 / f k ≤ _; omega⟩, ⟨by show (0 : Int) ≤ 0; omega, by show (0 : Int) ≤ _; omega⟩⟩⟩
theorem newF_good {n : Nat} {f : Nat → Int} : GoodC n (newF f) ↔ nwGood n f := ⟨fun g => ⟨g.1, fun k hk => (g.2 k hk).1⟩, fun g => by
  have := newC_good g
  refine ⟨this.1, fun k hk => ?_⟩
  have e : newF f k = newC f k := funext fun c => newF_new g.2 k c hk
  rw [e]; exact this.2 k hk⟩
def nwOut (n : Nat) (f : Nat → Int) (n1 : Nat) (F1 : Nat → Nat → Int) (r : Bool) : Prop := (nwGood n f ∧ n1 = n ∧ F1 = newC f ∧ r = true) ∨ (¬ nwGood n f ∧ n1 = 0 ∧ F1 = (fun _ _ => 0) ∧ r = false)
theorem nwOut_same {n : Nat} {f : Nat → Int} {n1 n1' : Nat} {F1 F1' : Nat → Nat → Int} {r r' : Bool} (h : nwOut n f n1 F1 r) (k : nwOut n f n1' F1' r') : n1 = n1' ∧ F1 = F1' ∧ r = r' := by
  rcases h with ⟨q, rfl, rfl, rfl⟩ | ⟨q, rfl, rfl, rfl⟩ <;> rcases k with ⟨l, rfl, rfl, rfl⟩ | ⟨l, rfl, rfl, rfl⟩
  · exact ⟨rfl, rfl, rfl⟩
  · exact absurd q l
  · exact absurd l q
  · exact ⟨rfl, rfl, rfl⟩
theorem nwOut_small {n : Nat} {f : Nat → Int} {n1 : Nat} {F1 : Nat → Nat → Int} {r : Bool} (h : nwOut n f n1 F1 r) : n1 ≤ 6 := by
  rcases h with ⟨q, rfl, rfl, rfl⟩ | ⟨q, rfl, rfl, rfl⟩
  · exact q.1.2
  · omega
set_option maxRecDepth 10000 in
set_option maxHeartbeats 1600000 in
theorem newClient_any (t : Int) (w : World) (hT : Tb w) : Calls Tryd.prog 41 #[.int .i64 t] w fun e w' => e = .returned (.agg #[.int .i64 t, .int .i64 (strF t), .int .i64 0]) ∧ Blw w w' := by
  have HT : Hid (Tb (w.alloc (.cells #[.int .i64 0, .int .i64 0, .int .i64 0] 35))) := hT.blw ((Blw.refl _).alloc _)
  clear hT
  go_enter Tryd.func41, Tryd.ntmps41
  go_wp2_with fail
  refine (implStride_any t _ HT.out).mono ?_
  rintro e w' ⟨s, r, rfl, ho, rfl⟩
  have HS : Hid (s = strF t) := soOut_str ho
  clear ho
  go_wp2
  refine bodyPost_ret (v := .agg #[.int .i64 t, .int .i64 s, .int .i64 0]) (by simp [results, Tryd.results41, go_sem]) rfl ⟨by rw [HS.out], ?_⟩
  first | exact (Blw.refl _).alloc _ | exact (((Blw.refl _).alloc _).setCell (Nat.le_refl _) _) | exact ((((Blw.refl _).alloc _).setCell (Nat.le_refl _) _).setCell (Nat.le_refl _) _).setCell (Nat.le_refl _) _
set_option maxRecDepth 10000 in
set_option maxHeartbeats 3200000 in
theorem eachNew_any (ao : Option Addr) (c n : Nat) (f : Nat → Int) (Y : Nat → Prop) (w : World) (hn : n ≤ 1048576) (hT : Tb w) (h : IntsAt Y w ao n f) :
    Calls Tryd.prog 40 #[.slice ao n c, .func (.func 41) #[] #[]] w fun e w' => e = .returned (.slice (some ⟨w.heap.size, 0, none⟩) n n) ∧ Row w' w.heap.size (n * 3) (kc 3 (newF f)) ∧ Blw w w' := by
  have H : Hid (IntsAt Y w ao n f) := h
  have HT : Hid (Tb w) := hT
  have hmk := mkCli n hn
  clear h hT
  go_enter Tryd.func40, Tryd.ntmps40
  go_wp2
  clear hmk
  go_loopw [13] (fun i wr => ∃ j : Nat, j ≤ n ∧ i = .int .i64 j ∧ Row wr w.heap.size (n * 3) (kc 3 (upK (newF f) (fun _ _ => 0) j)) ∧ Blw w wr) (fun i _ => n - (intOf i).toNat)
  case atStart => exact ⟨0, Nat.zero_le _, rfl, (Row.madeK w #[.int .i64 0, .int .i64 0, .int .i64 0] (.int .i64 0) (fun i hi => by
    match i, hi with
    | 0, _ => rfl
    | 1, _ => rfl
    | 2, _ => rfl
    ) (by decide) (n * 3) 35).congr (fun i _ => by rw [upK_zero]; rfl), (Blw.refl _).alloc _⟩
  case round =>
    obtain ⟨j, hj, rfl, hr, hb⟩ := hrel
    have HR : Hid (Row wr w.heap.size (n * 3) (kc 3 (upK (newF f) (fun _ _ => 0) j))) := hr
    have HB : Hid (Blw w wr) := hb
    clear hr hb
    by_cases hlt : j < n
    · obtain ⟨b, o, rfl, -, g0⟩ := (H.out.blw HB.out).2 j hlt
      have hlt' : (j : Int) < n := by omega
      clear H
      go_wp2_with fail
      refine (newClient_any (f j) _ (HT.out.blw HB.out)).mono ?_
      rintro e w1 ⟨rfl, hb1⟩
      clear g0
      have HR1 : Hid (Row w1 w.heap.size (n * 3) (kc 3 (upK (newF f) (fun _ _ => 0) j))) := HR.out.blw hb1
      have HB1 : Hid (Blw w w1) := HB.out.trans hb1
      clear HR HB hb1
      have p0 := k_get HR1.out hlt (c := 0) (by omega)
      have f0 := HR1.out.frozen (j * 3)
      have p1 := k_get HR1.out hlt (c := 1) (by omega)
      have f1 := HR1.out.frozen (j * 3 + 1)
      have p2 := k_get HR1.out hlt (c := 2) (by omega)
      have f2 := HR1.out.frozen (j * 3 + 2)
      rw [Nat.add_zero] at p0
      have HS : Hid (Row (((w1.setCell ⟨w.heap.size, j * 3, none⟩ (.int .i64 (f j))).setCell ⟨w.heap.size, j * 3 + 1, none⟩ (.int .i64 (strF (f j)))).setCell ⟨w.heap.size, j * 3 + 2, none⟩ (.int .i64 0)) w.heap.size (n * 3) (kc 3 (upK (newF f) (fun _ _ => 0) (j + 1)))) := by
        have hq := (setK (setK (setK HR1.out j (c := 0) (by omega) (f j)) j (c := 1) (by omega) (strF (f j))) j (c := 2) (by omega) 0)
        rw [Nat.add_zero] at hq
        refine hq.congr (fun t ht => ?_)
        have ht2 : t % 3 < 3 := Nat.mod_lt _ (by omega)
        unfold kc updF upK newF
        by_cases e : t / 3 = j
        · simp only [e, true_and, Nat.lt_succ_self, if_true]
          rcases (show t % 3 = 0 ∨ t % 3 = 1 ∨ t % 3 = 2 by omega) with e2 | e2 | e2 <;> simp [e2]
        · have e3 : (t / 3 < j + 1) = (t / 3 < j) := by simp; omega
          simp [e, e3]
      have HBF : Hid (Blw w (((w1.setCell ⟨w.heap.size, j * 3, none⟩ (.int .i64 (f j))).setCell ⟨w.heap.size, j * 3 + 1, none⟩ (.int .i64 (strF (f j)))).setCell ⟨w.heap.size, j * 3 + 2, none⟩ (.int .i64 0))) := (((HB1.out.setCell (Nat.le_refl _) _).setCell (Nat.le_refl _) _).setCell (Nat.le_refl _) _)
      clear HR1 HB1
      go_wp2
      go_roundw
      case rel => exact ⟨j + 1, by omega, by go_num, HS.out, HBF.out⟩
      case measure => simp [intOf]; omega
    · go_wp2
      go_ret
      obtain rfl : j = n := by omega
      refine ⟨rfl, HR.out.congr fun i hi => ?_, HB.out⟩
      have : i / 3 < j := Nat.div_lt_of_lt_mul (by rw [Nat.mul_comm]; exact hi)
      simp [kc, upK, this]
set_option maxRecDepth 10000 in
set_option maxHeartbeats 3200000 in
theorem implNew_any (ao : Option Addr) (c n : Nat) (f : Nat → Int) (Y : Nat → Prop) (w : World) (hn : n ≤ 1048576) (hT : Tb w) (h : IntsAt Y w ao n f) :
    Calls Tryd.prog 10 #[.slice ao n c] w fun e w' => ∃ (a1 : Option Addr) (n1 c1 : Nat) (F1 : Nat → Nat → Int) (r : Bool), e = .returned (.tuple #[.slice a1 n1 c1, .bool r]) ∧ nwOut n f n1 F1 r ∧ KOwn 3 (fun x => w.heap.size ≤ x ∧ x < w'.heap.size) w' a1 n1 F1 ∧ Blw w w' := by
  go_enter Tryd.func10, Tryd.ntmps10
  go_wp2_with fail
  refine (eachNew_any ao c n f Y _ hn hT h).mono ?_
  rintro e w1 ⟨rfl, hr, hb⟩
  have HO : Hid (KOwn 3 (fun x => w.heap.size ≤ x ∧ x < w1.heap.size) w1 (some ⟨w.heap.size, 0, none⟩) n (newF f)) := ⟨by omega, fun _ => ⟨w.heap.size, ⟨Nat.le_refl _, hr.lt⟩, rfl, hr⟩⟩
  have HB : Hid (Blw w w1) := hb
  clear hr hb h hT
  go_wp2_with fail
  refine (implGood_any _ n n (newF f) _ _ HO.out.at).mono ?_
  rintro e w2 ⟨r, rfl, hr, hb⟩
  have HR : Hid (r = true ↔ nwGood n f) := hr.trans newF_good
  have HB2 : Hid (Blw w w2) := HB.out.trans hb
  have HO2 : Hid (KOwn 3 (fun x => w.heap.size ≤ x ∧ x < w2.heap.size) w2 (some ⟨w.heap.size, 0, none⟩) n (newF f)) := (HO.out.blw hb).mono (fun x hx => ⟨hx.1, Nat.lt_of_lt_of_le hx.2 hb.size⟩)
  clear hr hb HO HB
  cases r
  · have HN : Hid (¬ nwGood n f) := fun g => by have := HR.out.2 g; cases this
    clear HR HO2
    go_wp2
    refine bodyPost_ret (v := .tuple #[.slice none 0 0, .bool false]) (by simp [results, Tryd.results10, go_sem]) rfl ⟨none, 0, 0, fun _ _ => 0, false, rfl, Or.inr ⟨HN.out, rfl, rfl, rfl⟩, KOwn.nil _ _ _ _ _, HB2.out⟩
  have HG : Hid (nwGood n f) := HR.out.1 (by first | rfl | trivial)
  clear HR
  go_wp2
  refine bodyPost_ret (v := .tuple #[.slice (some ⟨w.heap.size, 0, none⟩) n n, .bool true]) (by simp [results, Tryd.results10, go_sem]) rfl ⟨_, n, n, newC f, true, rfl, Or.inl ⟨HG.out, rfl, rfl, rfl⟩, HO2.out.congr (by omega) (fun i c hi _ => newF_new HG.out.2 i c hi), HB2.out⟩
set_option maxRecDepth 10000 in
set_option maxHeartbeats 3200000 in
theorem specNew_any (ao : Option Addr) (c n : Nat) (f : Nat → Int) (Y : Nat → Prop) (w : World) (hn : n ≤ 1048576) (h : IntsAt Y w ao n f) :
    Calls Tryd.prog 11 #[.slice ao n c] w fun e w' => ∃ (a1 : Option Addr) (n1 c1 : Nat) (F1 : Nat → Nat → Int) (r : Bool), e = .returned (.tuple #[.slice a1 n1 c1, .bool r]) ∧ nwOut n f n1 F1 r ∧ KOwn 3 (fun x => w.heap.size ≤ x ∧ x < w'.heap.size) w' a1 n1 F1 ∧ Blw w w' := by
  have H : Hid (IntsAt Y w ao n f) := h
  clear h
  go_enter Tryd.func11, Tryd.ntmps11
  go_wp2_with fail
  go_loopw [4, 9] (fun v i wr => ∃ j : Nat, j ≤ n ∧ i = .int .i64 j ∧ Blw w wr ∧ BufC (fun x => w.heap.size ≤ x ∧ x < wr.heap.size) wr v j (newC f) ∧ ∀ t, t < j → tkOK (f t)) (fun _ i _ => n - (intOf i).toNat)
  case atStart => exact ⟨0, Nat.zero_le _, rfl, Blw.refl _, Buf.nil _ _ _ _ _, fun t ht => absurd ht (Nat.not_lt_zero _)⟩
  case round =>
    obtain ⟨j, hj, rfl, hb, hv, ho⟩ := hrel
    have HB : Hid (Blw w wr) := hb
    have HV : Hid (BufC (fun x => w.heap.size ≤ x ∧ x < wr.heap.size) wr u4 j (newC f)) := hv
    have HO : Hid (∀ t, t < j → tkOK (f t)) := ho
    clear hb hv ho
    by_cases hlt : j < n
    · obtain ⟨b, o, rfl, -, g0⟩ := (H.out.blw HB.out).2 j hlt
      have hlt' : (j : Int) < n := by omega
      clear H
      generalize hfj : f j = fj at *
      have HFJ : Hid (f j = fj) := hfj
      clear hfj
      go_wp2_with fail
      clear g0
      refine (l10Tk_any fj _).mono ?_
      rintro e w1 ⟨r, rfl, hr, hw1⟩
      subst hw1
      have HR : Hid (r = true ↔ tkOK fj) := hr
      clear hr
      cases r
      · have HN : Hid (¬ nwGood n f) := fun g => by have := HR.out.2 (by have := g.2 j hlt; rw [HFJ.out] at this; exact this); cases this
        clear HR HV HO HFJ
        go_wp2
        refine bodyPost_ret (v := .tuple #[.slice none 0 0, .bool false]) (by simp [results, Tryd.results11, go_sem]) rfl ⟨none, 0, 0, fun _ _ => 0, false, rfl, Or.inr ⟨HN.out, rfl, rfl, rfl⟩, KOwn.nil _ _ _ _ _, HB.out⟩
      have HG : Hid (tkOK fj) := HR.out.1 (by first | rfl | trivial)
      clear HR
      have q1 : (27720 : Int).tdiv fj = 27720 / fj := Int.tdiv_eq_ediv_of_nonneg (by omega)
      have q2 : ¬ fj = 0 := by have := HG.out; unfold tkOK at this; omega
      have q3 : IntKind.i64.wrap (27720 / fj) = 27720 / fj := by have h := stride_le HG.out.1; rw [IntKind.wrap_i64] <;> omega
      obtain ⟨a2, q, w4, r2, hv4, hm4⟩ := BufC.push HV.out (by omega) fj (27720 / fj) 0
      have hob : ∀ b, (u4).ownBlock = some b → w.heap.size ≤ b := fun b hb => (HV.out.2 b hb).1
      have HB4 : Hid (Blw w w4) := Mod.blw HB.out hm4 (fun i hi => hob i hi)
      have HV4 : Hid (BufC (fun x => w.heap.size ≤ x ∧ x < w4.heap.size) w4 (.slice a2 (j + 1) q) (j + 1) (newC f)) := Buf.congr (Buf.mono hv4 (fun b hb => ⟨hb.1.elim (fun h1 => h1.1) (fun h1 => Nat.le_trans HB.out.size h1), hb.2⟩)) (fun i hi => by
        unfold kc catC
        by_cases h1 : i / 3 < j
        · rw [if_pos h1]
        · have h2 : i / 3 = j := by omega
          rw [if_neg h1, h2]
          unfold newC
          rw [HFJ.out])
      have HO4 : Hid (∀ t, t < j + 1 → tkOK (f t)) := fun t ht => by
        by_cases e : t = j
        · rw [e, HFJ.out]; exact HG.out
        · exact HO.out t (by omega)
      have HR2 : Hid _ := r2
      clear hv4 hm4 hob HB HV HO r2 HFJ HG
      go_wp2_with (first | (at_builtin; refine wpList_append_at rfl (.tmp 16) (.tmp 21) 25 rfl ?_; refine ⟨_, _, HR2.out, ?_⟩) | fail)
      go_roundw
      case rel => exact ⟨j + 1, by omega, by go_num, HB4.out, HV4.out, HO4.out⟩
      case measure => simp [intOf]; omega
    · obtain rfl : j = n := by omega
      obtain ⟨a2, q, ev, hI⟩ := BufC.own HV.out (by omega)
      have HI : Hid (KOwn 3 (fun x => w.heap.size ≤ x ∧ x < wr.heap.size) wr a2 j (newC f)) := hI
      subst ev
      clear hI HV
      go_wp2_with fail
      refine (specGood_any a2 q j (newC f) _ _ HI.out.at).mono ?_
      rintro e w2 ⟨r, rfl, hr, hb⟩
      have HR : Hid (r = true ↔ nwGood j f) := hr.trans ⟨fun g => ⟨g.1, HO.out⟩, newC_good⟩
      have HB2 : Hid (Blw w w2) := HB.out.trans hb
      have HO2 : Hid (KOwn 3 (fun x => w.heap.size ≤ x ∧ x < w2.heap.size) w2 a2 j (newC f)) := (HI.out.blw hb).mono (fun x hx => ⟨hx.1, Nat.lt_of_lt_of_le hx.2 hb.size⟩)
      clear hr hb HO HB HI H
      cases r
      · have HN : Hid (¬ nwGood j f) := fun g => by have := HR.out.2 g; cases this
        clear HR HO2
        go_wp2
        refine bodyPost_ret (v := .tuple #[.slice none 0 0, .bool false]) (by simp [results, Tryd.results11, go_sem]) rfl ⟨none, 0, 0, fun _ _ => 0, false, rfl, Or.inr ⟨HN.out, rfl, rfl, rfl⟩, KOwn.nil _ _ _ _ _, HB2.out⟩
      have HG : Hid (nwGood j f) := HR.out.1 (by first | rfl | trivial)
      clear HR
      go_wp2
      refine bodyPost_ret (v := .tuple #[.slice a2 j q, .bool true]) (by simp [results, Tryd.results11, go_sem]) rfl ⟨_, j, q, newC f, true, rfl, Or.inl ⟨HG.out, rfl, rfl, rfl⟩, HO2.out, HB2.out⟩
end Go.Proofs.YtneafnfdemodnaaDoor
/- What the laws on clients want. -/
namespace Go.Proofs.YtneafnfdemodnaaDoor
open Go.RowKit
set_option linter.unusedSimpArgs false
set_option linter.unusedVariables false
theorem IntsAt.st9 {Y : Nat → Prop} {W : World} {ao : Option Addr} {n : Nat} {f : Nat → Int} (h : IntsAt Y W ao n f) (hY : ∀ b, Y b → b < W.heap.size) : St Y (fun W => IntsAt Y W ao n f) W := ⟨hY, fun Z w' hm hx => h.mod hm hx⟩
theorem IntsOwn.st9 {Y : Nat → Prop} {W : World} {ao : Option Addr} {n : Nat} {f : Nat → Int} (h : IntsOwn Y W ao n f) (hY : ∀ b, Y b → b < W.heap.size) : St Y (fun W => IntsOwn Y W ao n f) W :=
  ⟨hY, fun Z w' hm hx => ⟨h.1, fun hn => let ⟨b, hb, e, hr⟩ := h.2 hn; ⟨b, hb, e, hr.mod hm (hx _ hb)⟩⟩⟩
theorem KAt.st {K : Nat} {Y : Nat → Prop} {W : World} {ao : Option Addr} {n : Nat} {F : Nat → Nat → Int} (h : KAt K Y W ao n F) (hY : ∀ b, Y b → b < W.heap.size) : St Y (fun W => KAt K Y W ao n F) W :=
  ⟨hY, fun Z w' hm hx => h.mod hm hx⟩
theorem KOwn.st {K : Nat} {Y : Nat → Prop} {W : World} {ao : Option Addr} {n : Nat} {F : Nat → Nat → Int} (h : KOwn K Y W ao n F) (hY : ∀ b, Y b → b < W.heap.size) : St Y (fun W => KOwn K Y W ao n F) W :=
  ⟨hY, fun Z w' hm hx => h.mod hm hx⟩
theorem eqIntS_blw (a1 a2 : Option Addr) (c1 c2 : Nat) (n0 : Nat) (f : Nat → Int) {Y Z : Nat → Prop} (w : World) (h1 : IntsAt Y w a1 n0 f) (h2 : IntsAt Z w a2 n0 f) :
    Calls Tryd.prog 32 #[.slice a1 n0 c1, .slice a2 n0 c2] w fun e w' => e = .returned (.bool true) ∧ Blw w w' :=
  (eqIntS_same a1 a2 c1 c2 n0 f w h1 h2).mono (fun e w' h => ⟨h.1, by obtain ⟨n, hn⟩ := h.2; rw [hn]; exact Blw.drewN (Blw.refl w) n⟩)
theorem implStride9_any (t : Int) (w : World) (hT : Tb w) : Calls Tryd.prog 27 #[.int .i64 t] w fun e w' => ∃ s r, e = .returned (.tuple #[.int .i64 s, .bool r]) ∧ soOut t s r ∧ Blw w w' :=
  (implStride_any t w hT).mono fun e w' ⟨s, r, h1, h2, h3⟩ => ⟨s, r, h1, h2, by rw [h3]; exact Blw.refl _⟩
theorem specStride9_any (t : Int) (w : World) : Calls Tryd.prog 29 #[.int .i64 t] w fun e w' => ∃ s r, e = .returned (.tuple #[.int .i64 s, .bool r]) ∧ soOut t s r ∧ Blw w w' :=
  (specStride_any t w).mono fun e w' ⟨s, r, h1, h2, h3⟩ => ⟨s, r, h1, h2, by rw [h3]; exact Blw.refl _⟩
set_option maxHeartbeats 1600000 in
theorem sameClients_same (a1 a2 : Option Addr) (c1 c2 n0 : Nat) (F : Nat → Nat → Int) {Y Z : Nat → Prop} (w : World) (h1 : KAt 3 Y w a1 n0 F) (h2 : KAt 3 Z w a2 n0 F) :
    Calls Tryd.prog 12 #[.slice a1 n0 c1, .slice a2 n0 c2] w fun e w' => e = .returned (.bool true) ∧ Blw w w' := by
  have hl := h1.1
  have H1 : Hid (KAt 3 Y w a1 n0 F) := h1
  have H2 : Hid (KAt 3 Z w a2 n0 F) := h2
  clear h1 h2
  go_enter Tryd.func12, Tryd.ntmps12
  go_wp2
  go_loopw [13] (fun i wr => ∃ k : Nat, k ≤ n0 ∧ i = .int .i64 k ∧ Blw w wr) (fun i _ => n0 - (intOf i).toNat)
  case atStart => exact ⟨0, Nat.zero_le _, rfl, Blw.refl _⟩
  case round =>
    obtain ⟨k, hk, rfl, hb⟩ := hrel
    have HB : Hid (Blw w wr) := hb
    by_cases hlt : k < n0
    · obtain ⟨b, o, e1, -, g⟩ := (H1.out.blw hb).2 k hlt
      obtain ⟨b', o', e2, -, g'⟩ := (H2.out.blw hb).2 k hlt
      have g0 := g 0 (by omega)
      have g1 := g 1 (by omega)
      have g2 := g 2 (by omega)
      have k0 := g' 0 (by omega)
      have k1 := g' 1 (by omega)
      have k2 := g' 2 (by omega)
      rw [Nat.add_zero] at g0 k0
      subst e1 e2
      have hlt' : (k : Int) < n0 := by omega
      clear hb H1 H2 g g'
      go_wp2
      go_quiet (fail)
      go_wp2
      go_roundw
      case rel => exact ⟨k + 1, by omega, by go_num, by first | exact HB.out | exact HB.out.drew | exact HB.out.drewN _⟩
      case measure => simp [intOf]; omega
    · clear hb
      go_wp2
      go_ret
      exact ⟨rfl, HB.out⟩
end Go.Proofs.YtneafnfdemodnaaDoor
