/- The model's lists of free blocks. -/
import Derived.Test.YtfmmpddknanhbaaSpecF
namespace Go.Proofs.Ytfmmpddknanhbaa
open Go.RowKit
set_option linter.unusedSimpArgs false
set_option linter.unusedVariables false
theorem l5Free_is (b : BV) (c l : Nat → Int) (a : Nat) (k : Int) (Y : Nat → Prop) (w : World) (r0 : Bool) (g : BD.Good ⟨16, c, 16, l⟩) (hk : ordOK k) (ha : a + bsz k ≤ 16) (h : BookAt Y w b ⟨16, c, 16, l⟩) (hr : r0 = true ↔ fbP c a (bsz k)) :
    Calls Try.prog 90 #[b.val ⟨16, c, 16, l⟩, .int .i64 a, .int .i64 k] w fun e w' => e = .returned (.bool r0) ∧ Blw w w' :=
  (l5Free_any b c l a k Y w g hk ha h).mono fun e w' ⟨r, h1, h2, h3⟩ => by
    have : r = r0 := by cases r <;> cases r0 <;> simp_all
    subst this
    exact ⟨h1, h3⟩
theorem blkB_off {c : Nat → Int} {k a : Nat} (h : ¬ a % 2 ^ k = 0) : blkB c k a = false := blkB_no (fun m => h m.1.1)
theorem pk_jump {c : Nat → Int} {k a S : Nat} (hS : S = 2 ^ k) (ha : a % S = 0) : pk (blkB c k) (a + S) = if blkB c k a = true then pk (blkB c k) a ++ [a] else pk (blkB c k) a := by
  have hp : 1 ≤ S := by rw [hS]; exact Nat.two_pow_pos k
  have e : a + S = a + 1 + (S - 1) := by omega
  have hsk : pk (blkB c k) (a + 1 + (S - 1)) = pk (blkB c k) (a + 1) := pk_skip _ (fun t h1 h2 => blkB_off (by
    rw [← hS]
    have e1 : t = a + (t - a) := by omega
    rw [e1, Nat.add_mod, ha, Nat.zero_add, Nat.mod_mod, Nat.mod_eq_of_lt (show t - a < S by omega)]
    omega))
  rw [e, hsk]
  by_cases hb : blkB c k a = true
  · rw [if_pos hb, pk_yes hb]
  · rw [if_neg hb, pk_no (by simpa using hb)]
theorem mod_step {a S : Nat} (h : a % S = 0) : (a + S) % S = 0 := by rw [Nat.add_mod_right]; exact h
/-- What is known of a page a where a block of the order k may begin. -/
theorem blk_next {c : Nat → Int} {k : Int} {a : Nat} (hk : ordOK k) (hm : a % bsz k = 0) (ha : a < 16) :
    a + bsz k ≤ 16 ∧ (¬ fbP c a (bsz k) → pk (blkB c k.toNat) (a + bsz k) = pk (blkB c k.toNat) a) ∧ (k = 4 → fbP c a (bsz k) → pk (blkB c k.toNat) (a + bsz k) = pk (blkB c k.toNat) a ++ [a]) ∧
    (¬ k = 4 → ordOK (k + 1) ∧ bsz (k + 1) = 2 * bsz k ∧ a / (2 * bsz k) * (2 * bsz k) + 2 * bsz k ≤ 16 ∧ (fbP c a (bsz k) → fbP c (a / (2 * bsz k) * (2 * bsz k)) (bsz (k + 1)) → pk (blkB c k.toNat) (a + bsz k) = pk (blkB c k.toNat) a) ∧ (fbP c a (bsz k) → ¬ fbP c (a / (2 * bsz k) * (2 * bsz k)) (bsz (k + 1)) → pk (blkB c k.toNat) (a + bsz k) = pk (blkB c k.toNat) a ++ [a])) := by
  have hj := pk_jump (c := c) (k := k.toNat) (a := a) (S := bsz k) rfl hm
  have hb : (∃ m, maxB c k.toNat a ∧ m = 0) ∨ True := Or.inr trivial
  refine ⟨blk_fit hk ha hm, fun hn => ?_, fun h4 hf => ?_, fun h4 => ?_⟩
  · rw [hj, if_neg (by rw [blkB_no (fun m => hn m.1.2)]; simp)]
  · rw [hj, if_pos (blkB_yes ⟨⟨hm, hf⟩, Or.inl (by omega)⟩)]
  · have hk' : 0 ≤ k ∧ k ≤ 4 := hk
    have e2 : (k + 1).toNat = k.toNat + 1 := by omega
    have e1 : bsz (k + 1) = 2 * bsz k := by unfold bsz; rw [e2, Nat.pow_succ]; omega
    have e3 : 2 ^ (k.toNat + 1) = 2 * bsz k := by rw [← e1, ← e2]; rfl
    refine ⟨by unfold ordOK; omega, e1, ?_, fun hf hp => ?_, fun hf hp => ?_⟩
    · rcases ord_cases hk with ⟨rfl, e⟩ | ⟨rfl, e⟩ | ⟨rfl, e⟩ | ⟨rfl, e⟩ | ⟨rfl, e⟩ <;> rw [e] <;> omega
    · rw [hj, if_neg (by rw [blkB_no (fun m => m.2.elim (fun e => by omega) (fun e => e (by rw [e3, ← e1]; rw [← e1] at hp; exact hp)))]; simp)]
    · rw [hj, if_pos (blkB_yes ⟨⟨hm, hf⟩, Or.inr (by rw [e3, ← e1]; rw [← e1] at hp; exact hp)⟩)]
set_option maxRecDepth 10000 in
set_option maxHeartbeats 6400000 in
theorem l5Blocks_any (b : BV) (c l : Nat → Int) (k : Int) (Y : Nat → Prop) (w : World) (g : BD.Good ⟨16, c, 16, l⟩) (hk : ordOK k) (h : BookAt Y w b ⟨16, c, 16, l⟩) :
    Calls Try.prog 65 #[b.val ⟨16, c, 16, l⟩, .int .i64 k] w fun e w' => ∃ v, e = .returned v ∧ Gath w w' v (blocks c k.toNat) := by
  obtain ⟨a1, a2, c1, c2⟩ := b
  simp only [BV.val] at *
  have hb0 : Blw w (w.alloc (.cells #[.slice a1 16 c1, .slice a2 16 c2] 25)) := (Blw.refl _).alloc _
  have r0 := box2 w (.slice a1 16 c1) (.slice a2 16 c2) 25
  have HA : Hid (BookAt Y (w.alloc (.cells #[.slice a1 16 c1, .slice a2 16 c2] 25)) ⟨a1, a2, c1, c2⟩ ⟨16, c, 16, l⟩) := h.blw hb0
  have HG : Hid (BD.Good ⟨16, c, 16, l⟩) := g
  have HK : Hid (ordOK k) := hk
  clear h g
  have hsh := shl_u hk
  have hwk : IntKind.u64.wrap k = k := by have := hk; unfold ordOK at this; rw [IntKind.wrap_u64] <;> omega
  have hS1 := (bsz_le hk).1
  have hS16 := (bsz_le hk).2
  obtain ⟨S, hS⟩ : ∃ S, S = bsz k := ⟨_, rfl⟩
  rw [← hS] at hsh hS1 hS16
  have HS : Hid (S = bsz k) := hS
  clear hS hk
  go_enter Try.func65, Try.ntmps65
  go_wp2_with fail
  clear hsh hwk
  revert hb0 r0 HA
  generalize w.alloc (.cells #[.slice a1 16 c1, .slice a2 16 c2] 25) = w0
  intro hb0 r0 HA
  have HR0 : Hid (Row w0 w.heap.size 2 (fun i => if i = 0 then .slice a1 16 c1 else .slice a2 16 c2)) := r0
  have HB : Hid (Blw w w0) := hb0
  clear hb0 r0
  go_loopw [5, 7] (fun v i wr => ∃ a : Nat, a ≤ 16 ∧ a % S = 0 ∧ i = .int .i64 a ∧ Gath w0 wr v (pk (blkB c k.toNat) a)) (fun _ i _ => 16 - (intOf i).toNat)
  case atStart => exact ⟨0, by omega, Nat.zero_mod _, rfl, ⟨BufL.nil _ _, Blw.refl _⟩⟩
  case round =>
    obtain ⟨a, ha, ham, rfl, hG⟩ := hrel
    have HM : Hid (a % S = 0) := ham
    have HGA : Hid (Gath w0 wr u5 (pk (blkB c k.toNat) a)) := hG
    clear hG
    by_cases hlt : a < 16
    · have hlt' : (a : Int) < 16 := by omega
      obtain ⟨hfit, n1, n2, n3⟩ := blk_next (c := c) HK.out (by rw [← HS.out]; exact ham) hlt
      rw [← HS.out] at hfit n1 n2
      have HF1 : Hid (a + bsz k ≤ 16) := by rw [HS.out] at hfit; exact hfit
      have eS : IntKind.i64.wrap ((a : Int) + (S : Int)) = ((a + S : Nat) : Int) := by rw [IntKind.wrap_i64] <;> omega
      by_cases hf : fbP c a S
      case neg =>
        have FA : Hid (¬ fbP c a (bsz k)) := by rw [← HS.out]; exact hf
        have NX : Hid (pk (blkB c k.toNat) (a + S) = pk (blkB c k.toNat) a) := n1 hf
        clear n1 n2 n3 hf ham
        have HG0 : Hid (Gath w0 wr u5 (pk (blkB c k.toNat) a)) := HGA.out
        have P0 : ∀ w', Blw wr w' → w'.cell? ⟨w.heap.size, 0, none⟩ = some (.slice a1 16 c1) := fun w' hh => (get2 ((HR0.out.blw HG0.out.blw).blw hh)).1
        have P1 : ∀ w', Blw wr w' → w'.cell? ⟨w.heap.size, 1, none⟩ = some (.slice a2 16 c2) := fun w' hh => (get2 ((HR0.out.blw HG0.out.blw).blw hh)).2
        go_upto_region 6 with fail
        refine wp_region_noPanic ?_
        refine wp_region_held_drew (S := fun w' => Blw wr w') (by kernel_rfl) ((Blw.refl _).drew) (fun hB1 => ?_)
        revert hB1
        generalize wr.drew = wd1
        intro hB1
        refine wpAnyH_take (i := 0) (oi := { dst := some 16, op := Op.load 25 (Operand.tmp 2), type := 25, pos := _, after := #[], guard := none }) (v := (.agg #[.slice a1 16 c1, .slice a2 16 c2])) rfl (by kernel_rfl) (by kernel_rfl) (by kernel_rfl) (fun _ _ _ h => h) (Or.inl ⟨by rfl, fun w' hS => by (try dsimp only at hS); go_simp⟩) hB1 ?_
        simp only [Act.put, List.setIfInBounds_toArray, List.set_cons_zero, List.set_cons_succ]
        refine wpAnyH_take (i := 1) (oi := { dst := some 17, op := Op.move (Operand.tmp 7), type := 3, pos := _, after := #[], guard := none }) (v := (.int .i64 (a))) rfl (by kernel_rfl) (by kernel_rfl) (by kernel_rfl) (fun _ _ _ h => h) (Or.inl ⟨by rfl, fun w' hS => by (try dsimp only at hS); go_simp⟩) hB1 ?_
        simp only [Act.put, List.setIfInBounds_toArray, List.set_cons_zero, List.set_cons_succ]
        refine wpAnyH_take (i := 2) (oi := { dst := some 18, op := Op.move (Operand.tmp 1), type := 3, pos := _, after := #[], guard := none }) (v := (.int .i64 (k))) rfl (by kernel_rfl) (by kernel_rfl) (by kernel_rfl) (fun _ _ _ h => h) (Or.inl ⟨by rfl, fun w' hS => by (try dsimp only at hS); go_simp⟩) hB1 ?_
        simp only [Act.put, List.setIfInBounds_toArray, List.set_cons_zero, List.set_cons_succ]
        refine wpAnyH_ready (rs := [3]) (by kernel_rfl) (by simp) ?_
        refine AllReadyH.cons (o := { dst := some 19, op := Op.call { callee := Callee.value (Operand.func 90), args := #[Operand.tmp 16, Operand.tmp 17, Operand.tmp 18], argTypes := #[25, 3, 3] }, type := 4, pos := _, after := #[{ on := 0, ground := Ground.data }, { on := 1, ground := Ground.data }, { on := 2, ground := Ground.data }], guard := none }) rfl (fun K hK => ?_) AllReadyH.nil
        go_simp
        refine (l5Free_is ⟨a1, a2, c1, c2⟩ c l a k Y _ false HG.out HK.out HF1.out (HA.out.blw (HG0.out.blw.trans hB1)) (iff_f FA.out)).mono ?_
        rintro e wA ⟨rfl, hbA⟩
        refine hK.out _ _ (hB1.trans hbA) (fun hB2 => ?_)
        clear hK K
        try simp only [Act.put, List.setIfInBounds_toArray, List.set_cons_zero, List.set_cons_succ]
        refine wpAnyH_take (i := 4) (oi := { dst := some 20, op := Op.move (Operand.tmp 19), type := 4, pos := _, after := #[{ on := 3, ground := Ground.data }, { on := 3, ground := Ground.chain }], guard := none }) (v := (.bool false)) rfl (by kernel_rfl) (by kernel_rfl) (by kernel_rfl) (fun _ _ _ h => h) (Or.inl ⟨by rfl, fun w' hS => by (try dsimp only at hS); go_simp⟩) hB2 ?_
        simp only [Act.put, List.setIfInBounds_toArray, List.set_cons_zero, List.set_cons_succ]
        refine wpAnyH_take (i := 5) (oi := { dst := some 21, op := Op.move (Operand.tmp 1), type := 3, pos := _, after := #[{ on := 4, ground := Ground.guard }], guard := some (4, true) }) (v := undef) rfl (by kernel_rfl) (by kernel_rfl) (by kernel_rfl) (fun _ _ _ h => h) (Or.inr ⟨by rfl, rfl⟩) hB2 ?_
        simp only [Act.put, List.setIfInBounds_toArray, List.set_cons_zero, List.set_cons_succ]
        refine wpAnyH_take (i := 6) (oi := { dst := some 22, op := Op.binOp BinOp.eql 3 (Operand.tmp 21) (Operand.const (Value.int IntKind.i64 4)) 3, type := 4, pos := _, after := #[{ on := 5, ground := Ground.data }, { on := 4, ground := Ground.guard }], guard := some (4, true) }) (v := undef) rfl (by kernel_rfl) (by kernel_rfl) (by kernel_rfl) (fun _ _ _ h => h) (Or.inr ⟨by rfl, rfl⟩) hB2 ?_
        simp only [Act.put, List.setIfInBounds_toArray, List.set_cons_zero, List.set_cons_succ]
        refine wpAnyH_take (i := 7) (oi := { dst := some 23, op := Op.move (Operand.tmp 22), type := 4, pos := _, after := #[{ on := 6, ground := Ground.data }, { on := 4, ground := Ground.chain }, { on := 4, ground := Ground.guard }], guard := some (4, true) }) (v := undef) rfl (by kernel_rfl) (by kernel_rfl) (by kernel_rfl) (fun _ _ _ h => h) (Or.inr ⟨by rfl, rfl⟩) hB2 ?_
        simp only [Act.put, List.setIfInBounds_toArray, List.set_cons_zero, List.set_cons_succ]
        refine wpAnyH_take (i := 8) (oi := { dst := some 24, op := Op.load 25 (Operand.tmp 2), type := 25, pos := _, after := #[{ on := 7, ground := Ground.guard }], guard := some (7, false) }) (v := undef) rfl (by kernel_rfl) (by kernel_rfl) (by kernel_rfl) (fun _ _ _ h => h) (Or.inr ⟨by rfl, rfl⟩) hB2 ?_
        simp only [Act.put, List.setIfInBounds_toArray, List.set_cons_zero, List.set_cons_succ]
        refine wpAnyH_take (i := 9) (oi := { dst := some 25, op := Op.move (Operand.tmp 7), type := 3, pos := _, after := #[{ on := 7, ground := Ground.guard }], guard := some (7, false) }) (v := undef) rfl (by kernel_rfl) (by kernel_rfl) (by kernel_rfl) (fun _ _ _ h => h) (Or.inr ⟨by rfl, rfl⟩) hB2 ?_
        simp only [Act.put, List.setIfInBounds_toArray, List.set_cons_zero, List.set_cons_succ]
        refine wpAnyH_take (i := 10) (oi := { dst := some 26, op := Op.move (Operand.tmp 6), type := 3, pos := _, after := #[{ on := 7, ground := Ground.guard }], guard := some (7, false) }) (v := undef) rfl (by kernel_rfl) (by kernel_rfl) (by kernel_rfl) (fun _ _ _ h => h) (Or.inr ⟨by rfl, rfl⟩) hB2 ?_
        simp only [Act.put, List.setIfInBounds_toArray, List.set_cons_zero, List.set_cons_succ]
        refine wpAnyH_take (i := 11) (oi := { dst := some 27, op := Op.binOp BinOp.mul 3 (Operand.const (Value.int IntKind.i64 2)) (Operand.tmp 26) 3, type := 3, pos := _, after := #[{ on := 10, ground := Ground.data }, { on := 7, ground := Ground.guard }], guard := some (7, false) }) (v := undef) rfl (by kernel_rfl) (by kernel_rfl) (by kernel_rfl) (fun _ _ _ h => h) (Or.inr ⟨by rfl, rfl⟩) hB2 ?_
        simp only [Act.put, List.setIfInBounds_toArray, List.set_cons_zero, List.set_cons_succ]
        refine wpAnyH_take (i := 12) (oi := { dst := some 28, op := Op.binOp BinOp.quo 3 (Operand.tmp 25) (Operand.tmp 27) 3, type := 3, pos := _, after := #[{ on := 9, ground := Ground.data }, { on := 11, ground := Ground.data }, { on := 7, ground := Ground.guard }], guard := some (7, false) }) (v := undef) rfl (by kernel_rfl) (by kernel_rfl) (by kernel_rfl) (fun _ _ _ h => h) (Or.inr ⟨by rfl, rfl⟩) hB2 ?_
        simp only [Act.put, List.setIfInBounds_toArray, List.set_cons_zero, List.set_cons_succ]
        refine wpAnyH_take (i := 13) (oi := { dst := some 29, op := Op.move (Operand.tmp 6), type := 3, pos := _, after := #[{ on := 7, ground := Ground.guard }], guard := some (7, false) }) (v := undef) rfl (by kernel_rfl) (by kernel_rfl) (by kernel_rfl) (fun _ _ _ h => h) (Or.inr ⟨by rfl, rfl⟩) hB2 ?_
        simp only [Act.put, List.setIfInBounds_toArray, List.set_cons_zero, List.set_cons_succ]
        refine wpAnyH_take (i := 14) (oi := { dst := some 30, op := Op.binOp BinOp.mul 3 (Operand.const (Value.int IntKind.i64 2)) (Operand.tmp 29) 3, type := 3, pos := _, after := #[{ on := 13, ground := Ground.data }, { on := 7, ground := Ground.guard }], guard := some (7, false) }) (v := undef) rfl (by kernel_rfl) (by kernel_rfl) (by kernel_rfl) (fun _ _ _ h => h) (Or.inr ⟨by rfl, rfl⟩) hB2 ?_
        simp only [Act.put, List.setIfInBounds_toArray, List.set_cons_zero, List.set_cons_succ]
        refine wpAnyH_take (i := 15) (oi := { dst := some 31, op := Op.binOp BinOp.mul 3 (Operand.tmp 28) (Operand.tmp 30) 3, type := 3, pos := _, after := #[{ on := 12, ground := Ground.data }, { on := 14, ground := Ground.data }, { on := 7, ground := Ground.guard }], guard := some (7, false) }) (v := undef) rfl (by kernel_rfl) (by kernel_rfl) (by kernel_rfl) (fun _ _ _ h => h) (Or.inr ⟨by rfl, rfl⟩) hB2 ?_
        simp only [Act.put, List.setIfInBounds_toArray, List.set_cons_zero, List.set_cons_succ]
        refine wpAnyH_take (i := 16) (oi := { dst := some 32, op := Op.move (Operand.tmp 1), type := 3, pos := _, after := #[{ on := 7, ground := Ground.guard }], guard := some (7, false) }) (v := undef) rfl (by kernel_rfl) (by kernel_rfl) (by kernel_rfl) (fun _ _ _ h => h) (Or.inr ⟨by rfl, rfl⟩) hB2 ?_
        simp only [Act.put, List.setIfInBounds_toArray, List.set_cons_zero, List.set_cons_succ]
        refine wpAnyH_take (i := 17) (oi := { dst := some 33, op := Op.binOp BinOp.add 3 (Operand.tmp 32) (Operand.const (Value.int IntKind.i64 1)) 3, type := 3, pos := _, after := #[{ on := 16, ground := Ground.data }, { on := 7, ground := Ground.guard }], guard := some (7, false) }) (v := undef) rfl (by kernel_rfl) (by kernel_rfl) (by kernel_rfl) (fun _ _ _ h => h) (Or.inr ⟨by rfl, rfl⟩) hB2 ?_
        simp only [Act.put, List.setIfInBounds_toArray, List.set_cons_zero, List.set_cons_succ]
        refine wpAnyH_take (i := 18) (oi := { dst := some 34, op := Op.call { callee := Callee.value (Operand.func 90), args := #[Operand.tmp 24, Operand.tmp 31, Operand.tmp 33], argTypes := #[25, 3, 3] }, type := 4, pos := _, after := #[{ on := 8, ground := Ground.data }, { on := 15, ground := Ground.data }, { on := 17, ground := Ground.data }, { on := 7, ground := Ground.chain }, { on := 7, ground := Ground.guard }], guard := some (7, false) }) (v := undef) rfl (by kernel_rfl) (by kernel_rfl) (by kernel_rfl) (fun _ _ _ h => h) (Or.inr ⟨by rfl, rfl⟩) hB2 ?_
        simp only [Act.put, List.setIfInBounds_toArray, List.set_cons_zero, List.set_cons_succ]
        refine wpAnyH_take (i := 19) (oi := { dst := some 35, op := Op.unOp UnOp.not 4 (Operand.tmp 34), type := 4, pos := _, after := #[{ on := 18, ground := Ground.data }, { on := 7, ground := Ground.guard }], guard := some (7, false) }) (v := undef) rfl (by kernel_rfl) (by kernel_rfl) (by kernel_rfl) (fun _ _ _ h => h) (Or.inr ⟨by rfl, rfl⟩) hB2 ?_
        simp only [Act.put, List.setIfInBounds_toArray, List.set_cons_zero, List.set_cons_succ]
        refine wpAnyH_take (i := 20) (oi := { dst := some 36, op := Op.pick (Operand.tmp 23) (Operand.const (Value.bool true)) (Operand.tmp 35), type := 4, pos := _, after := #[{ on := 7, ground := Ground.data }, { on := 19, ground := Ground.data }, { on := 4, ground := Ground.guard }], guard := some (4, true) }) (v := undef) rfl (by kernel_rfl) (by kernel_rfl) (by kernel_rfl) (fun _ _ _ h => h) (Or.inr ⟨by rfl, rfl⟩) hB2 ?_
        simp only [Act.put, List.setIfInBounds_toArray, List.set_cons_zero, List.set_cons_succ]
        refine wpAnyH_take (i := 21) (oi := { dst := some 37, op := Op.pick (Operand.tmp 20) (Operand.tmp 36) (Operand.const (Value.bool false)), type := 4, pos := _, after := #[{ on := 4, ground := Ground.data }, { on := 20, ground := Ground.data }], guard := none }) (v := (.bool false)) rfl (by kernel_rfl) (by kernel_rfl) (by kernel_rfl) (fun _ _ _ h => h) (Or.inl ⟨by rfl, fun w' hS => by (try dsimp only at hS); go_simp⟩) hB2 ?_
        simp only [Act.put, List.setIfInBounds_toArray, List.set_cons_zero, List.set_cons_succ]
        refine wpAnyH_done (by kernel_rfl) ?_ _
        refine NoPanic.normal ?_
        have HN : Hid (Gath w0 _ u5 (pk (blkB c k.toNat) (a + S))) := (by rw [NX.out]; exact HG0.out.go hB2)
        clear HG0 P0 P1
        go_wp2
        go_roundw
        case rel => exact ⟨a + S, by omega, mod_step HM.out, by first | rfl | go_num, HN.out⟩
        case measure => simp [intOf]; omega
      have FA : Hid (fbP c a (bsz k)) := by rw [← HS.out]; exact hf
      by_cases h4 : k = 4
      · have d4 : (k == 4) = true := by simp [h4]
        have NX : Hid (pk (blkB c k.toNat) (a + S) = pk (blkB c k.toNat) a ++ [a]) := n2 h4 hf
        clear n1 n2 n3 hf ham h4
        have HG0 : Hid (Gath w0 wr u5 (pk (blkB c k.toNat) a)) := HGA.out
        have P0 : ∀ w', Blw wr w' → w'.cell? ⟨w.heap.size, 0, none⟩ = some (.slice a1 16 c1) := fun w' hh => (get2 ((HR0.out.blw HG0.out.blw).blw hh)).1
        have P1 : ∀ w', Blw wr w' → w'.cell? ⟨w.heap.size, 1, none⟩ = some (.slice a2 16 c2) := fun w' hh => (get2 ((HR0.out.blw HG0.out.blw).blw hh)).2
        go_upto_region 6 with fail
        refine wp_region_noPanic ?_
        refine wp_region_held_drew (S := fun w' => Blw wr w') (by kernel_rfl) ((Blw.refl _).drew) (fun hB1 => ?_)
        revert hB1
        generalize wr.drew = wd1
        intro hB1
        refine wpAnyH_take (i := 0) (oi := { dst := some 16, op := Op.load 25 (Operand.tmp 2), type := 25, pos := _, after := #[], guard := none }) (v := (.agg #[.slice a1 16 c1, .slice a2 16 c2])) rfl (by kernel_rfl) (by kernel_rfl) (by kernel_rfl) (fun _ _ _ h => h) (Or.inl ⟨by rfl, fun w' hS => by (try dsimp only at hS); go_simp⟩) hB1 ?_
        simp only [Act.put, List.setIfInBounds_toArray, List.set_cons_zero, List.set_cons_succ]
        refine wpAnyH_take (i := 1) (oi := { dst := some 17, op := Op.move (Operand.tmp 7), type := 3, pos := _, after := #[], guard := none }) (v := (.int .i64 (a))) rfl (by kernel_rfl) (by kernel_rfl) (by kernel_rfl) (fun _ _ _ h => h) (Or.inl ⟨by rfl, fun w' hS => by (try dsimp only at hS); go_simp⟩) hB1 ?_
        simp only [Act.put, List.setIfInBounds_toArray, List.set_cons_zero, List.set_cons_succ]
        refine wpAnyH_take (i := 2) (oi := { dst := some 18, op := Op.move (Operand.tmp 1), type := 3, pos := _, after := #[], guard := none }) (v := (.int .i64 (k))) rfl (by kernel_rfl) (by kernel_rfl) (by kernel_rfl) (fun _ _ _ h => h) (Or.inl ⟨by rfl, fun w' hS => by (try dsimp only at hS); go_simp⟩) hB1 ?_
        simp only [Act.put, List.setIfInBounds_toArray, List.set_cons_zero, List.set_cons_succ]
        refine wpAnyH_ready (rs := [3]) (by kernel_rfl) (by simp) ?_
        refine AllReadyH.cons (o := { dst := some 19, op := Op.call { callee := Callee.value (Operand.func 90), args := #[Operand.tmp 16, Operand.tmp 17, Operand.tmp 18], argTypes := #[25, 3, 3] }, type := 4, pos := _, after := #[{ on := 0, ground := Ground.data }, { on := 1, ground := Ground.data }, { on := 2, ground := Ground.data }], guard := none }) rfl (fun K hK => ?_) AllReadyH.nil
        go_simp
        refine (l5Free_is ⟨a1, a2, c1, c2⟩ c l a k Y _ true HG.out HK.out HF1.out (HA.out.blw (HG0.out.blw.trans hB1)) (iff_t FA.out)).mono ?_
        rintro e wA ⟨rfl, hbA⟩
        refine hK.out _ _ (hB1.trans hbA) (fun hB2 => ?_)
        clear hK K
        try simp only [Act.put, List.setIfInBounds_toArray, List.set_cons_zero, List.set_cons_succ]
        refine wpAnyH_take (i := 4) (oi := { dst := some 20, op := Op.move (Operand.tmp 19), type := 4, pos := _, after := #[{ on := 3, ground := Ground.data }, { on := 3, ground := Ground.chain }], guard := none }) (v := (.bool true)) rfl (by kernel_rfl) (by kernel_rfl) (by kernel_rfl) (fun _ _ _ h => h) (Or.inl ⟨by rfl, fun w' hS => by (try dsimp only at hS); go_simp⟩) hB2 ?_
        simp only [Act.put, List.setIfInBounds_toArray, List.set_cons_zero, List.set_cons_succ]
        refine wpAnyH_take (i := 5) (oi := { dst := some 21, op := Op.move (Operand.tmp 1), type := 3, pos := _, after := #[{ on := 4, ground := Ground.guard }], guard := some (4, true) }) (v := (.int .i64 (k))) rfl (by kernel_rfl) (by kernel_rfl) (by kernel_rfl) (fun _ _ _ h => h) (Or.inl ⟨by rfl, fun w' hS => by (try dsimp only at hS); go_simp⟩) hB2 ?_
        simp only [Act.put, List.setIfInBounds_toArray, List.set_cons_zero, List.set_cons_succ]
        refine wpAnyH_take (i := 6) (oi := { dst := some 22, op := Op.binOp BinOp.eql 3 (Operand.tmp 21) (Operand.const (Value.int IntKind.i64 4)) 3, type := 4, pos := _, after := #[{ on := 5, ground := Ground.data }, { on := 4, ground := Ground.guard }], guard := some (4, true) }) (v := (.bool true)) rfl (by kernel_rfl) (by kernel_rfl) (by kernel_rfl) (fun _ _ _ h => h) (Or.inl ⟨by rfl, fun w' hS => by (try dsimp only at hS); go_simp⟩) hB2 ?_
        simp only [Act.put, List.setIfInBounds_toArray, List.set_cons_zero, List.set_cons_succ]
        refine wpAnyH_take (i := 7) (oi := { dst := some 23, op := Op.move (Operand.tmp 22), type := 4, pos := _, after := #[{ on := 6, ground := Ground.data }, { on := 4, ground := Ground.chain }, { on := 4, ground := Ground.guard }], guard := some (4, true) }) (v := (.bool true)) rfl (by kernel_rfl) (by kernel_rfl) (by kernel_rfl) (fun _ _ _ h => h) (Or.inl ⟨by rfl, fun w' hS => by (try dsimp only at hS); go_simp⟩) hB2 ?_
        simp only [Act.put, List.setIfInBounds_toArray, List.set_cons_zero, List.set_cons_succ]
        refine wpAnyH_take (i := 8) (oi := { dst := some 24, op := Op.load 25 (Operand.tmp 2), type := 25, pos := _, after := #[{ on := 7, ground := Ground.guard }], guard := some (7, false) }) (v := undef) rfl (by kernel_rfl) (by kernel_rfl) (by kernel_rfl) (fun _ _ _ h => h) (Or.inr ⟨by rfl, rfl⟩) hB2 ?_
        simp only [Act.put, List.setIfInBounds_toArray, List.set_cons_zero, List.set_cons_succ]
        refine wpAnyH_take (i := 9) (oi := { dst := some 25, op := Op.move (Operand.tmp 7), type := 3, pos := _, after := #[{ on := 7, ground := Ground.guard }], guard := some (7, false) }) (v := undef) rfl (by kernel_rfl) (by kernel_rfl) (by kernel_rfl) (fun _ _ _ h => h) (Or.inr ⟨by rfl, rfl⟩) hB2 ?_
        simp only [Act.put, List.setIfInBounds_toArray, List.set_cons_zero, List.set_cons_succ]
        refine wpAnyH_take (i := 10) (oi := { dst := some 26, op := Op.move (Operand.tmp 6), type := 3, pos := _, after := #[{ on := 7, ground := Ground.guard }], guard := some (7, false) }) (v := undef) rfl (by kernel_rfl) (by kernel_rfl) (by kernel_rfl) (fun _ _ _ h => h) (Or.inr ⟨by rfl, rfl⟩) hB2 ?_
        simp only [Act.put, List.setIfInBounds_toArray, List.set_cons_zero, List.set_cons_succ]
        refine wpAnyH_take (i := 11) (oi := { dst := some 27, op := Op.binOp BinOp.mul 3 (Operand.const (Value.int IntKind.i64 2)) (Operand.tmp 26) 3, type := 3, pos := _, after := #[{ on := 10, ground := Ground.data }, { on := 7, ground := Ground.guard }], guard := some (7, false) }) (v := undef) rfl (by kernel_rfl) (by kernel_rfl) (by kernel_rfl) (fun _ _ _ h => h) (Or.inr ⟨by rfl, rfl⟩) hB2 ?_
        simp only [Act.put, List.setIfInBounds_toArray, List.set_cons_zero, List.set_cons_succ]
        refine wpAnyH_take (i := 12) (oi := { dst := some 28, op := Op.binOp BinOp.quo 3 (Operand.tmp 25) (Operand.tmp 27) 3, type := 3, pos := _, after := #[{ on := 9, ground := Ground.data }, { on := 11, ground := Ground.data }, { on := 7, ground := Ground.guard }], guard := some (7, false) }) (v := undef) rfl (by kernel_rfl) (by kernel_rfl) (by kernel_rfl) (fun _ _ _ h => h) (Or.inr ⟨by rfl, rfl⟩) hB2 ?_
        simp only [Act.put, List.setIfInBounds_toArray, List.set_cons_zero, List.set_cons_succ]
        refine wpAnyH_take (i := 13) (oi := { dst := some 29, op := Op.move (Operand.tmp 6), type := 3, pos := _, after := #[{ on := 7, ground := Ground.guard }], guard := some (7, false) }) (v := undef) rfl (by kernel_rfl) (by kernel_rfl) (by kernel_rfl) (fun _ _ _ h => h) (Or.inr ⟨by rfl, rfl⟩) hB2 ?_
        simp only [Act.put, List.setIfInBounds_toArray, List.set_cons_zero, List.set_cons_succ]
        refine wpAnyH_take (i := 14) (oi := { dst := some 30, op := Op.binOp BinOp.mul 3 (Operand.const (Value.int IntKind.i64 2)) (Operand.tmp 29) 3, type := 3, pos := _, after := #[{ on := 13, ground := Ground.data }, { on := 7, ground := Ground.guard }], guard := some (7, false) }) (v := undef) rfl (by kernel_rfl) (by kernel_rfl) (by kernel_rfl) (fun _ _ _ h => h) (Or.inr ⟨by rfl, rfl⟩) hB2 ?_
        simp only [Act.put, List.setIfInBounds_toArray, List.set_cons_zero, List.set_cons_succ]
        refine wpAnyH_take (i := 15) (oi := { dst := some 31, op := Op.binOp BinOp.mul 3 (Operand.tmp 28) (Operand.tmp 30) 3, type := 3, pos := _, after := #[{ on := 12, ground := Ground.data }, { on := 14, ground := Ground.data }, { on := 7, ground := Ground.guard }], guard := some (7, false) }) (v := undef) rfl (by kernel_rfl) (by kernel_rfl) (by kernel_rfl) (fun _ _ _ h => h) (Or.inr ⟨by rfl, rfl⟩) hB2 ?_
        simp only [Act.put, List.setIfInBounds_toArray, List.set_cons_zero, List.set_cons_succ]
        refine wpAnyH_take (i := 16) (oi := { dst := some 32, op := Op.move (Operand.tmp 1), type := 3, pos := _, after := #[{ on := 7, ground := Ground.guard }], guard := some (7, false) }) (v := undef) rfl (by kernel_rfl) (by kernel_rfl) (by kernel_rfl) (fun _ _ _ h => h) (Or.inr ⟨by rfl, rfl⟩) hB2 ?_
        simp only [Act.put, List.setIfInBounds_toArray, List.set_cons_zero, List.set_cons_succ]
        refine wpAnyH_take (i := 17) (oi := { dst := some 33, op := Op.binOp BinOp.add 3 (Operand.tmp 32) (Operand.const (Value.int IntKind.i64 1)) 3, type := 3, pos := _, after := #[{ on := 16, ground := Ground.data }, { on := 7, ground := Ground.guard }], guard := some (7, false) }) (v := undef) rfl (by kernel_rfl) (by kernel_rfl) (by kernel_rfl) (fun _ _ _ h => h) (Or.inr ⟨by rfl, rfl⟩) hB2 ?_
        simp only [Act.put, List.setIfInBounds_toArray, List.set_cons_zero, List.set_cons_succ]
        refine wpAnyH_take (i := 18) (oi := { dst := some 34, op := Op.call { callee := Callee.value (Operand.func 90), args := #[Operand.tmp 24, Operand.tmp 31, Operand.tmp 33], argTypes := #[25, 3, 3] }, type := 4, pos := _, after := #[{ on := 8, ground := Ground.data }, { on := 15, ground := Ground.data }, { on := 17, ground := Ground.data }, { on := 7, ground := Ground.chain }, { on := 7, ground := Ground.guard }], guard := some (7, false) }) (v := undef) rfl (by kernel_rfl) (by kernel_rfl) (by kernel_rfl) (fun _ _ _ h => h) (Or.inr ⟨by rfl, rfl⟩) hB2 ?_
        simp only [Act.put, List.setIfInBounds_toArray, List.set_cons_zero, List.set_cons_succ]
        refine wpAnyH_take (i := 19) (oi := { dst := some 35, op := Op.unOp UnOp.not 4 (Operand.tmp 34), type := 4, pos := _, after := #[{ on := 18, ground := Ground.data }, { on := 7, ground := Ground.guard }], guard := some (7, false) }) (v := undef) rfl (by kernel_rfl) (by kernel_rfl) (by kernel_rfl) (fun _ _ _ h => h) (Or.inr ⟨by rfl, rfl⟩) hB2 ?_
        simp only [Act.put, List.setIfInBounds_toArray, List.set_cons_zero, List.set_cons_succ]
        refine wpAnyH_take (i := 20) (oi := { dst := some 36, op := Op.pick (Operand.tmp 23) (Operand.const (Value.bool true)) (Operand.tmp 35), type := 4, pos := _, after := #[{ on := 7, ground := Ground.data }, { on := 19, ground := Ground.data }, { on := 4, ground := Ground.guard }], guard := some (4, true) }) (v := (.bool true)) rfl (by kernel_rfl) (by kernel_rfl) (by kernel_rfl) (fun _ _ _ h => h) (Or.inl ⟨by rfl, fun w' hS => by (try dsimp only at hS); go_simp⟩) hB2 ?_
        simp only [Act.put, List.setIfInBounds_toArray, List.set_cons_zero, List.set_cons_succ]
        refine wpAnyH_take (i := 21) (oi := { dst := some 37, op := Op.pick (Operand.tmp 20) (Operand.tmp 36) (Operand.const (Value.bool false)), type := 4, pos := _, after := #[{ on := 4, ground := Ground.data }, { on := 20, ground := Ground.data }], guard := none }) (v := (.bool true)) rfl (by kernel_rfl) (by kernel_rfl) (by kernel_rfl) (fun _ _ _ h => h) (Or.inl ⟨by rfl, fun w' hS => by (try dsimp only at hS); go_simp⟩) hB2 ?_
        simp only [Act.put, List.setIfInBounds_toArray, List.set_cons_zero, List.set_cons_succ]
        refine wpAnyH_done (by kernel_rfl) ?_ _
        refine NoPanic.normal ?_
        have HGN : Hid (Gath w0 _ u5 (pk (blkB c k.toNat) a)) := HG0.out.go hB2
        have hle := pk_len (blkB c k.toNat) a
        obtain ⟨ao, cap, w2, hrun, hG2⟩ := HGN.out.push (by omega) a
        have HRN : Hid _ := hrun
        have HN : Hid (Gath w0 w2 (.slice ao ((pk (blkB c k.toNat) a).length + 1) cap) (pk (blkB c k.toNat) (a + S))) := by rw [NX.out]; exact hG2
        clear hrun hG2 hle HGN HG0 P0 P1
        go_wp2_with (first | (at_builtin; refine wpList_app (.tmp 38) (.tmp 40) 23 (by rfl) ?_; refine ⟨_, _, HRN.out, ?_⟩) | fail)
        go_roundw
        case rel => exact ⟨a + S, by omega, mod_step HM.out, by first | rfl | go_num, HN.out⟩
        case measure => simp [intOf]; omega
      · have d4 : (k == 4) = false := by simp [h4]
        obtain ⟨m1, m2, m3, m4, m5⟩ := n3 h4
        have HK1 : Hid (ordOK (k + 1)) := m1
        have ek : IntKind.i64.wrap (k + 1) = k + 1 := by have := HK.out; unfold ordOK at this; rw [IntKind.wrap_i64] <;> omega
        have HM2 : Hid (bsz (k + 1) = 2 * bsz k) := m2
        rw [← HS.out] at m3 m4 m5
        clear n1 n2 n3 h4 m1 m2
        obtain ⟨k1, hk1⟩ : ∃ k1, k1 = k + 1 := ⟨_, rfl⟩
        rw [← hk1] at HK1 HM2 m4 m5
        replace ek : IntKind.i64.wrap (k + 1) = k1 := by rw [hk1]; exact ek
        clear hk1
        rw [← HS.out] at HM2
        have eD : IntKind.i64.wrap (2 * (S : Int)) = ((2 * S : Nat) : Int) := by rw [IntKind.wrap_i64] <;> omega
        have hD0 : 1 ≤ 2 * S := by omega
        have hD1 : 2 * S ≤ 32 := by omega
        obtain ⟨D, hD⟩ : ∃ D, D = 2 * S := ⟨_, rfl⟩
        rw [← hD] at HM2 m3 m4 m5 eD hD0 hD1
        clear hD
        have q0 : ¬ (D : Int) = 0 := by omega
        have q9 : ¬ D = 0 := by omega
        have q8 : IntKind.i64.wrap ((a / D : Nat) : Int) = ((a / D : Nat) : Int) := by have := Nat.div_le_self a D; generalize a / D = y at *; rw [IntKind.wrap_i64] <;> omega
        have q1 : Int.tdiv (a : Int) (D : Int) = ((a / D : Nat) : Int) := by rw [Int.tdiv_eq_ediv_of_nonneg (by omega)]; rfl
        have q5 : ((a / D : Nat) : Int) * (D : Int) = ((a / D * D : Nat) : Int) := by rw [Int.natCast_mul]
        have q4 := Nat.div_mul_le_self a D
        have q2 : IntKind.i64.wrap (((a / D : Nat) : Int) * (D : Int)) = ((a / D * D : Nat) : Int) := by rw [q5, IntKind.wrap_i64] <;> omega
        clear q5 q4
        obtain ⟨Q, hQ⟩ : ∃ Q, Q = a / D := ⟨_, rfl⟩
        rw [← hQ] at q1 q2 q8 m3 m4 m5
        obtain ⟨P, hP⟩ : ∃ P, P = Q * D := ⟨_, rfl⟩
        rw [← hP] at q2 m3 m4 m5
        clear hQ hP
        have HF2 : Hid (P + bsz k1 ≤ 16) := by rw [HM2.out]; exact m3
        by_cases hp : fbP c P (bsz k1)
        · have FP : Hid (fbP c P (bsz k1)) := hp
          have NX : Hid (pk (blkB c k.toNat) (a + S) = pk (blkB c k.toNat) a) := m4 hf hp
          clear m3 m4 m5 hf hp ham hD0 hD1
          have HG0 : Hid (Gath w0 wr u5 (pk (blkB c k.toNat) a)) := HGA.out
          have P0 : ∀ w', Blw wr w' → w'.cell? ⟨w.heap.size, 0, none⟩ = some (.slice a1 16 c1) := fun w' hh => (get2 ((HR0.out.blw HG0.out.blw).blw hh)).1
          have P1 : ∀ w', Blw wr w' → w'.cell? ⟨w.heap.size, 1, none⟩ = some (.slice a2 16 c2) := fun w' hh => (get2 ((HR0.out.blw HG0.out.blw).blw hh)).2
          go_upto_region 6 with fail
          refine wp_region_noPanic ?_
          refine wp_region_held_drew (S := fun w' => Blw wr w') (by kernel_rfl) ((Blw.refl _).drew) (fun hB1 => ?_)
          revert hB1
          generalize wr.drew = wd1
          intro hB1
          refine wpAnyH_take (i := 0) (oi := { dst := some 16, op := Op.load 25 (Operand.tmp 2), type := 25, pos := _, after := #[], guard := none }) (v := (.agg #[.slice a1 16 c1, .slice a2 16 c2])) rfl (by kernel_rfl) (by kernel_rfl) (by kernel_rfl) (fun _ _ _ h => h) (Or.inl ⟨by rfl, fun w' hS => by (try dsimp only at hS); go_simp⟩) hB1 ?_
          simp only [Act.put, List.setIfInBounds_toArray, List.set_cons_zero, List.set_cons_succ]
          refine wpAnyH_take (i := 1) (oi := { dst := some 17, op := Op.move (Operand.tmp 7), type := 3, pos := _, after := #[], guard := none }) (v := (.int .i64 (a))) rfl (by kernel_rfl) (by kernel_rfl) (by kernel_rfl) (fun _ _ _ h => h) (Or.inl ⟨by rfl, fun w' hS => by (try dsimp only at hS); go_simp⟩) hB1 ?_
          simp only [Act.put, List.setIfInBounds_toArray, List.set_cons_zero, List.set_cons_succ]
          refine wpAnyH_take (i := 2) (oi := { dst := some 18, op := Op.move (Operand.tmp 1), type := 3, pos := _, after := #[], guard := none }) (v := (.int .i64 (k))) rfl (by kernel_rfl) (by kernel_rfl) (by kernel_rfl) (fun _ _ _ h => h) (Or.inl ⟨by rfl, fun w' hS => by (try dsimp only at hS); go_simp⟩) hB1 ?_
          simp only [Act.put, List.setIfInBounds_toArray, List.set_cons_zero, List.set_cons_succ]
          refine wpAnyH_ready (rs := [3]) (by kernel_rfl) (by simp) ?_
          refine AllReadyH.cons (o := { dst := some 19, op := Op.call { callee := Callee.value (Operand.func 90), args := #[Operand.tmp 16, Operand.tmp 17, Operand.tmp 18], argTypes := #[25, 3, 3] }, type := 4, pos := _, after := #[{ on := 0, ground := Ground.data }, { on := 1, ground := Ground.data }, { on := 2, ground := Ground.data }], guard := none }) rfl (fun K hK => ?_) AllReadyH.nil
          go_simp
          refine (l5Free_is ⟨a1, a2, c1, c2⟩ c l a k Y _ true HG.out HK.out HF1.out (HA.out.blw (HG0.out.blw.trans hB1)) (iff_t FA.out)).mono ?_
          rintro e wA ⟨rfl, hbA⟩
          refine hK.out _ _ (hB1.trans hbA) (fun hB2 => ?_)
          clear hK K
          try simp only [Act.put, List.setIfInBounds_toArray, List.set_cons_zero, List.set_cons_succ]
          refine wpAnyH_take (i := 4) (oi := { dst := some 20, op := Op.move (Operand.tmp 19), type := 4, pos := _, after := #[{ on := 3, ground := Ground.data }, { on := 3, ground := Ground.chain }], guard := none }) (v := (.bool true)) rfl (by kernel_rfl) (by kernel_rfl) (by kernel_rfl) (fun _ _ _ h => h) (Or.inl ⟨by rfl, fun w' hS => by (try dsimp only at hS); go_simp⟩) hB2 ?_
          simp only [Act.put, List.setIfInBounds_toArray, List.set_cons_zero, List.set_cons_succ]
          refine wpAnyH_take (i := 5) (oi := { dst := some 21, op := Op.move (Operand.tmp 1), type := 3, pos := _, after := #[{ on := 4, ground := Ground.guard }], guard := some (4, true) }) (v := (.int .i64 (k))) rfl (by kernel_rfl) (by kernel_rfl) (by kernel_rfl) (fun _ _ _ h => h) (Or.inl ⟨by rfl, fun w' hS => by (try dsimp only at hS); go_simp⟩) hB2 ?_
          simp only [Act.put, List.setIfInBounds_toArray, List.set_cons_zero, List.set_cons_succ]
          refine wpAnyH_take (i := 6) (oi := { dst := some 22, op := Op.binOp BinOp.eql 3 (Operand.tmp 21) (Operand.const (Value.int IntKind.i64 4)) 3, type := 4, pos := _, after := #[{ on := 5, ground := Ground.data }, { on := 4, ground := Ground.guard }], guard := some (4, true) }) (v := (.bool false)) rfl (by kernel_rfl) (by kernel_rfl) (by kernel_rfl) (fun _ _ _ h => h) (Or.inl ⟨by rfl, fun w' hS => by (try dsimp only at hS); go_simp⟩) hB2 ?_
          simp only [Act.put, List.setIfInBounds_toArray, List.set_cons_zero, List.set_cons_succ]
          refine wpAnyH_take (i := 7) (oi := { dst := some 23, op := Op.move (Operand.tmp 22), type := 4, pos := _, after := #[{ on := 6, ground := Ground.data }, { on := 4, ground := Ground.chain }, { on := 4, ground := Ground.guard }], guard := some (4, true) }) (v := (.bool false)) rfl (by kernel_rfl) (by kernel_rfl) (by kernel_rfl) (fun _ _ _ h => h) (Or.inl ⟨by rfl, fun w' hS => by (try dsimp only at hS); go_simp⟩) hB2 ?_
          simp only [Act.put, List.setIfInBounds_toArray, List.set_cons_zero, List.set_cons_succ]
          refine wpAnyH_take (i := 8) (oi := { dst := some 24, op := Op.load 25 (Operand.tmp 2), type := 25, pos := _, after := #[{ on := 7, ground := Ground.guard }], guard := some (7, false) }) (v := (.agg #[.slice a1 16 c1, .slice a2 16 c2])) rfl (by kernel_rfl) (by kernel_rfl) (by kernel_rfl) (fun _ _ _ h => h) (Or.inl ⟨by rfl, fun w' hS => by (try dsimp only at hS); go_simp⟩) hB2 ?_
          simp only [Act.put, List.setIfInBounds_toArray, List.set_cons_zero, List.set_cons_succ]
          refine wpAnyH_take (i := 9) (oi := { dst := some 25, op := Op.move (Operand.tmp 7), type := 3, pos := _, after := #[{ on := 7, ground := Ground.guard }], guard := some (7, false) }) (v := (.int .i64 (a))) rfl (by kernel_rfl) (by kernel_rfl) (by kernel_rfl) (fun _ _ _ h => h) (Or.inl ⟨by rfl, fun w' hS => by (try dsimp only at hS); go_simp⟩) hB2 ?_
          simp only [Act.put, List.setIfInBounds_toArray, List.set_cons_zero, List.set_cons_succ]
          refine wpAnyH_take (i := 10) (oi := { dst := some 26, op := Op.move (Operand.tmp 6), type := 3, pos := _, after := #[{ on := 7, ground := Ground.guard }], guard := some (7, false) }) (v := (.int .i64 (S))) rfl (by kernel_rfl) (by kernel_rfl) (by kernel_rfl) (fun _ _ _ h => h) (Or.inl ⟨by rfl, fun w' hS => by (try dsimp only at hS); go_simp⟩) hB2 ?_
          simp only [Act.put, List.setIfInBounds_toArray, List.set_cons_zero, List.set_cons_succ]
          refine wpAnyH_take (i := 11) (oi := { dst := some 27, op := Op.binOp BinOp.mul 3 (Operand.const (Value.int IntKind.i64 2)) (Operand.tmp 26) 3, type := 3, pos := _, after := #[{ on := 10, ground := Ground.data }, { on := 7, ground := Ground.guard }], guard := some (7, false) }) (v := (.int .i64 (D))) rfl (by kernel_rfl) (by kernel_rfl) (by kernel_rfl) (fun _ _ _ h => h) (Or.inl ⟨by rfl, fun w' hS => by (try dsimp only at hS); go_simp⟩) hB2 ?_
          simp only [Act.put, List.setIfInBounds_toArray, List.set_cons_zero, List.set_cons_succ]
          refine wpAnyH_take (i := 12) (oi := { dst := some 28, op := Op.binOp BinOp.quo 3 (Operand.tmp 25) (Operand.tmp 27) 3, type := 3, pos := _, after := #[{ on := 9, ground := Ground.data }, { on := 11, ground := Ground.data }, { on := 7, ground := Ground.guard }], guard := some (7, false) }) (v := (.int .i64 (Q))) rfl (by kernel_rfl) (by kernel_rfl) (by kernel_rfl) (fun _ _ _ h => h) (Or.inl ⟨by rfl, fun w' hS => by (try dsimp only at hS); go_simp⟩) hB2 ?_
          simp only [Act.put, List.setIfInBounds_toArray, List.set_cons_zero, List.set_cons_succ]
          refine wpAnyH_take (i := 13) (oi := { dst := some 29, op := Op.move (Operand.tmp 6), type := 3, pos := _, after := #[{ on := 7, ground := Ground.guard }], guard := some (7, false) }) (v := (.int .i64 (S))) rfl (by kernel_rfl) (by kernel_rfl) (by kernel_rfl) (fun _ _ _ h => h) (Or.inl ⟨by rfl, fun w' hS => by (try dsimp only at hS); go_simp⟩) hB2 ?_
          simp only [Act.put, List.setIfInBounds_toArray, List.set_cons_zero, List.set_cons_succ]
          refine wpAnyH_take (i := 14) (oi := { dst := some 30, op := Op.binOp BinOp.mul 3 (Operand.const (Value.int IntKind.i64 2)) (Operand.tmp 29) 3, type := 3, pos := _, after := #[{ on := 13, ground := Ground.data }, { on := 7, ground := Ground.guard }], guard := some (7, false) }) (v := (.int .i64 (D))) rfl (by kernel_rfl) (by kernel_rfl) (by kernel_rfl) (fun _ _ _ h => h) (Or.inl ⟨by rfl, fun w' hS => by (try dsimp only at hS); go_simp⟩) hB2 ?_
          simp only [Act.put, List.setIfInBounds_toArray, List.set_cons_zero, List.set_cons_succ]
          refine wpAnyH_take (i := 15) (oi := { dst := some 31, op := Op.binOp BinOp.mul 3 (Operand.tmp 28) (Operand.tmp 30) 3, type := 3, pos := _, after := #[{ on := 12, ground := Ground.data }, { on := 14, ground := Ground.data }, { on := 7, ground := Ground.guard }], guard := some (7, false) }) (v := (.int .i64 (P))) rfl (by kernel_rfl) (by kernel_rfl) (by kernel_rfl) (fun _ _ _ h => h) (Or.inl ⟨by rfl, fun w' hS => by (try dsimp only at hS); go_simp⟩) hB2 ?_
          simp only [Act.put, List.setIfInBounds_toArray, List.set_cons_zero, List.set_cons_succ]
          refine wpAnyH_take (i := 16) (oi := { dst := some 32, op := Op.move (Operand.tmp 1), type := 3, pos := _, after := #[{ on := 7, ground := Ground.guard }], guard := some (7, false) }) (v := (.int .i64 (k))) rfl (by kernel_rfl) (by kernel_rfl) (by kernel_rfl) (fun _ _ _ h => h) (Or.inl ⟨by rfl, fun w' hS => by (try dsimp only at hS); go_simp⟩) hB2 ?_
          simp only [Act.put, List.setIfInBounds_toArray, List.set_cons_zero, List.set_cons_succ]
          refine wpAnyH_take (i := 17) (oi := { dst := some 33, op := Op.binOp BinOp.add 3 (Operand.tmp 32) (Operand.const (Value.int IntKind.i64 1)) 3, type := 3, pos := _, after := #[{ on := 16, ground := Ground.data }, { on := 7, ground := Ground.guard }], guard := some (7, false) }) (v := (.int .i64 (k1))) rfl (by kernel_rfl) (by kernel_rfl) (by kernel_rfl) (fun _ _ _ h => h) (Or.inl ⟨by rfl, fun w' hS => by (try dsimp only at hS); go_simp⟩) hB2 ?_
          simp only [Act.put, List.setIfInBounds_toArray, List.set_cons_zero, List.set_cons_succ]
          refine wpAnyH_ready (rs := [18]) (by kernel_rfl) (by simp) ?_
          refine AllReadyH.cons (o := { dst := some 34, op := Op.call { callee := Callee.value (Operand.func 90), args := #[Operand.tmp 24, Operand.tmp 31, Operand.tmp 33], argTypes := #[25, 3, 3] }, type := 4, pos := _, after := #[{ on := 8, ground := Ground.data }, { on := 15, ground := Ground.data }, { on := 17, ground := Ground.data }, { on := 7, ground := Ground.chain }, { on := 7, ground := Ground.guard }], guard := some (7, false) }) rfl (fun K hK => ?_) AllReadyH.nil
          go_simp
          refine (l5Free_is ⟨a1, a2, c1, c2⟩ c l P k1 Y _ true HG.out HK1.out HF2.out (HA.out.blw (HG0.out.blw.trans hB2)) (iff_t FP.out)).mono ?_
          rintro e wB ⟨rfl, hbB⟩
          refine hK.out _ _ (hB2.trans hbB) (fun hB3 => ?_)
          clear hK K
          try simp only [Act.put, List.setIfInBounds_toArray, List.set_cons_zero, List.set_cons_succ]
          refine wpAnyH_take (i := 19) (oi := { dst := some 35, op := Op.unOp UnOp.not 4 (Operand.tmp 34), type := 4, pos := _, after := #[{ on := 18, ground := Ground.data }, { on := 7, ground := Ground.guard }], guard := some (7, false) }) (v := (.bool false)) rfl (by kernel_rfl) (by kernel_rfl) (by kernel_rfl) (fun _ _ _ h => h) (Or.inl ⟨by rfl, fun w' hS => by (try dsimp only at hS); go_simp⟩) hB3 ?_
          simp only [Act.put, List.setIfInBounds_toArray, List.set_cons_zero, List.set_cons_succ]
          refine wpAnyH_take (i := 20) (oi := { dst := some 36, op := Op.pick (Operand.tmp 23) (Operand.const (Value.bool true)) (Operand.tmp 35), type := 4, pos := _, after := #[{ on := 7, ground := Ground.data }, { on := 19, ground := Ground.data }, { on := 4, ground := Ground.guard }], guard := some (4, true) }) (v := (.bool false)) rfl (by kernel_rfl) (by kernel_rfl) (by kernel_rfl) (fun _ _ _ h => h) (Or.inl ⟨by rfl, fun w' hS => by (try dsimp only at hS); go_simp⟩) hB3 ?_
          simp only [Act.put, List.setIfInBounds_toArray, List.set_cons_zero, List.set_cons_succ]
          refine wpAnyH_take (i := 21) (oi := { dst := some 37, op := Op.pick (Operand.tmp 20) (Operand.tmp 36) (Operand.const (Value.bool false)), type := 4, pos := _, after := #[{ on := 4, ground := Ground.data }, { on := 20, ground := Ground.data }], guard := none }) (v := (.bool false)) rfl (by kernel_rfl) (by kernel_rfl) (by kernel_rfl) (fun _ _ _ h => h) (Or.inl ⟨by rfl, fun w' hS => by (try dsimp only at hS); go_simp⟩) hB3 ?_
          simp only [Act.put, List.setIfInBounds_toArray, List.set_cons_zero, List.set_cons_succ]
          refine wpAnyH_done (by kernel_rfl) ?_ _
          refine NoPanic.normal ?_
          have HN : Hid (Gath w0 _ u5 (pk (blkB c k.toNat) (a + S))) := (by rw [NX.out]; exact HG0.out.go hB3)
          clear HG0 P0 P1
          go_wp2
          go_roundw
          case rel => exact ⟨a + S, by omega, mod_step HM.out, by first | rfl | go_num, HN.out⟩
          case measure => simp [intOf]; omega
        · have FP : Hid (¬ fbP c P (bsz k1)) := hp
          have NX : Hid (pk (blkB c k.toNat) (a + S) = pk (blkB c k.toNat) a ++ [a]) := m5 hf hp
          clear m3 m4 m5 hf hp ham hD0 hD1
          have HG0 : Hid (Gath w0 wr u5 (pk (blkB c k.toNat) a)) := HGA.out
          have P0 : ∀ w', Blw wr w' → w'.cell? ⟨w.heap.size, 0, none⟩ = some (.slice a1 16 c1) := fun w' hh => (get2 ((HR0.out.blw HG0.out.blw).blw hh)).1
          have P1 : ∀ w', Blw wr w' → w'.cell? ⟨w.heap.size, 1, none⟩ = some (.slice a2 16 c2) := fun w' hh => (get2 ((HR0.out.blw HG0.out.blw).blw hh)).2
          go_upto_region 6 with fail
          refine wp_region_noPanic ?_
          refine wp_region_held_drew (S := fun w' => Blw wr w') (by kernel_rfl) ((Blw.refl _).drew) (fun hB1 => ?_)
          revert hB1
          generalize wr.drew = wd1
          intro hB1
          refine wpAnyH_take (i := 0) (oi := { dst := some 16, op := Op.load 25 (Operand.tmp 2), type := 25, pos := _, after := #[], guard := none }) (v := (.agg #[.slice a1 16 c1, .slice a2 16 c2])) rfl (by kernel_rfl) (by kernel_rfl) (by kernel_rfl) (fun _ _ _ h => h) (Or.inl ⟨by rfl, fun w' hS => by (try dsimp only at hS); go_simp⟩) hB1 ?_
          simp only [Act.put, List.setIfInBounds_toArray, List.set_cons_zero, List.set_cons_succ]
          refine wpAnyH_take (i := 1) (oi := { dst := some 17, op := Op.move (Operand.tmp 7), type := 3, pos := _, after := #[], guard := none }) (v := (.int .i64 (a))) rfl (by kernel_rfl) (by kernel_rfl) (by kernel_rfl) (fun _ _ _ h => h) (Or.inl ⟨by rfl, fun w' hS => by (try dsimp only at hS); go_simp⟩) hB1 ?_
          simp only [Act.put, List.setIfInBounds_toArray, List.set_cons_zero, List.set_cons_succ]
          refine wpAnyH_take (i := 2) (oi := { dst := some 18, op := Op.move (Operand.tmp 1), type := 3, pos := _, after := #[], guard := none }) (v := (.int .i64 (k))) rfl (by kernel_rfl) (by kernel_rfl) (by kernel_rfl) (fun _ _ _ h => h) (Or.inl ⟨by rfl, fun w' hS => by (try dsimp only at hS); go_simp⟩) hB1 ?_
          simp only [Act.put, List.setIfInBounds_toArray, List.set_cons_zero, List.set_cons_succ]
          refine wpAnyH_ready (rs := [3]) (by kernel_rfl) (by simp) ?_
          refine AllReadyH.cons (o := { dst := some 19, op := Op.call { callee := Callee.value (Operand.func 90), args := #[Operand.tmp 16, Operand.tmp 17, Operand.tmp 18], argTypes := #[25, 3, 3] }, type := 4, pos := _, after := #[{ on := 0, ground := Ground.data }, { on := 1, ground := Ground.data }, { on := 2, ground := Ground.data }], guard := none }) rfl (fun K hK => ?_) AllReadyH.nil
          go_simp
          refine (l5Free_is ⟨a1, a2, c1, c2⟩ c l a k Y _ true HG.out HK.out HF1.out (HA.out.blw (HG0.out.blw.trans hB1)) (iff_t FA.out)).mono ?_
          rintro e wA ⟨rfl, hbA⟩
          refine hK.out _ _ (hB1.trans hbA) (fun hB2 => ?_)
          clear hK K
          try simp only [Act.put, List.setIfInBounds_toArray, List.set_cons_zero, List.set_cons_succ]
          refine wpAnyH_take (i := 4) (oi := { dst := some 20, op := Op.move (Operand.tmp 19), type := 4, pos := _, after := #[{ on := 3, ground := Ground.data }, { on := 3, ground := Ground.chain }], guard := none }) (v := (.bool true)) rfl (by kernel_rfl) (by kernel_rfl) (by kernel_rfl) (fun _ _ _ h => h) (Or.inl ⟨by rfl, fun w' hS => by (try dsimp only at hS); go_simp⟩) hB2 ?_
          simp only [Act.put, List.setIfInBounds_toArray, List.set_cons_zero, List.set_cons_succ]
          refine wpAnyH_take (i := 5) (oi := { dst := some 21, op := Op.move (Operand.tmp 1), type := 3, pos := _, after := #[{ on := 4, ground := Ground.guard }], guard := some (4, true) }) (v := (.int .i64 (k))) rfl (by kernel_rfl) (by kernel_rfl) (by kernel_rfl) (fun _ _ _ h => h) (Or.inl ⟨by rfl, fun w' hS => by (try dsimp only at hS); go_simp⟩) hB2 ?_
          simp only [Act.put, List.setIfInBounds_toArray, List.set_cons_zero, List.set_cons_succ]
          refine wpAnyH_take (i := 6) (oi := { dst := some 22, op := Op.binOp BinOp.eql 3 (Operand.tmp 21) (Operand.const (Value.int IntKind.i64 4)) 3, type := 4, pos := _, after := #[{ on := 5, ground := Ground.data }, { on := 4, ground := Ground.guard }], guard := some (4, true) }) (v := (.bool false)) rfl (by kernel_rfl) (by kernel_rfl) (by kernel_rfl) (fun _ _ _ h => h) (Or.inl ⟨by rfl, fun w' hS => by (try dsimp only at hS); go_simp⟩) hB2 ?_
          simp only [Act.put, List.setIfInBounds_toArray, List.set_cons_zero, List.set_cons_succ]
          refine wpAnyH_take (i := 7) (oi := { dst := some 23, op := Op.move (Operand.tmp 22), type := 4, pos := _, after := #[{ on := 6, ground := Ground.data }, { on := 4, ground := Ground.chain }, { on := 4, ground := Ground.guard }], guard := some (4, true) }) (v := (.bool false)) rfl (by kernel_rfl) (by kernel_rfl) (by kernel_rfl) (fun _ _ _ h => h) (Or.inl ⟨by rfl, fun w' hS => by (try dsimp only at hS); go_simp⟩) hB2 ?_
          simp only [Act.put, List.setIfInBounds_toArray, List.set_cons_zero, List.set_cons_succ]
          refine wpAnyH_take (i := 8) (oi := { dst := some 24, op := Op.load 25 (Operand.tmp 2), type := 25, pos := _, after := #[{ on := 7, ground := Ground.guard }], guard := some (7, false) }) (v := (.agg #[.slice a1 16 c1, .slice a2 16 c2])) rfl (by kernel_rfl) (by kernel_rfl) (by kernel_rfl) (fun _ _ _ h => h) (Or.inl ⟨by rfl, fun w' hS => by (try dsimp only at hS); go_simp⟩) hB2 ?_
          simp only [Act.put, List.setIfInBounds_toArray, List.set_cons_zero, List.set_cons_succ]
          refine wpAnyH_take (i := 9) (oi := { dst := some 25, op := Op.move (Operand.tmp 7), type := 3, pos := _, after := #[{ on := 7, ground := Ground.guard }], guard := some (7, false) }) (v := (.int .i64 (a))) rfl (by kernel_rfl) (by kernel_rfl) (by kernel_rfl) (fun _ _ _ h => h) (Or.inl ⟨by rfl, fun w' hS => by (try dsimp only at hS); go_simp⟩) hB2 ?_
          simp only [Act.put, List.setIfInBounds_toArray, List.set_cons_zero, List.set_cons_succ]
          refine wpAnyH_take (i := 10) (oi := { dst := some 26, op := Op.move (Operand.tmp 6), type := 3, pos := _, after := #[{ on := 7, ground := Ground.guard }], guard := some (7, false) }) (v := (.int .i64 (S))) rfl (by kernel_rfl) (by kernel_rfl) (by kernel_rfl) (fun _ _ _ h => h) (Or.inl ⟨by rfl, fun w' hS => by (try dsimp only at hS); go_simp⟩) hB2 ?_
          simp only [Act.put, List.setIfInBounds_toArray, List.set_cons_zero, List.set_cons_succ]
          refine wpAnyH_take (i := 11) (oi := { dst := some 27, op := Op.binOp BinOp.mul 3 (Operand.const (Value.int IntKind.i64 2)) (Operand.tmp 26) 3, type := 3, pos := _, after := #[{ on := 10, ground := Ground.data }, { on := 7, ground := Ground.guard }], guard := some (7, false) }) (v := (.int .i64 (D))) rfl (by kernel_rfl) (by kernel_rfl) (by kernel_rfl) (fun _ _ _ h => h) (Or.inl ⟨by rfl, fun w' hS => by (try dsimp only at hS); go_simp⟩) hB2 ?_
          simp only [Act.put, List.setIfInBounds_toArray, List.set_cons_zero, List.set_cons_succ]
          refine wpAnyH_take (i := 12) (oi := { dst := some 28, op := Op.binOp BinOp.quo 3 (Operand.tmp 25) (Operand.tmp 27) 3, type := 3, pos := _, after := #[{ on := 9, ground := Ground.data }, { on := 11, ground := Ground.data }, { on := 7, ground := Ground.guard }], guard := some (7, false) }) (v := (.int .i64 (Q))) rfl (by kernel_rfl) (by kernel_rfl) (by kernel_rfl) (fun _ _ _ h => h) (Or.inl ⟨by rfl, fun w' hS => by (try dsimp only at hS); go_simp⟩) hB2 ?_
          simp only [Act.put, List.setIfInBounds_toArray, List.set_cons_zero, List.set_cons_succ]
          refine wpAnyH_take (i := 13) (oi := { dst := some 29, op := Op.move (Operand.tmp 6), type := 3, pos := _, after := #[{ on := 7, ground := Ground.guard }], guard := some (7, false) }) (v := (.int .i64 (S))) rfl (by kernel_rfl) (by kernel_rfl) (by kernel_rfl) (fun _ _ _ h => h) (Or.inl ⟨by rfl, fun w' hS => by (try dsimp only at hS); go_simp⟩) hB2 ?_
          simp only [Act.put, List.setIfInBounds_toArray, List.set_cons_zero, List.set_cons_succ]
          refine wpAnyH_take (i := 14) (oi := { dst := some 30, op := Op.binOp BinOp.mul 3 (Operand.const (Value.int IntKind.i64 2)) (Operand.tmp 29) 3, type := 3, pos := _, after := #[{ on := 13, ground := Ground.data }, { on := 7, ground := Ground.guard }], guard := some (7, false) }) (v := (.int .i64 (D))) rfl (by kernel_rfl) (by kernel_rfl) (by kernel_rfl) (fun _ _ _ h => h) (Or.inl ⟨by rfl, fun w' hS => by (try dsimp only at hS); go_simp⟩) hB2 ?_
          simp only [Act.put, List.setIfInBounds_toArray, List.set_cons_zero, List.set_cons_succ]
          refine wpAnyH_take (i := 15) (oi := { dst := some 31, op := Op.binOp BinOp.mul 3 (Operand.tmp 28) (Operand.tmp 30) 3, type := 3, pos := _, after := #[{ on := 12, ground := Ground.data }, { on := 14, ground := Ground.data }, { on := 7, ground := Ground.guard }], guard := some (7, false) }) (v := (.int .i64 (P))) rfl (by kernel_rfl) (by kernel_rfl) (by kernel_rfl) (fun _ _ _ h => h) (Or.inl ⟨by rfl, fun w' hS => by (try dsimp only at hS); go_simp⟩) hB2 ?_
          simp only [Act.put, List.setIfInBounds_toArray, List.set_cons_zero, List.set_cons_succ]
          refine wpAnyH_take (i := 16) (oi := { dst := some 32, op := Op.move (Operand.tmp 1), type := 3, pos := _, after := #[{ on := 7, ground := Ground.guard }], guard := some (7, false) }) (v := (.int .i64 (k))) rfl (by kernel_rfl) (by kernel_rfl) (by kernel_rfl) (fun _ _ _ h => h) (Or.inl ⟨by rfl, fun w' hS => by (try dsimp only at hS); go_simp⟩) hB2 ?_
          simp only [Act.put, List.setIfInBounds_toArray, List.set_cons_zero, List.set_cons_succ]
          refine wpAnyH_take (i := 17) (oi := { dst := some 33, op := Op.binOp BinOp.add 3 (Operand.tmp 32) (Operand.const (Value.int IntKind.i64 1)) 3, type := 3, pos := _, after := #[{ on := 16, ground := Ground.data }, { on := 7, ground := Ground.guard }], guard := some (7, false) }) (v := (.int .i64 (k1))) rfl (by kernel_rfl) (by kernel_rfl) (by kernel_rfl) (fun _ _ _ h => h) (Or.inl ⟨by rfl, fun w' hS => by (try dsimp only at hS); go_simp⟩) hB2 ?_
          simp only [Act.put, List.setIfInBounds_toArray, List.set_cons_zero, List.set_cons_succ]
          refine wpAnyH_ready (rs := [18]) (by kernel_rfl) (by simp) ?_
          refine AllReadyH.cons (o := { dst := some 34, op := Op.call { callee := Callee.value (Operand.func 90), args := #[Operand.tmp 24, Operand.tmp 31, Operand.tmp 33], argTypes := #[25, 3, 3] }, type := 4, pos := _, after := #[{ on := 8, ground := Ground.data }, { on := 15, ground := Ground.data }, { on := 17, ground := Ground.data }, { on := 7, ground := Ground.chain }, { on := 7, ground := Ground.guard }], guard := some (7, false) }) rfl (fun K hK => ?_) AllReadyH.nil
          go_simp
          refine (l5Free_is ⟨a1, a2, c1, c2⟩ c l P k1 Y _ false HG.out HK1.out HF2.out (HA.out.blw (HG0.out.blw.trans hB2)) (iff_f FP.out)).mono ?_
          rintro e wB ⟨rfl, hbB⟩
          refine hK.out _ _ (hB2.trans hbB) (fun hB3 => ?_)
          clear hK K
          try simp only [Act.put, List.setIfInBounds_toArray, List.set_cons_zero, List.set_cons_succ]
          refine wpAnyH_take (i := 19) (oi := { dst := some 35, op := Op.unOp UnOp.not 4 (Operand.tmp 34), type := 4, pos := _, after := #[{ on := 18, ground := Ground.data }, { on := 7, ground := Ground.guard }], guard := some (7, false) }) (v := (.bool true)) rfl (by kernel_rfl) (by kernel_rfl) (by kernel_rfl) (fun _ _ _ h => h) (Or.inl ⟨by rfl, fun w' hS => by (try dsimp only at hS); go_simp⟩) hB3 ?_
          simp only [Act.put, List.setIfInBounds_toArray, List.set_cons_zero, List.set_cons_succ]
          refine wpAnyH_take (i := 20) (oi := { dst := some 36, op := Op.pick (Operand.tmp 23) (Operand.const (Value.bool true)) (Operand.tmp 35), type := 4, pos := _, after := #[{ on := 7, ground := Ground.data }, { on := 19, ground := Ground.data }, { on := 4, ground := Ground.guard }], guard := some (4, true) }) (v := (.bool true)) rfl (by kernel_rfl) (by kernel_rfl) (by kernel_rfl) (fun _ _ _ h => h) (Or.inl ⟨by rfl, fun w' hS => by (try dsimp only at hS); go_simp⟩) hB3 ?_
          simp only [Act.put, List.setIfInBounds_toArray, List.set_cons_zero, List.set_cons_succ]
          refine wpAnyH_take (i := 21) (oi := { dst := some 37, op := Op.pick (Operand.tmp 20) (Operand.tmp 36) (Operand.const (Value.bool false)), type := 4, pos := _, after := #[{ on := 4, ground := Ground.data }, { on := 20, ground := Ground.data }], guard := none }) (v := (.bool true)) rfl (by kernel_rfl) (by kernel_rfl) (by kernel_rfl) (fun _ _ _ h => h) (Or.inl ⟨by rfl, fun w' hS => by (try dsimp only at hS); go_simp⟩) hB3 ?_
          simp only [Act.put, List.setIfInBounds_toArray, List.set_cons_zero, List.set_cons_succ]
          refine wpAnyH_done (by kernel_rfl) ?_ _
          refine NoPanic.normal ?_
          have HGN : Hid (Gath w0 _ u5 (pk (blkB c k.toNat) a)) := HG0.out.go hB3
          have hle := pk_len (blkB c k.toNat) a
          obtain ⟨ao, cap, w2, hrun, hG2⟩ := HGN.out.push (by omega) a
          have HRN : Hid _ := hrun
          have HN : Hid (Gath w0 w2 (.slice ao ((pk (blkB c k.toNat) a).length + 1) cap) (pk (blkB c k.toNat) (a + S))) := by rw [NX.out]; exact hG2
          clear hrun hG2 hle HGN HG0 P0 P1
          go_wp2_with (first | (at_builtin; refine wpList_app (.tmp 38) (.tmp 40) 23 (by rfl) ?_; refine ⟨_, _, HRN.out, ?_⟩) | fail)
          go_roundw
          case rel => exact ⟨a + S, by omega, mod_step HM.out, by first | rfl | go_num, HN.out⟩
          case measure => simp [intOf]; omega
    · obtain rfl : a = 16 := by omega
      go_wp2
      go_ret
      exact ⟨_, rfl, HGA.out.up HB.out⟩
end Go.Proofs.Ytfmmpddknanhbaa
