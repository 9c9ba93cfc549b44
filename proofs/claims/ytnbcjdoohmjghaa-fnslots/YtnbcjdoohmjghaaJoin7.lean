/- Merged by program, in this order: FailL, FailP, Facts, FactM, ReadI, ReadM, SlotM, Newest, FactS. -/
import Derived.Test.YtnbcjdoohmjghaaJoin6
/- 'spec.l1Fail'. -/
namespace Go.Proofs.Ytnbcjdoohmjghaa
open Go.RowKit
set_option linter.unusedSimpArgs false
theorem own_eta {X : Nat → Prop} {w : World} {m : MV} {M : MD} {b1 b2 b3 : Nat} (_ : m.a1 = some ⟨b1, 0, none⟩) (e2 : m.a2 = some ⟨b2, 0, none⟩) (e3 : m.a3 = some ⟨b3, 0, none⟩) (h : MemOwn X w ⟨m.a1, some ⟨b2, 0, none⟩, some ⟨b3, 0, none⟩, m.c1, m.c2, m.c3⟩ M) : MemOwn X w m M := by
  rw [← e2, ← e3] at h
  exact h
set_option maxRecDepth 10000 in
set_option maxHeartbeats 3200000 in
theorem l1Fail_any (m : MV) (M : MD) (Y Y2 : Nat → Prop) (w : World) (ao : Option Addr) (n c : Nat) (f : Nat → Int) (gd : M.Good) (h : MemAt Y w m M) (hI0 : IntsAt Y2 w ao n f) :
    Calls Try.prog 81 #[m.val M, .slice ao n c] w fun e w' => ∃ m' : MV, e = .returned (m'.val (MD.full (fpS M.v1 M.v2 (hasLine n f) 12) (fpC M.v1 M.v2 (hasLine n f) 12) (faD M.d 12))) ∧ MemOwn (fun b => w.heap.size ≤ b ∧ b < w'.heap.size) w' m' (MD.full (fpS M.v1 M.v2 (hasLine n f) 12) (fpC M.v1 M.v2 (hasLine n f) 12) (faD M.d 12)) ∧ Blw w w' := by
  have GD : Hid M.Good := gd
  have HI0 : Hid (IntsAt Y2 w ao n f) := hI0
  clear gd hI0
  go_enter Try.func81, Try.ntmps81
  go_wp2_with fail
  have hb0 : Blw w ((w.alloc (.cells #[.slice m.a1 M.n1 m.c1, .slice m.a2 M.n2 m.c2, .slice m.a3 M.n3 m.c3] 26)).alloc (.cells #[.slice none 0 0, .slice none 0 0, .slice none 0 0] 26)) := ((Blw.refl _).alloc _).alloc _
  have rR := res_row w (.slice m.a1 M.n1 m.c1) (.slice m.a2 M.n2 m.c2) (.slice m.a3 M.n3 m.c3)
  refine (l1Own_any m M Y _ GD.out (h.blw hb0)).mono ?_
  rintro e w2 ⟨m2, rfl, own, hb2⟩
  simp only [MV.val, MD.full]
  have rlt := rR.lt
  have HM : Hid (Mine _ _ _ _ _ _ _) := Mine.start (hb0.trans hb2) rlt (rR.blw hb2) own
  clear h own rR rlt hb2 hb0
  go_wp2_with fail
  revert HM
  generalize w2.heap.size = z
  generalize w2.alloc (.cells #[.slice m2.a1 12 m2.c1, .slice m2.a2 12 m2.c2, .slice m2.a3 12 m2.c3] 26) = w3
  intro HM
  go_loopw [12] (fun i wr => ∃ k : Nat, k ≤ 12 ∧ i = .int .i64 k ∧ Mine w wr z m2 (fpS M.v1 M.v2 (hasLine n f) k) (fpC M.v1 M.v2 (hasLine n f) k) (faD M.d k)) (fun i _ => 12 - (intOf i).toNat)
  case atStart => exact ⟨0, by omega, rfl, by rw [fpS_zero, fpC_zero, faD_zero]; exact HM.out⟩
  case round =>
    obtain ⟨k, hk, rfl, I⟩ := hrel
    clear HM
    by_cases hlt : k < 12
    · go_wp2_with fail
      refine (l1Has_any ao c n f Y2 _ k (HI0.out.blw I.blw)).mono ?_
      rintro e W0 ⟨b, rfl, hb, rfl⟩
      have HP : Hid (b = true ↔ hasLine n f k) := hb
      clear hb
      cases b
      · have NP : Hid (¬ hasLine n f k) := fun g => absurd (HP.out.2 g) (by decide)
        clear HP
        go_wp2_with fail
        have JJ : ∀ {W : World} {sv cv : Nat → Nat → Int} {dv : Nat → Bool}, Mine w W z m2 sv cv dv → Mine w W z m2 sv cv dv := fun h => h
        have J0 : Hid (∀ W, Mine w W z m2 (fpS M.v1 M.v2 (hasLine n f) k) (flS (fpC M.v1 M.v2 (hasLine n f) k) (fpS M.v1 M.v2 (hasLine n f) k) k) (flD (faD M.d k) k) → Mine w W z m2 (fpS M.v1 M.v2 (hasLine n f) (k + 1)) (fpC M.v1 M.v2 (hasLine n f) (k + 1)) (faD M.d (k + 1))) := fun W hh => by
          rw [fpS_no NP.out, fpC_next, faD_succ] at hh
          exact hh
        clear JJ
        generalize fpS M.v1 M.v2 (hasLine n f) k = sv at I J0
        generalize fpC M.v1 M.v2 (hasLine n f) k = cv at I J0
        generalize faD M.d k = dv at I J0
        obtain ⟨X, own, hx⟩ := I.own
        have HX : Hid (∀ b, X b → w.heap.size + 1 < b ∧ b < W0.heap.size ∧ b ≠ z) := hx
        obtain ⟨b1, F1, k1, b2, b3, e1, e2, e3, hSx⟩ := back_facts own (fun b hb => (HX.out b hb).2.1) hlt
        obtain ⟨⟨F2, k2, r2⟩, RBx, RCx, R3x, XX, n21, HF⟩ := hSx
        have nz : z ≠ b2 := fun e => (HX.out b2 XX.1).2.2 e.symm
        have rB := I.box
        have RA0 : ∀ w', Mod (fun x => x = b2) W0 w' → w'.cell? ⟨z, 0, none⟩ = some (.slice (some ⟨b1, 0, none⟩) 12 m2.c1) := fun w' hS => by rw [← e1]; exact (get3 (rB.mod hS nz)).1
        have RA1 : ∀ w', Mod (fun x => x = b2) W0 w' → w'.cell? ⟨z, 1, none⟩ = some (.slice (some ⟨b2, 0, none⟩) 12 m2.c2) := fun w' hS => by rw [← e2]; exact (get3 (rB.mod hS nz)).2.1
        have RA2 : Hid (∀ w', Mod (fun x => x = b2) W0 w' → w'.cell? ⟨z, 2, none⟩ = some (.slice (some ⟨b3, 0, none⟩) 12 m2.c3)) := fun w' hS => by rw [← e3]; exact (get3 (rB.mod hS nz)).2.2
        have RB : ∀ w', Mod (fun x => x = b2) W0 w' → w'.cell? ⟨b1, k, none⟩ = some (.slice (some ⟨F1, 0, none⟩) 4 k1) := RBx
        have RC : Hid (∀ w', Mod (fun x => x = b2) W0 w' → ∀ t, t < 4 → w'.cell? ⟨F1, 0 + t, none⟩ = some (.int .i64 (sv k t))) := RCx
        have R3 : Hid (∀ w', Mod (fun x => x = b2) W0 w' → Row w' b3 12 (fun i => .bool (dv i))) := R3x
        have HFF : Hid (∀ w2 b cc, _) := fun w2 b cc h2 hlo hhi hrow => own_eta e1 e2 e3 (HF w2 b cc m2.c1 m2.c2 m2.c3 h2 hlo hhi hrow)
        have HXX : Hid (X b2 ∧ X b3) := XX
        have HI : Hid (Mine w W0 z m2 sv cv dv) := I
        clear RBx RCx R3x HF XX n21 hx own rB I nz e1 e2 e3
        have hI : ¬ (12 ≤ (k : Int)) := by omega
        have hI2 : (k : Int) < 12 := by omega
        refine wp_region_noPanic ?_
        refine wp_region_held_drew (S := fun w' => Mod (fun x => x = b2) W0 w') (by kernel_rfl) ((Blw.refl W0).drew.mod _) (fun hS1 => ?_)
        have h1 : Blw W0 W0.drew := (Blw.refl W0).drew
        revert hS1 h1
        generalize W0.drew = w1
        intro hS1 h1
        refine wpAnyH_take (i := 0) (oi := { dst := some 21, op := Op.fieldAddr 26 (Operand.tmp 5) 1, type := 0, pos := _, after := #[], guard := none }) (v := .pointer (some ⟨z, 1, none⟩)) rfl (by kernel_rfl) (by kernel_rfl) (by kernel_rfl) (fun _ _ _ h => h) (Or.inl ⟨by rfl, fun w' hS => by (try dsimp only at hS); go_simp⟩) hS1 ?_
        simp only [Act.put, List.setIfInBounds_toArray, List.set_cons_zero, List.set_cons_succ]
        refine wpAnyH_take (i := 1) (oi := { dst := some 22, op := Op.load 23 (Operand.tmp 21), type := 23, pos := _, after := #[{ on := 0, ground := Ground.data }], guard := none }) (v := .slice (some ⟨b2, 0, none⟩) 12 m2.c2) rfl (by kernel_rfl) (by kernel_rfl) (by kernel_rfl) (fun _ _ _ h => h) (Or.inl ⟨by rfl, fun w' hS => by (try dsimp only at hS); go_simp⟩) hS1 ?_
        simp only [Act.put, List.setIfInBounds_toArray, List.set_cons_zero, List.set_cons_succ]
        refine wpAnyH_take (i := 2) (oi := { dst := some 23, op := Op.move (Operand.tmp 6), type := 3, pos := _, after := #[], guard := none }) (v := .int .i64 k) rfl (by kernel_rfl) (by kernel_rfl) (by kernel_rfl) (fun _ _ _ h => h) (Or.inl ⟨by rfl, fun w' hS => by (try dsimp only at hS); go_simp⟩) hS1 ?_
        simp only [Act.put, List.setIfInBounds_toArray, List.set_cons_zero, List.set_cons_succ]
        refine wpAnyH_take (i := 3) (oi := { dst := some 24, op := Op.fieldAddr 26 (Operand.tmp 5) 0, type := 0, pos := _, after := #[], guard := none }) (v := .pointer (some ⟨z, 0, none⟩)) rfl (by kernel_rfl) (by kernel_rfl) (by kernel_rfl) (fun _ _ _ h => h) (Or.inl ⟨by rfl, fun w' hS => by (try dsimp only at hS); go_simp⟩) hS1 ?_
        simp only [Act.put, List.setIfInBounds_toArray, List.set_cons_zero, List.set_cons_succ]
        refine wpAnyH_take (i := 4) (oi := { dst := some 25, op := Op.load 23 (Operand.tmp 24), type := 23, pos := _, after := #[{ on := 3, ground := Ground.data }], guard := none }) (v := .slice (some ⟨b1, 0, none⟩) 12 m2.c1) rfl (by kernel_rfl) (by kernel_rfl) (by kernel_rfl) (fun _ _ _ h => h) (Or.inl ⟨by rfl, fun w' hS => by (try dsimp only at hS); go_simp⟩) hS1 ?_
        simp only [Act.put, List.setIfInBounds_toArray, List.set_cons_zero, List.set_cons_succ]
        refine wpAnyH_take (i := 5) (oi := { dst := some 26, op := Op.move (Operand.tmp 6), type := 3, pos := _, after := #[], guard := none }) (v := .int .i64 k) rfl (by kernel_rfl) (by kernel_rfl) (by kernel_rfl) (fun _ _ _ h => h) (Or.inl ⟨by rfl, fun w' hS => by (try dsimp only at hS); go_simp⟩) hS1 ?_
        simp only [Act.put, List.setIfInBounds_toArray, List.set_cons_zero, List.set_cons_succ]
        refine wpAnyH_take (i := 6) (oi := { dst := some 27, op := Op.indexAddr 23 (Operand.tmp 25) (Operand.tmp 26), type := 0, pos := _, after := #[{ on := 4, ground := Ground.data }, { on := 5, ground := Ground.data }], guard := none }) (v := .pointer (some ⟨b1, k, none⟩)) rfl (by kernel_rfl) (by kernel_rfl) (by kernel_rfl) (fun _ _ _ h => h) (Or.inl ⟨by rfl, fun w' hS => by (try dsimp only at hS); go_simp⟩) hS1 ?_
        simp only [Act.put, List.setIfInBounds_toArray, List.set_cons_zero, List.set_cons_succ]
        refine wpAnyH_take (i := 7) (oi := { dst := some 28, op := Op.load 37 (Operand.tmp 27), type := 37, pos := _, after := #[{ on := 6, ground := Ground.data }], guard := none }) (v := .agg #[.slice (some ⟨F1, 0, none⟩) 4 k1]) rfl (by kernel_rfl) (by kernel_rfl) (by kernel_rfl) (fun _ _ _ h => h) (Or.inl ⟨by rfl, fun w' hS => by (try dsimp only at hS); go_simp⟩) hS1 ?_
        simp only [Act.put, List.setIfInBounds_toArray, List.set_cons_zero, List.set_cons_succ]
        refine wpAnyH_ready (rs := [8]) (by kernel_rfl) (by simp) ?_
        refine AllReadyH.cons (o := { dst := some 29, op := Op.call { callee := Callee.value (Operand.func 127), args := #[Operand.tmp 28], argTypes := #[37] }, type := 37, pos := _, after := #[{ on := 7, ground := Ground.data }], guard := none }) rfl (fun K hK => ?_) AllReadyH.nil
        go_simp
        refine (l1Copy_any _ _ _ 4 (sv k) _ (by omega) (by omega) (RC.out _ hS1)).mono ?_
        rintro e w2 ⟨b, cc, rfl, hlo0, hhi, hrow, hb2⟩
        have h2 := h1.trans hb2
        have hlo : W0.heap.size ≤ b := by have := h1.size; omega
        refine hK.out _ _ (h2.mod _) (fun hS2 => ?_)
        clear hK K hlo0 hb2
        try simp only [Act.put, List.setIfInBounds_toArray, List.set_cons_zero, List.set_cons_succ]
        refine wpAnyH_take (i := 9) (oi := { dst := some 30, op := Op.indexAddr 23 (Operand.tmp 22) (Operand.tmp 23), type := 0, pos := _, after := #[{ on := 1, ground := Ground.data }, { on := 2, ground := Ground.data }, { on := 0, ground := Ground.phase }, { on := 1, ground := Ground.phase }, { on := 2, ground := Ground.phase }, { on := 3, ground := Ground.phase }, { on := 4, ground := Ground.phase }, { on := 5, ground := Ground.phase }, { on := 6, ground := Ground.phase }, { on := 7, ground := Ground.phase }, { on := 8, ground := Ground.phase }], guard := none }) (v := .pointer (some ⟨b2, k, none⟩)) rfl (by kernel_rfl) (by kernel_rfl) (by kernel_rfl) (fun _ _ _ h => h) (Or.inl ⟨by rfl, fun w' hS => by (try dsimp only at hS); go_simp⟩) hS2 ?_
        simp only [Act.put, List.setIfInBounds_toArray, List.set_cons_zero, List.set_cons_succ]
        have qq0 := (r2.blw h2).cell (i := k) hlt
        have qq1 := (r2.blw h2).frozen k
        refine wpAnyH_ready (rs := [10]) (by kernel_rfl) (by simp) ?_
        refine AllReadyH.cons (o := { dst := none, op := Op.store 37 (Operand.tmp 30) (Operand.tmp 29), type := 0, pos := _, after := #[{ on := 9, ground := Ground.data }, { on := 8, ground := Ground.data }, { on := 8, ground := Ground.chain }, { on := 0, ground := Ground.phase }, { on := 1, ground := Ground.phase }, { on := 2, ground := Ground.phase }, { on := 3, ground := Ground.phase }, { on := 4, ground := Ground.phase }, { on := 5, ground := Ground.phase }, { on := 6, ground := Ground.phase }, { on := 7, ground := Ground.phase }, { on := 8, ground := Ground.phase }], guard := none }) rfl (fun K hK => ?_) AllReadyH.nil
        go_simp
        refine hK.out _ _ (hS2.trans (Mod.setCell (X := fun x => x = b2) _ (p := ⟨b2, k, none⟩) rfl _)) (fun hSe => ?_)
        clear hK K qq0 qq1 hSe
        refine wpAnyH_done (by kernel_rfl) ?_ _
        refine NoPanic.normal ?_
        have hSA := hS2.trans (Mod.setCell (X := fun x => x = b2) w2 (p := ⟨b2, k, none⟩) rfl (.slice (some ⟨b, 0, none⟩) 4 cc))
        have p2 := RA2.out _ hSA
        have q3 := (R3.out _ hSA).cell (i := k) hlt
        have q3f := (R3.out _ hSA).frozen k
        have OWN := HFF.out w2 b cc h2 hlo hhi hrow
        have hM : Mod X W0 ((w2.setCell ⟨b2, k, none⟩ (.slice (some ⟨b, 0, none⟩) 4 cc)).setCell ⟨b3, k, none⟩ (.bool false)) := ((h2.mod X).trans (Mod.setCell (X := X) _ (p := ⟨b2, k, none⟩) HXX.out.1 _)).trans (Mod.setCell (X := X) _ (p := ⟨b3, k, none⟩) HXX.out.2 _)
        have I' : Hid (Mine w ((w2.setCell ⟨b2, k, none⟩ (.slice (some ⟨b, 0, none⟩) 4 cc)).setCell ⟨b3, k, none⟩ (.bool false)) z m2 sv (flS cv sv k) (flD dv k)) := HI.out.next HX.out OWN hM
        clear hSA RA0 RA1 RA2 RB RC R3 HFF r2 hS1 hS2 h1 h2 hrow hlo hhi OWN hM HI HX HXX
        go_wp2
        go_roundw
        case rel => exact ⟨k + 1, by omega, by go_num, J0.out _ I'.out⟩
        case measure => simp [intOf]; omega
      · have NP : Hid (hasLine n f k) := HP.out.1 rfl
        clear HP
        obtain ⟨q0, q1, q2⟩ := get3 I.box
        obtain ⟨X, own, hx⟩ := I.own
        have HX : Hid (∀ b, X b → w.heap.size + 1 < b ∧ b < W0.heap.size ∧ b ≠ z) := hx
        clear hx
        go_wp2_with fail
        refine (l1Flush_any m2 _ _ _ X _ k hlt own (fun b hb => (HX.out b hb).2.1)).mono ?_
        rintro e W1 ⟨⟨v, rfl⟩, own4, hm4⟩
        rw [fpS_yes NP.out] at own4
        have I1 := I.flush HX.out own4 hm4
        clear I own own4 hm4 q0 q1 q2 HX
        clear X
        have I := I1
        clear I1 W0
        have W0 := W1
        clear W0
        go_wp2_with fail
        have J0 : Hid (∀ W, Mine w W z m2 (fpS M.v1 M.v2 (hasLine n f) (k + 1)) (flS (fpC M.v1 M.v2 (hasLine n f) k) (fpS M.v1 M.v2 (hasLine n f) (k + 1)) k) (flD (flD (faD M.d k) k) k) → Mine w W z m2 (fpS M.v1 M.v2 (hasLine n f) (k + 1)) (fpC M.v1 M.v2 (hasLine n f) (k + 1)) (faD M.d (k + 1))) := fun W hh => by
          rw [fpC_next, flD_twice, faD_succ] at hh
          exact hh
        generalize hsv : fpS M.v1 M.v2 (hasLine n f) (k + 1) = sv at I J0
        have J1 : Hid (∀ W, Mine w W z m2 sv (flS (fpC M.v1 M.v2 (hasLine n f) k) sv k) (flD (flD (faD M.d k) k) k) → Mine w W z m2 (fpS M.v1 M.v2 (hasLine n f) (k + 1)) (fpC M.v1 M.v2 (hasLine n f) (k + 1)) (faD M.d (k + 1))) := fun W hh => by
          rw [hsv]
          exact J0.out W hh
        clear J0 hsv
        generalize fpC M.v1 M.v2 (hasLine n f) k = cv at I J1
        generalize flD (faD M.d k) k = dv at I J1
        obtain ⟨X, own, hx⟩ := I.own
        have HX : Hid (∀ b, X b → w.heap.size + 1 < b ∧ b < W1.heap.size ∧ b ≠ z) := hx
        obtain ⟨b1, F1, k1, b2, b3, e1, e2, e3, hSx⟩ := back_facts own (fun b hb => (HX.out b hb).2.1) hlt
        obtain ⟨⟨F2, k2, r2⟩, RBx, RCx, R3x, XX, n21, HF⟩ := hSx
        have nz : z ≠ b2 := fun e => (HX.out b2 XX.1).2.2 e.symm
        have rB := I.box
        have RA0 : ∀ w', Mod (fun x => x = b2) W1 w' → w'.cell? ⟨z, 0, none⟩ = some (.slice (some ⟨b1, 0, none⟩) 12 m2.c1) := fun w' hS => by rw [← e1]; exact (get3 (rB.mod hS nz)).1
        have RA1 : ∀ w', Mod (fun x => x = b2) W1 w' → w'.cell? ⟨z, 1, none⟩ = some (.slice (some ⟨b2, 0, none⟩) 12 m2.c2) := fun w' hS => by rw [← e2]; exact (get3 (rB.mod hS nz)).2.1
        have RA2 : Hid (∀ w', Mod (fun x => x = b2) W1 w' → w'.cell? ⟨z, 2, none⟩ = some (.slice (some ⟨b3, 0, none⟩) 12 m2.c3)) := fun w' hS => by rw [← e3]; exact (get3 (rB.mod hS nz)).2.2
        have RB : ∀ w', Mod (fun x => x = b2) W1 w' → w'.cell? ⟨b1, k, none⟩ = some (.slice (some ⟨F1, 0, none⟩) 4 k1) := RBx
        have RC : Hid (∀ w', Mod (fun x => x = b2) W1 w' → ∀ t, t < 4 → w'.cell? ⟨F1, 0 + t, none⟩ = some (.int .i64 (sv k t))) := RCx
        have R3 : Hid (∀ w', Mod (fun x => x = b2) W1 w' → Row w' b3 12 (fun i => .bool (dv i))) := R3x
        have HFF : Hid (∀ w2 b cc, _) := fun w2 b cc h2 hlo hhi hrow => own_eta e1 e2 e3 (HF w2 b cc m2.c1 m2.c2 m2.c3 h2 hlo hhi hrow)
        have HXX : Hid (X b2 ∧ X b3) := XX
        have HI : Hid (Mine w W1 z m2 sv cv dv) := I
        clear RBx RCx R3x HF XX n21 hx own rB I nz e1 e2 e3
        have hI : ¬ (12 ≤ (k : Int)) := by omega
        have hI2 : (k : Int) < 12 := by omega
        refine wp_region_noPanic ?_
        refine wp_region_held_drew (S := fun w' => Mod (fun x => x = b2) W1 w') (by kernel_rfl) ((Blw.refl W1).drew.mod _) (fun hS1 => ?_)
        have h1 : Blw W1 W1.drew := (Blw.refl W1).drew
        revert hS1 h1
        generalize W1.drew = w1
        intro hS1 h1
        refine wpAnyH_take (i := 0) (oi := { dst := some 21, op := Op.fieldAddr 26 (Operand.tmp 5) 1, type := 0, pos := _, after := #[], guard := none }) (v := .pointer (some ⟨z, 1, none⟩)) rfl (by kernel_rfl) (by kernel_rfl) (by kernel_rfl) (fun _ _ _ h => h) (Or.inl ⟨by rfl, fun w' hS => by (try dsimp only at hS); go_simp⟩) hS1 ?_
        simp only [Act.put, List.setIfInBounds_toArray, List.set_cons_zero, List.set_cons_succ]
        refine wpAnyH_take (i := 1) (oi := { dst := some 22, op := Op.load 23 (Operand.tmp 21), type := 23, pos := _, after := #[{ on := 0, ground := Ground.data }], guard := none }) (v := .slice (some ⟨b2, 0, none⟩) 12 m2.c2) rfl (by kernel_rfl) (by kernel_rfl) (by kernel_rfl) (fun _ _ _ h => h) (Or.inl ⟨by rfl, fun w' hS => by (try dsimp only at hS); go_simp⟩) hS1 ?_
        simp only [Act.put, List.setIfInBounds_toArray, List.set_cons_zero, List.set_cons_succ]
        refine wpAnyH_take (i := 2) (oi := { dst := some 23, op := Op.move (Operand.tmp 6), type := 3, pos := _, after := #[], guard := none }) (v := .int .i64 k) rfl (by kernel_rfl) (by kernel_rfl) (by kernel_rfl) (fun _ _ _ h => h) (Or.inl ⟨by rfl, fun w' hS => by (try dsimp only at hS); go_simp⟩) hS1 ?_
        simp only [Act.put, List.setIfInBounds_toArray, List.set_cons_zero, List.set_cons_succ]
        refine wpAnyH_take (i := 3) (oi := { dst := some 24, op := Op.fieldAddr 26 (Operand.tmp 5) 0, type := 0, pos := _, after := #[], guard := none }) (v := .pointer (some ⟨z, 0, none⟩)) rfl (by kernel_rfl) (by kernel_rfl) (by kernel_rfl) (fun _ _ _ h => h) (Or.inl ⟨by rfl, fun w' hS => by (try dsimp only at hS); go_simp⟩) hS1 ?_
        simp only [Act.put, List.setIfInBounds_toArray, List.set_cons_zero, List.set_cons_succ]
        refine wpAnyH_take (i := 4) (oi := { dst := some 25, op := Op.load 23 (Operand.tmp 24), type := 23, pos := _, after := #[{ on := 3, ground := Ground.data }], guard := none }) (v := .slice (some ⟨b1, 0, none⟩) 12 m2.c1) rfl (by kernel_rfl) (by kernel_rfl) (by kernel_rfl) (fun _ _ _ h => h) (Or.inl ⟨by rfl, fun w' hS => by (try dsimp only at hS); go_simp⟩) hS1 ?_
        simp only [Act.put, List.setIfInBounds_toArray, List.set_cons_zero, List.set_cons_succ]
        refine wpAnyH_take (i := 5) (oi := { dst := some 26, op := Op.move (Operand.tmp 6), type := 3, pos := _, after := #[], guard := none }) (v := .int .i64 k) rfl (by kernel_rfl) (by kernel_rfl) (by kernel_rfl) (fun _ _ _ h => h) (Or.inl ⟨by rfl, fun w' hS => by (try dsimp only at hS); go_simp⟩) hS1 ?_
        simp only [Act.put, List.setIfInBounds_toArray, List.set_cons_zero, List.set_cons_succ]
        refine wpAnyH_take (i := 6) (oi := { dst := some 27, op := Op.indexAddr 23 (Operand.tmp 25) (Operand.tmp 26), type := 0, pos := _, after := #[{ on := 4, ground := Ground.data }, { on := 5, ground := Ground.data }], guard := none }) (v := .pointer (some ⟨b1, k, none⟩)) rfl (by kernel_rfl) (by kernel_rfl) (by kernel_rfl) (fun _ _ _ h => h) (Or.inl ⟨by rfl, fun w' hS => by (try dsimp only at hS); go_simp⟩) hS1 ?_
        simp only [Act.put, List.setIfInBounds_toArray, List.set_cons_zero, List.set_cons_succ]
        refine wpAnyH_take (i := 7) (oi := { dst := some 28, op := Op.load 37 (Operand.tmp 27), type := 37, pos := _, after := #[{ on := 6, ground := Ground.data }], guard := none }) (v := .agg #[.slice (some ⟨F1, 0, none⟩) 4 k1]) rfl (by kernel_rfl) (by kernel_rfl) (by kernel_rfl) (fun _ _ _ h => h) (Or.inl ⟨by rfl, fun w' hS => by (try dsimp only at hS); go_simp⟩) hS1 ?_
        simp only [Act.put, List.setIfInBounds_toArray, List.set_cons_zero, List.set_cons_succ]
        refine wpAnyH_ready (rs := [8]) (by kernel_rfl) (by simp) ?_
        refine AllReadyH.cons (o := { dst := some 29, op := Op.call { callee := Callee.value (Operand.func 127), args := #[Operand.tmp 28], argTypes := #[37] }, type := 37, pos := _, after := #[{ on := 7, ground := Ground.data }], guard := none }) rfl (fun K hK => ?_) AllReadyH.nil
        go_simp
        refine (l1Copy_any _ _ _ 4 (sv k) _ (by omega) (by omega) (RC.out _ hS1)).mono ?_
        rintro e w2 ⟨b, cc, rfl, hlo0, hhi, hrow, hb2⟩
        have h2 := h1.trans hb2
        have hlo : W1.heap.size ≤ b := by have := h1.size; omega
        refine hK.out _ _ (h2.mod _) (fun hS2 => ?_)
        clear hK K hlo0 hb2
        try simp only [Act.put, List.setIfInBounds_toArray, List.set_cons_zero, List.set_cons_succ]
        refine wpAnyH_take (i := 9) (oi := { dst := some 30, op := Op.indexAddr 23 (Operand.tmp 22) (Operand.tmp 23), type := 0, pos := _, after := #[{ on := 1, ground := Ground.data }, { on := 2, ground := Ground.data }, { on := 0, ground := Ground.phase }, { on := 1, ground := Ground.phase }, { on := 2, ground := Ground.phase }, { on := 3, ground := Ground.phase }, { on := 4, ground := Ground.phase }, { on := 5, ground := Ground.phase }, { on := 6, ground := Ground.phase }, { on := 7, ground := Ground.phase }, { on := 8, ground := Ground.phase }], guard := none }) (v := .pointer (some ⟨b2, k, none⟩)) rfl (by kernel_rfl) (by kernel_rfl) (by kernel_rfl) (fun _ _ _ h => h) (Or.inl ⟨by rfl, fun w' hS => by (try dsimp only at hS); go_simp⟩) hS2 ?_
        simp only [Act.put, List.setIfInBounds_toArray, List.set_cons_zero, List.set_cons_succ]
        have qq0 := (r2.blw h2).cell (i := k) hlt
        have qq1 := (r2.blw h2).frozen k
        refine wpAnyH_ready (rs := [10]) (by kernel_rfl) (by simp) ?_
        refine AllReadyH.cons (o := { dst := none, op := Op.store 37 (Operand.tmp 30) (Operand.tmp 29), type := 0, pos := _, after := #[{ on := 9, ground := Ground.data }, { on := 8, ground := Ground.data }, { on := 8, ground := Ground.chain }, { on := 0, ground := Ground.phase }, { on := 1, ground := Ground.phase }, { on := 2, ground := Ground.phase }, { on := 3, ground := Ground.phase }, { on := 4, ground := Ground.phase }, { on := 5, ground := Ground.phase }, { on := 6, ground := Ground.phase }, { on := 7, ground := Ground.phase }, { on := 8, ground := Ground.phase }], guard := none }) rfl (fun K hK => ?_) AllReadyH.nil
        go_simp
        refine hK.out _ _ (hS2.trans (Mod.setCell (X := fun x => x = b2) _ (p := ⟨b2, k, none⟩) rfl _)) (fun hSe => ?_)
        clear hK K qq0 qq1 hSe
        refine wpAnyH_done (by kernel_rfl) ?_ _
        refine NoPanic.normal ?_
        have hSA := hS2.trans (Mod.setCell (X := fun x => x = b2) w2 (p := ⟨b2, k, none⟩) rfl (.slice (some ⟨b, 0, none⟩) 4 cc))
        have p2 := RA2.out _ hSA
        have q3 := (R3.out _ hSA).cell (i := k) hlt
        have q3f := (R3.out _ hSA).frozen k
        have OWN := HFF.out w2 b cc h2 hlo hhi hrow
        have hM : Mod X W1 ((w2.setCell ⟨b2, k, none⟩ (.slice (some ⟨b, 0, none⟩) 4 cc)).setCell ⟨b3, k, none⟩ (.bool false)) := ((h2.mod X).trans (Mod.setCell (X := X) _ (p := ⟨b2, k, none⟩) HXX.out.1 _)).trans (Mod.setCell (X := X) _ (p := ⟨b3, k, none⟩) HXX.out.2 _)
        have I' : Hid (Mine w ((w2.setCell ⟨b2, k, none⟩ (.slice (some ⟨b, 0, none⟩) 4 cc)).setCell ⟨b3, k, none⟩ (.bool false)) z m2 sv (flS cv sv k) (flD dv k)) := HI.out.next HX.out OWN hM
        clear hSA RA0 RA1 RA2 RB RC R3 HFF r2 hS1 hS2 h1 h2 hrow hlo hhi OWN hM HI HX HXX
        go_wp2
        go_roundw
        case rel => exact ⟨k + 1, by omega, by go_num, J1.out _ I'.out⟩
        case measure => simp [intOf]; omega
    · obtain rfl : k = 12 := by omega
      obtain ⟨q0, q1, q2⟩ := get3 I.box
      obtain ⟨⟨x0, x1, x2⟩, f0, f1, f2⟩ := res6 I.res
      obtain ⟨X, own, hx⟩ := I.own
      have HX : Hid (∀ b, X b → w.heap.size + 1 < b ∧ b < wr.heap.size ∧ b ≠ z) := hx
      clear hx
      go_wp2
      exact bodyPost_ret (v := .agg #[.slice m2.a1 12 m2.c1, .slice m2.a2 12 m2.c2, .slice m2.a3 12 m2.c3]) (by simp [results, Try.results81, go_sem, x0, x1, x2]) rfl ⟨m2, rfl, own_out own (fun b hb => ⟨(HX.out b hb).1, (HX.out b hb).2.1⟩) (mod_set3 wr _ _ _ _) (by omega), Mod.blw I.blw (mod_set3 wr _ _ _ _) (fun i hi => by omega)⟩
end Go.Proofs.Ytnbcjdoohmjghaa
/- 'spec.FailPower' and 'impl.FailPower'. -/
namespace Go.Proofs.Ytnbcjdoohmjghaa
open Go.RowKit
set_option linter.unusedSimpArgs false
/-- What FailPower answers. -/
def fwOut (M : MD) (n : Nat) (f : Nat → Int) (M' : MD) (b : Bool) : Prop :=
  (M.Good ∧ rising n f ∧ M' = MD.full (fpS M.v1 M.v2 (hasLine n f) 12) (fpC M.v1 M.v2 (hasLine n f) 12) (faD M.d 12) ∧ b = true) ∨ (¬ (M.Good ∧ rising n f) ∧ M' = MZ ∧ b = false)
theorem fwOut_same {M M1 M2 : MD} {n : Nat} {f : Nat → Int} {b c : Bool} (h : fwOut M n f M1 b) (k : fwOut M n f M2 c) : M1 = M2 ∧ b = c := by
  rcases h with ⟨g, s, rfl, rfl⟩ | ⟨g, rfl, rfl⟩
  · rcases k with ⟨_, _, rfl, rfl⟩ | ⟨g', rfl, rfl⟩
    · exact ⟨rfl, rfl⟩
    · exact absurd ⟨g, s⟩ g'
  · rcases k with ⟨g', s, rfl, rfl⟩ | ⟨g', rfl, rfl⟩
    · exact absurd ⟨g', s⟩ g
    · exact ⟨rfl, rfl⟩
theorem fwOut_total {M M1 : MD} {n : Nat} {f : Nat → Int} {b : Bool} (h : fwOut M n f M1 b) : M1.total ≤ 108 := by
  rcases h with ⟨g, s, rfl, rfl⟩ | ⟨g, rfl, rfl⟩
  · rw [total_full]; omega
  · rw [total_zero]; omega
open Classical in
noncomputable def fkD (d : Nat → Bool) (P : Nat → Prop) : Nat → Bool := fun i => if P i then false else d i
theorem has_none (f : Nat → Int) (i : Nat) : ¬ hasLine 0 f i := fun ⟨_, h, _⟩ => absurd h (Nat.not_lt_zero _)
theorem has_more {f : Nat → Int} {k q : Nat} (hq : f k = (q : Int)) (i : Nat) : hasLine (k + 1) f i ↔ (i = q ∨ hasLine k f i) := by
  constructor
  · rintro ⟨t, ht, e⟩
    by_cases h : t = k
    · subst h
      exact Or.inl (by omega)
    · exact Or.inr ⟨t, by omega, e⟩
  · rintro (rfl | ⟨t, ht, e⟩)
    · exact ⟨k, by omega, hq⟩
    · exact ⟨t, by omega, e⟩
theorem fpS_none (s c : Nat → Nat → Int) (f : Nat → Int) : fpS s c (hasLine 0 f) 12 = s := by
  funext i j
  simp [fpS, has_none]
theorem fkD_none (d : Nat → Bool) (f : Nat → Int) : fkD d (hasLine 0 f) = d := by
  funext i
  simp [fkD, has_none]
theorem fpS_more {s c : Nat → Nat → Int} {f : Nat → Int} {k q : Nat} (hq : f k = (q : Int)) (h12 : q < 12) : flS (fpS s c (hasLine k f) 12) c q = fpS s c (hasLine (k + 1) f) 12 := by
  funext i j
  unfold flS fpS
  by_cases e : i = q
  · subst e
    simp [has_more hq, h12]
  · have p : hasLine (k + 1) f i ↔ hasLine k f i := by rw [has_more hq]; simp [e]
    by_cases h : hasLine k f i
    · have h' := p.2 h
      simp [e, h, h']
    · have h' : ¬ hasLine (k + 1) f i := fun x => h (p.1 x)
      simp [e, h, h']
theorem fkD_more {d : Nat → Bool} {f : Nat → Int} {k q : Nat} (hq : f k = (q : Int)) : flD (fkD d (hasLine k f)) q = fkD d (hasLine (k + 1) f) := by
  funext i
  unfold flD fkD
  by_cases e : i = q
  · simp [has_more hq, e]
  · have p : hasLine (k + 1) f i ↔ hasLine k f i := by rw [has_more hq]; simp [e]
    by_cases h : hasLine k f i
    · have h' := p.2 h
      simp [e, h, h']
    · have h' : ¬ hasLine (k + 1) f i := fun x => h (p.1 x)
      simp [e, h, h']
theorem fp_same {s c : Nat → Nat → Int} {P : Nat → Prop} {i : Nat} (hi : i < 12) (j : Nat) : fpS s c P 12 i j = fpC s c P 12 i j := by
  unfold fpS fpC
  rw [if_pos hi, if_pos hi]
theorem hcell_back {s c : Nat → Nat → Int} {d d0 : Nat → Bool} {P : Nat → Prop} (j : Nat) (hj : j < 108) :
    (if 96 ≤ j ∧ j < 96 + 12 then Value.bool false else if 48 ≤ j ∧ j < 48 + 48 then hcell (fpS s c P 12) c d0 (0 + (j - 48)) else hcell (fpS s c P 12) c d0 j) = hcell (fpS s c P 12) (fpC s c P 12) (faD d 12) j := by
  unfold hcell
  by_cases h1 : j < 48
  · rw [if_neg (by omega), if_neg (by omega), if_pos h1, if_pos h1]
  · by_cases h2 : j < 96
    · have e1 : 0 + (j - 48) = j - 48 := by omega
      rw [if_neg (by omega), if_pos (by omega), e1, if_pos (by omega), if_neg h1, if_pos h2, fp_same (by omega)]
    · rw [if_pos (by omega), if_neg h1, if_neg h2]
      unfold faD
      rw [if_pos (by omega)]
set_option maxHeartbeats 1600000 in
theorem specFail_any (m : MV) (M : MD) (Y Y2 : Nat → Prop) (w : World) (ao : Option Addr) (n c : Nat) (f : Nat → Int) (h : MemAt Y w m M) (hI0 : IntsAt Y2 w ao n f) :
    Calls Try.prog 16 #[m.val M, .slice ao n c] w (Gives (fwOut M n f) w) := by
  have HI0 : Hid (IntsAt Y2 w ao n f) := hI0
  clear hI0
  go_enter Try.func16, Try.ntmps16
  go_wp2_with fail
  have hb0 : Blw w ((w.alloc (.cells #[.slice m.a1 M.n1 m.c1, .slice m.a2 M.n2 m.c2, .slice m.a3 M.n3 m.c3] 26)).alloc (.cells #[.slice none 0 0, .slice none 0 0, .slice none 0 0] 26)) := ((Blw.refl _).alloc _).alloc _
  have rA := (box3 w (.slice m.a1 M.n1 m.c1) (.slice m.a2 M.n2 m.c2) (.slice m.a3 M.n3 m.c3) 26).blw ((Blw.refl _).alloc (.cells #[.slice none 0 0, .slice none 0 0, .slice none 0 0] 26))
  have rR := res_row w (.slice m.a1 M.n1 m.c1) (.slice m.a2 M.n2 m.c2) (.slice m.a3 M.n3 m.c3)
  refine (goodS_any m M Y _ (h.blw hb0)).mono ?_
  rintro e w1 ⟨b, rfl, hgd, hb1⟩
  replace rA := rA.blw hb1
  replace rR := rR.blw hb1
  replace hb1 := hb0.trans hb1
  replace h := h.blw hb1
  clear hb0
  have HG : Hid (b = true ↔ M.Good) := hgd
  clear hgd
  cases b
  · have NG : Hid (¬ M.Good) := fun g => absurd (HG.out.2 g) (by decide)
    obtain ⟨⟨x0, x1, x2⟩, f0, f1, f2⟩ := res6 rR
    clear HG rA h rR
    go_wp2
    exact bodyPost_ret (v := .tuple #[.agg #[.slice none 0 0, .slice none 0 0, .slice none 0 0], .bool false]) (by simp [results, Try.results16, go_sem, x0, x1, x2]) rfl (zero_gives (Or.inr ⟨fun g => NG.out g.1, rfl, rfl⟩) hb1)
  · have GD : Hid M.Good := HG.out.1 rfl
    clear HG
    go_wp2_with fail
    refine (l1Rising_any ao c n f Y2 _ (HI0.out.blw hb1)).mono ?_
    rintro e w1 ⟨b, rfl, hb, rfl⟩
    have HP : Hid (b = true ↔ rising n f) := hb
    clear hb
    cases b
    · have NP : Hid (¬ rising n f) := fun g => absurd (HP.out.2 g) (by decide)
      obtain ⟨⟨x0, x1, x2⟩, f0, f1, f2⟩ := res6 rR
      clear HP rA h rR
      go_wp2
      exact bodyPost_ret (v := .tuple #[.agg #[.slice none 0 0, .slice none 0 0, .slice none 0 0], .bool false]) (by simp [results, Try.results16, go_sem, x0, x1, x2]) rfl (zero_gives (Or.inr ⟨fun g => NP.out g.2, rfl, rfl⟩) hb1)
    · have NP : Hid (rising n f) := HP.out.1 rfl
      clear HP
      obtain ⟨p0, p1, p2⟩ := get3 rA
      go_wp2_with fail
      clear p0 p1 p2
      refine (l1Fail_any m M Y Y2 _ ao n c f GD.out h (HI0.out.blw hb1)).mono ?_
      rintro e w2 ⟨m2, rfl, own, hb2⟩
      simp only [MV.val, MD.full]
      have rlt := rR.lt
      obtain ⟨⟨x0, x1, x2⟩, f0, f1, f2⟩ := res6 (rR.blw hb2)
      replace hb2 := hb1.trans hb2
      clear rA h rR hb1
      go_wp2
      exact bodyPost_ret (v := .tuple #[.agg #[.slice m2.a1 12 m2.c1, .slice m2.a2 12 m2.c2, .slice m2.a3 12 m2.c3], .bool true]) (by simp [results, Try.results16, go_sem, x0, x1, x2]) rfl (some_gives (Or.inl ⟨GD.out, NP.out, rfl, rfl⟩) hb2 own (fun b hb => by have := hb.1; have := hb.2; exact ⟨by omega, by omega⟩) rfl)
set_option maxRecDepth 10000 in
set_option maxHeartbeats 1600000 in
theorem implFail_any (m : MV) (M : MD) (Y Y2 : Nat → Prop) (w : World) (ao : Option Addr) (n c : Nat) (f : Nat → Int) (h : MemAt Y w m M) (hI0 : IntsAt Y2 w ao n f) :
    Calls Try.prog 15 #[m.val M, .slice ao n c] w (Gives (fwOut M n f) w) := by
  have HI0 : Hid (IntsAt Y2 w ao n f) := hI0
  clear hI0
  go_enter Try.func15, Try.ntmps15
  go_wp2_with fail
  have hb0 : Blw w ((w.alloc (.cells #[.slice m.a1 M.n1 m.c1, .slice m.a2 M.n2 m.c2, .slice m.a3 M.n3 m.c3] 26)).alloc (.cells #[.slice none 0 0, .slice none 0 0, .slice none 0 0] 26)) := ((Blw.refl _).alloc _).alloc _
  have rR := res_row w (.slice m.a1 M.n1 m.c1) (.slice m.a2 M.n2 m.c2) (.slice m.a3 M.n3 m.c3)
  refine (holdMemory_any m M Y _ (h.blw hb0)).mono ?_
  rintro e w1 ⟨hr, hb1⟩
  replace rR := rR.blw hb1
  replace hb1 := hb0.trans hb1
  have r79 := row79 w1
  have zw := hb1.size
  have rlt := rR.lt
  clear h hb0
  rcases hr with ⟨good, cs, z1, z2, rfl⟩ | ⟨bad, rfl⟩
  · have hi : (Try.prog.info? 98).map (·.size) = some cs.size := by rw [z1]; exact info79
    have one := one_cells' z1 z2
    have GD : Hid M.Good := good
    clear good
    go_wp2_with (refine wpList_store_row rfl 98 (.tmp 6) (.tmp 13) rfl w1.heap.size 0 cs rfl rfl 108 _ (hcell M.v1 M.v2 M.d) r79 (by omega) hi one (fun j hj => z2 j (by omega)) ?_; intro wz qz1 qz2 qz3; have hz := held_facts hb1 rR qz1 qz2 z1; obtain ⟨rH, hbz, rZ⟩ := hz; clear qz1 qz2 qz3)
    have zlt := rH.lt
    clear r79 hi one z1 z2 rR hb1
    refine (risingLines_any ao c n f Y2 _ (HI0.out.blw hbz)).mono ?_
    rintro e wz ⟨b, rfl, hb, rfl⟩
    have HP : Hid (b = true ↔ rising n f) := hb
    clear hb
    cases b
    · have NP : Hid (¬ rising n f) := fun g => absurd (HP.out.2 g) (by decide)
      obtain ⟨⟨x0, x1, x2⟩, f0, f1, f2⟩ := res6 rZ
      clear HP rH rZ
      go_wp2
      exact bodyPost_ret (v := .tuple #[.agg #[.slice none 0 0, .slice none 0 0, .slice none 0 0], .bool false]) (by simp [results, Try.results15, go_sem, x0, x1, x2]) rfl (zero_gives (Or.inr ⟨fun g => NP.out g.2, rfl, rfl⟩) hbz)
    · have NP : Hid (rising n f) := HP.out.1 rfl
      clear HP
      go_wp2_with fail
      have HZ : Hid (Row wz w1.heap.size 108 (hcell M.v1 M.v2 M.d) ∧ Row wz (w.heap.size + 1) 3 (fun _ => .slice none 0 0) ∧ Blw w wz) := ⟨rH, rZ, hbz⟩
      clear rH rZ hbz zlt
      generalize w1.heap.size = z at *
      have hn := HI0.out.1
      go_loopw [25] (fun i wr => ∃ k : Nat, k ≤ n ∧ i = .int .i64 k ∧ Row wr z 108 (hcell (fpS M.v1 M.v2 (hasLine k f) 12) M.v2 (fkD M.d (hasLine k f))) ∧ Row wr (w.heap.size + 1) 3 (fun _ => .slice none 0 0) ∧ Blw w wr) (fun i _ => n - (intOf i).toNat)
      case atStart => exact ⟨0, by omega, rfl, by rw [fpS_none, fkD_none]; exact HZ.out.1, HZ.out.2.1, HZ.out.2.2⟩
      case round =>
        obtain ⟨k, hk, rfl, rH, rZ, hbz⟩ := hrel
        clear HZ
        by_cases hlt : k < n
        · obtain ⟨b0, o0, rfl, -, cell⟩ := (HI0.out.blw hbz).2 k hlt
          have hlt' : (k : Int) < n := by omega
          obtain ⟨q, hq⟩ := Int.eq_ofNat_of_zero_le (NP.out k hlt).1.1
          have hq12 : q < 12 := by have := (NP.out k hlt).1.2; omega
          rw [hq] at cell
          go_wp2_with fail
          refine (flushLine_any _ _ _ _ q _ hq12 rH).mono ?_
          rintro e w4 ⟨⟨v, rfl⟩, rH4, hm4⟩
          rw [fpS_more hq hq12, fkD_more hq] at rH4
          have J : Row w4 z 108 (hcell (fpS M.v1 M.v2 (hasLine (k + 1) f) 12) M.v2 (fkD M.d (hasLine (k + 1) f))) ∧ Row w4 (w.heap.size + 1) 3 (fun _ => .slice none 0 0) ∧ Blw w w4 := ⟨rH4, rZ.mod hm4 (by omega), Mod.blw hbz hm4 (fun i hi => by omega)⟩
          have HJ : Hid _ := J
          clear rH rZ hbz rH4 hm4 cell J
          go_wp2
          go_roundw
          case rel => exact ⟨k + 1, by omega, by go_num, HJ.out⟩
          case measure => simp [intOf]; omega
        · obtain rfl : k = n := by omega
          have zr := rZ.lt
          have hc2 := part_cells (o := 0) 95 rH (by omega) info76
          obtain ⟨c2, y2, e2, l2, L2, o2⟩ := hc2
          go_wp2_with (first
            | (refine wpList_load_mid rfl 95 (.tmp 32) rfl z 0 rfl c2 _ L2 Try.underlying95 rfl y2 ?_)
            | (refine wpList_store_row rfl 95 (.tmp 34) (.tmp 33) rfl z 48 c2.toArray rfl rfl 108 _ (fun j => hcell (fpS M.v1 M.v2 (hasLine k f) 12) M.v2 (fkD M.d (hasLine k f)) (0 + j)) rH (by rw [l2]; omega) (by rw [l2]; exact info76) o2 (fun j hj => e2 j (by omega)) ?_; intro w5 r5 m5 s5; rw [l2] at r5)
            | (refine wpList_clear_row rfl (.tmp 36) rfl z 96 12 12 rfl (by omega) 108 _ r5 (by omega) ?_; intro w6 r6 m6 s6))
          have rH6 : Row w6 z 108 (hcell (fpS M.v1 M.v2 (hasLine k f) 12) (fpC M.v1 M.v2 (hasLine k f) 12) (faD M.d 12)) := r6.congr (fun j hj => hcell_back j hj)
          replace rZ := (rZ.mod m5 (by omega)).mod m6 (by omega)
          replace hbz : Blw w w6 := Mod.blw (Mod.blw hbz m5 (fun i hi => by omega)) m6 (fun i hi => by omega)
          clear r5 r6 m5 m6 rH y2 e2 l2 L2 o2 s5 s6
          refine (giveOut_any _ _ _ _ _ rH6).mono ?_
          rintro e w7 ⟨m4, rfl, own, hb4⟩
          simp only [MV.val, MD.full]
          obtain ⟨⟨x0, x1, x2⟩, f0, f1, f2⟩ := res6 (rZ.blw hb4)
          replace hbz := hbz.trans hb4
          have r3lt := rZ.lt
          clear rH6 rZ hb4
          go_wp2
          exact bodyPost_ret (v := .tuple #[.agg #[.slice m4.a1 12 m4.c1, .slice m4.a2 12 m4.c2, .slice m4.a3 12 m4.c3], .bool true]) (by simp [results, Try.results15, go_sem, x0, x1, x2]) rfl (some_gives (Or.inl ⟨GD.out, NP.out, rfl, rfl⟩) hbz own (fun b hb => by have := hb.1; have := hb.2; exact ⟨by omega, by omega⟩) rfl)
  · have NG : Hid (¬ M.Good) := bad
    clear bad
    go_wp2_with (refine wpList_store_row rfl 98 (.tmp 6) (.tmp 13) rfl w1.heap.size 0 Try.zeroCells98 rfl rfl 108 _ (hcell zeros zeros (fun _ => false)) r79 (by rw [size79]; omega) (by rw [size79]; exact info79) one79 cell79 ?_; intro wz qz1 qz2 qz3; have hz := held_facts hb1 rR qz1 qz2 size79; obtain ⟨rH, hbz, rZ⟩ := hz; obtain ⟨⟨x0, x1, x2⟩, f0, f1, f2⟩ := res6 rZ; clear qz1 qz2 qz3 rH rZ)
    exact bodyPost_ret (v := .tuple #[.agg #[.slice none 0 0, .slice none 0 0, .slice none 0 0], .bool false]) (by simp [results, Try.results15, go_sem, x0, x1, x2]) rfl (zero_gives (Or.inr ⟨fun g => NG.out g.1, rfl, rfl⟩) hbz)
end Go.Proofs.Ytnbcjdoohmjghaa
/- What stays good, and what is loaded behind a store. -/
namespace Go.Proofs.Ytnbcjdoohmjghaa
open Go.RowKit
theorem good_full {s c : Nat → Nat → Int} {d : Nat → Bool} : (MD.full s c d).Good ↔ ∀ k, k < 12 → (∀ j, j < 4 → wordOK (s k j)) ∧ (∀ j, j < 4 → wordOK (c k j)) ∧ (d k = false → ∀ j, j < 4 → s k j = c k j) := by
  constructor
  · intro g k hk
    have o := g.ok k hk
    exact ⟨o.a.2, o.b.2, o.c⟩
  · intro h
    refine ⟨rfl, rfl, rfl, fun k hk => ?_⟩
    obtain ⟨h1, h2, h3⟩ := h k hk
    exact ⟨⟨rfl, h1⟩, ⟨rfl, h2⟩, h3⟩
theorem good_parts {M : MD} (g : M.Good) : ∀ k, k < 12 → (∀ j, j < 4 → wordOK (M.v1 k j)) ∧ (∀ j, j < 4 → wordOK (M.v2 k j)) ∧ (M.d k = false → ∀ j, j < 4 → M.v1 k j = M.v2 k j) := fun k hk =>
  let o := g.ok k hk
  ⟨o.a.2, o.b.2, o.c⟩
theorem good_st {s c : Nat → Nat → Int} {d : Nat → Bool} {n : Nat} {x : Int} (g : (MD.full s c d).Good) (hx : 0 ≤ x ∧ x ≤ 65535) : (MD.full s (stC c n x) (stD d n)).Good := by
  rw [good_full] at g ⊢
  intro k hk
  obtain ⟨h1, h2, h3⟩ := g k hk
  refine ⟨h1, fun j hj => ?_, fun hd j hj => ?_⟩
  · unfold stC
    split
    · exact hx
    · exact h2 j hj
  · unfold stD at hd
    split at hd
    · cases hd
    · unfold stC
      rw [if_neg (by omega)]
      exact h3 hd j hj
theorem good_same {M : MD} (g : M.Good) : (MD.full M.v1 M.v2 M.d).Good := good_full.2 (good_parts g)
theorem stOut_good {M M' : MD} {x y : Int} (h : stOut M x y M' true) : M.Good ∧ M'.Good ∧ ∃ n : Nat, x = n ∧ n < 48 ∧ M'.v2 = stC M.v2 n y := by
  rcases h with ⟨g, n, rfl, hn, hy, rfl, _⟩ | ⟨_, _, h⟩
  · exact ⟨g, good_st (good_same g) hy, n, rfl, hn, rfl⟩
  · cases h
theorem good_sa {s c : Nat → Nat → Int} {d : Nat → Bool} {a : Nat} {f : Nat → Int} (g : (MD.full s c d).Good) : ∀ n, (∀ i, i < n → 0 ≤ f i ∧ f i ≤ 65535) → (MD.full s (saC c a f n) (saD d a n)).Good := by
  intro n
  induction n with
  | zero => intro _; exact g
  | succ n ih => intro h; exact good_st (ih (fun i hi => h i (by omega))) (h n (by omega))
theorem saC_at {c : Nat → Nat → Int} {a : Nat} {f : Nat → Int} : ∀ n i, i < n → saC c a f n ((a + i) / 4) ((a + i) % 4) = f i := by
  intro n
  induction n with
  | zero => intro i hi; omega
  | succ n ih =>
    intro i hi
    show stC (saC c a f n) (a + n) (f n) _ _ = _
    unfold stC
    by_cases e : i = n
    · subst e
      rw [if_pos ⟨rfl, rfl⟩]
    · rw [if_neg (by omega)]
      exact ih i (by omega)
theorem saC_other {c : Nat → Nat → Int} {a : Nat} {f : Nat → Int} {i j : Nat} : ∀ n, (∀ t, t < n → ¬ (i = (a + t) / 4 ∧ j = (a + t) % 4)) → saC c a f n i j = c i j := by
  intro n
  induction n with
  | zero => intro _; rfl
  | succ n ih =>
    intro h
    show stC (saC c a f n) (a + n) (f n) _ _ = _
    unfold stC
    rw [if_neg (h n (by omega))]
    exact ih (fun t ht => h t (by omega))
theorem saOut_good {M M' : MD} {x : Int} {n : Nat} {f : Nat → Int} (h : saOut M x n f M' true) : M.Good ∧ M'.Good ∧ stretch x n ∧ M' = MD.full M.v1 (saC M.v2 x.toNat f n) (saD M.d x.toNat n) := by
  rcases h with ⟨g, hs, hf, rfl, _⟩ | ⟨_, _, h⟩
  · exact ⟨g, good_sa (good_same g) n hf, hs, rfl⟩
  · cases h
/-- What was stored at once is loaded at once. -/
theorem sa_la {M M' : MD} {x : Int} {n n' : Nat} {f f' : Nat → Int} {b : Bool} (h : saOut M x n f M' true) (k : laOut M' x n n' f' b) : b = true ∧ n' = n ∧ ∀ i, i < n → f' i = f i := by
  obtain ⟨g, g', hs, rfl⟩ := saOut_good h
  rcases k with ⟨_, _, en, ef, rfl⟩ | ⟨ng, _⟩
  · refine ⟨rfl, by omega, fun i hi => ?_⟩
    rw [ef]
    show saC M.v2 x.toNat f n ((x.toNat + i) / 4) ((x.toNat + i) % 4) = f i
    exact saC_at n i hi
  · exact absurd ⟨g', hs⟩ ng
/-- Behind a store every word is what it was, but one. -/
theorem st_ld {M M' : MD} {x y a b : Int} {k : Nat} {p q : Bool} (h : stOut M x y M' true) (hk : k < 48) (ha : ldOut M k a p) (hb : ldOut M' k b q) : p = true ∧ q = true ∧ ((k : Int) = x → b = y) ∧ (¬ (k : Int) = x → a = b) := by
  obtain ⟨g, g', n, rfl, hn, e⟩ := stOut_good h
  rcases ha with ⟨_, k1, e1, _, rfl, rfl⟩ | ⟨ng, _⟩
  · rcases hb with ⟨_, k2, e2, _, rfl, rfl⟩ | ⟨ng, _⟩
    · obtain rfl : k1 = k := by omega
      obtain rfl : k2 = k1 := by omega
      refine ⟨rfl, rfl, fun e3 => ?_, fun e3 => ?_⟩
      · obtain rfl : k2 = n := by omega
        rw [e]
        simp [stC]
      · rw [e]
        unfold stC
        rw [if_neg (by omega)]
    · exact absurd ⟨g', by omega, by omega⟩ ng
  · exact absurd ⟨g, by omega, by omega⟩ ng
end Go.Proofs.Ytnbcjdoohmjghaa
/- What a failure and a flush leave. -/
namespace Go.Proofs.Ytnbcjdoohmjghaa
open Go.RowKit
set_option linter.unusedVariables false
/-- Two memories of twelve lines read alike. -/
structure Alike (M M' : MD) : Prop where
  f : ∃ s c d, M = MD.full s c d
  f' : ∃ s c d, M' = MD.full s c d
  s : ∀ k, k < 12 → ∀ j, j < 4 → M.v1 k j = M'.v1 k j
  c : ∀ k, k < 12 → ∀ j, j < 4 → M.v2 k j = M'.v2 k j
  d : ∀ k, k < 12 → M.d k = M'.d k
theorem MemAt.alike {Y : Nat → Prop} {w : World} {m : MV} {M M' : MD} (h : MemAt Y w m M) (A : Alike M M') : MemAt Y w m M' := by
  obtain ⟨s, c, d, rfl⟩ := A.f
  obtain ⟨s', c', d', rfl⟩ := A.f'
  exact ⟨h.s.congr (fun _ _ => rfl) A.s, h.c.congr (fun _ _ => rfl) A.c, h.d.congr A.d⟩
theorem val_alike {m : MV} {M M' : MD} (A : Alike M M') : m.val M = m.val M' := by
  obtain ⟨s, c, d, rfl⟩ := A.f
  obtain ⟨s', c', d', rfl⟩ := A.f'
  rfl
theorem fw_true {M M' : MD} {n : Nat} {f : Nat → Int} (h : fwOut M n f M' true) : M.Good ∧ M'.Good ∧ (∃ s c d, M' = MD.full s c d) ∧ ∀ k, k < 12 → M'.d k = false ∧ (hasLine n f k → ∀ j, j < 4 → M'.v2 k j = M.v2 k j) ∧ (¬ hasLine n f k → ∀ j, j < 4 → M'.v2 k j = M.v1 k j) ∧ ∀ j, j < 4 → M'.v1 k j = M'.v2 k j := by
  rcases h with ⟨g, hr, rfl, _⟩ | ⟨_, _, h⟩
  · have P := good_parts g
    have e : ∀ k, k < 12 → ∀ j, fpS M.v1 M.v2 (hasLine n f) 12 k j = fpC M.v1 M.v2 (hasLine n f) 12 k j := fun k hk j => fp_same hk j
    have c1 : ∀ k, k < 12 → hasLine n f k → ∀ j, fpC M.v1 M.v2 (hasLine n f) 12 k j = M.v2 k j := fun k hk hh j => by simp [fpC, hk, hh]
    have c2 : ∀ k, k < 12 → ¬ hasLine n f k → ∀ j, fpC M.v1 M.v2 (hasLine n f) 12 k j = M.v1 k j := fun k hk hh j => by simp [fpC, hk, hh]
    have ok : ∀ k, k < 12 → ∀ j, j < 4 → wordOK (fpC M.v1 M.v2 (hasLine n f) 12 k j) := fun k hk j hj => by
      by_cases hh : hasLine n f k
      · rw [c1 k hk hh]; exact (P k hk).2.1 j hj
      · rw [c2 k hk hh]; exact (P k hk).1 j hj
    refine ⟨g, good_full.2 (fun k hk => ⟨fun j hj => by rw [e k hk]; exact ok k hk j hj, ok k hk, fun _ j _ => e k hk j⟩), ⟨_, _, _, rfl⟩, fun k hk => ⟨by simp [MD.full, faD, hk], fun hh j _ => c1 k hk hh j, fun hh j _ => c2 k hk hh j, fun j _ => e k hk j⟩⟩
  · cases h
theorem fa_good {M M' : MD} {b : Bool} (g : M.Good) (h : faOut M M' b) : b = true ∧ M'.Good ∧ (∃ s c d, M' = MD.full s c d) ∧ ∀ k, k < 12 → M'.d k = false ∧ (∀ j, j < 4 → M'.v1 k j = M.v2 k j) ∧ ∀ j, j < 4 → M'.v2 k j = M.v2 k j := by
  rcases h with ⟨_, rfl, rfl⟩ | ⟨ng, _⟩
  · have P := good_parts g
    have e : ∀ k, k < 12 → ∀ j, faS M.v1 M.v2 12 k j = M.v2 k j := fun k hk j => by simp [faS, hk]
    refine ⟨rfl, good_full.2 (fun k hk => ⟨fun j hj => by rw [e k hk]; exact (P k hk).2.1 j hj, (P k hk).2.1, fun _ j _ => e k hk j⟩), ⟨_, _, _, rfl⟩, fun k hk => ⟨by simp [MD.full, faD, hk], fun j _ => e k hk j, fun _ _ => rfl⟩⟩
  · exact absurd g ng
theorem rising_nil (f : Nat → Int) : rising 0 f := fun i hi => absurd hi (Nat.not_lt_zero _)
/-- A failure of a memory where nothing is dirty leaves it as it is. -/
theorem fw_clean {M M' : MD} {f : Nat → Int} {b : Bool} (g : M.Good) (hf : ∃ s c d, M = MD.full s c d) (hd : ∀ k, k < 12 → M.d k = false) (h : fwOut M 0 f M' b) : b = true ∧ Alike M M' := by
  have hb : b = true := by
    rcases h with ⟨_, _, _, rfl⟩ | ⟨ng, _⟩
    · rfl
    · exact absurd ⟨g, rising_nil f⟩ ng
  subst hb
  obtain ⟨_, _, hf', hk⟩ := fw_true h
  have P := good_parts g
  refine ⟨rfl, hf, hf', fun k hk' j hj => ?_, fun k hk' j hj => ?_, fun k hk' => by rw [(hk k hk').1, hd k hk']⟩
  · rw [(hk k hk').2.2.2 j hj, (hk k hk').2.2.1 (has_none f k) j hj]
  · rw [(hk k hk').2.2.1 (has_none f k) j hj, (P k hk').2.2 (hd k hk') j hj]
theorem good_zeros : (MD.full zeros zeros (fun _ => false)).Good :=
  good_full.2 (fun k hk => ⟨fun j hj => ⟨Int.le_refl 0, show (0 : Int) ≤ 65535 by decide⟩, fun j hj => ⟨Int.le_refl 0, show (0 : Int) ≤ 65535 by decide⟩, fun _ j _ => rfl⟩)
end Go.Proofs.Ytnbcjdoohmjghaa
/- 'impl.ReadSlots'. -/
namespace Go.Proofs.Ytnbcjdoohmjghaa
open Go.RowKit
set_option linter.unusedSimpArgs false
theorem words_at {w : World} {B i : Nat} {s c : Nat → Nat → Int} {d : Nat → Bool} (h : Row w B 108 (hcell s c d)) (hi : i < 12) : w.rangeAt B (48 + i * 4) (words4 (c i)) := by
  intro j v hv
  have hh : ∀ j, j < 4 → w.cell? ⟨B, 48 + i * 4 + j, none⟩ = some (.int .i64 (c i j)) := fun j hj => by
    have := h.cell (i := 48 + (i * 4 + j)) (by omega)
    rw [hcell_c hi hj, ← Nat.add_assoc] at this
    exact this
  match j, hv with
  | 0, hv => rw [hh 0 (by omega)]; exact hv
  | 1, hv => rw [hh 1 (by omega)]; exact hv
  | 2, hv => rw [hh 2 (by omega)]; exact hv
  | 3, hv => rw [hh 3 (by omega)]; exact hv
  | j + 4, hv => simp [words4] at hv
theorem four_words (f : Nat → Int) : Value.agg (words4 f).toArray = .agg (four f) := rfl
/-- What is appended: a slot in a new block. -/
theorem slot_src (w : World) (e a b : Int) : ∀ j u, [Value.int .i64 e, .int .i64 a, .int .i64 b][j]? = some u → (w.alloc (.cells #[.int .i64 e, .int .i64 a, .int .i64 b] 56)).cell? ((⟨w.heap.size, 0, none⟩ : Addr).add j) = some u := fun j u hj => by
  have r := box3 w (.int .i64 e) (.int .i64 a) (.int .i64 b) 56
  obtain ⟨r0, r1, r2⟩ := get3 r
  match j, hj with
  | 0, hj => rw [← hj]; exact r0
  | 1, hj => rw [← hj]; exact r1
  | 2, hj => rw [← hj]; exact r2
  | j + 3, hj => simp at hj
theorem slot_one (e a b : Int) : ∀ u ∈ [Value.int .i64 e, .int .i64 a, .int .i64 b], u.oneCell' = true := fun u hu => by
  simp only [List.mem_cons, List.not_mem_nil, or_false] at hu
  rcases hu with rfl | rfl | rfl <;> rfl
set_option maxRecDepth 10000 in
set_option maxHeartbeats 3200000 in
theorem implRead_any (m : MV) (M : MD) (Y : Nat → Prop) (w : World) (h : MemAt Y w m M) :
    Calls Try.prog 53 #[m.val M] w (GivesS (rsOut M) w) := by
  obtain ⟨i0, hi0, hz0, hz1, hz2⟩ := info_parts tinfo56
  go_enter Try.func53, Try.ntmps53
  go_wp2_with fail
  have hb0 : Blw w (w.alloc (.cells #[.slice m.a1 M.n1 m.c1, .slice m.a2 M.n2 m.c2, .slice m.a3 M.n3 m.c3] 26)) := (Blw.refl _).alloc _
  refine (holdMemory_any m M Y _ (h.blw hb0)).mono ?_
  rintro e w1 ⟨hr, hb1⟩
  replace hb1 := hb0.trans hb1
  have r79 := row79 w1
  have zw := hb1.size
  clear h hb0
  rcases hr with ⟨good, cs, z1, z2, rfl⟩ | ⟨bad, rfl⟩
  · have hi : (Try.prog.info? 98).map (·.size) = some cs.size := by rw [z1]; exact info79
    have one := one_cells' z1 z2
    have GD : Hid M.Good := good
    clear good
    go_wp2_with (refine wpList_store_row rfl 98 (.tmp 4) (.tmp 13) rfl w1.heap.size 0 cs rfl rfl 108 _ (hcell M.v1 M.v2 M.d) r79 (by omega) hi one (fun j hj => z2 j (by omega)) ?_; intro wz qz1 qz2 qz3; have hz := held_facts' hb1 qz1 qz2 z1; obtain ⟨rH, hbz⟩ := hz; clear qz1 qz2 qz3)
    have HZ : Hid (Row wz w1.heap.size 108 (hcell M.v1 M.v2 M.d) ∧ Blw w wz) := ⟨rH, hbz⟩
    clear r79 hi one z1 z2 hb1 rH hbz
    generalize w1.heap.size = z at *
    go_loopw [6, 17] (fun v i wr => ∃ k : Nat, k ≤ 2 ∧ i = .int .i64 k ∧ PutS wz wr v (rdL M.v2 k)) (fun _ i _ => 2 - (intOf i).toNat)
    case atStart => exact ⟨0, by omega, rfl, PutS.nil (Blw.refl _)⟩
    case round =>
      obtain ⟨k, hk, rfl, I⟩ := hrel
      by_cases hlt : k < 2
      · have hlt' : (k : Int) < 2 := by omega
        have HI : Hid (PutS wz wr _ (rdL M.v2 k)) := I
        have L := words_at (HZ.out.1.blw I.blw) (i := k) (by omega)
        clear I
        go_wp2_with (refine wpList_load_mid rfl 94 (.tmp 24) rfl z (48 + k * 4) rfl (words4 (M.v2 k)) _ L Try.underlying94 rfl info75 ?_; rw [four_words])
        clear L
        refine (slotIn_any k (M.v2 k) _ hlt).mono ?_
        rintro r w2 ⟨hr, hb2⟩
        have ln := rdL_len M.v2 k
        rcases hr with ⟨hr, rfl⟩ | ⟨hr, rfl⟩
        · have HR : Hid (recI (M.v2 k) k) := hr
          have hb3 : Blw wr ((w2.alloc (.cells #[.int .i64 (M.v2 k 0), .int .i64 (M.v2 k 1), .int .i64 (M.v2 k 2)] 56)).alloc (.cells #[.int .i64 (M.v2 k 0), .int .i64 (M.v2 k 1), .int .i64 (M.v2 k 2)] 56)) := (hb2.alloc _).alloc _
          have HO : Hid (PutS wz ((w2.alloc (.cells #[.int .i64 (M.v2 k 0), .int .i64 (M.v2 k 1), .int .i64 (M.v2 k 2)] 56)).alloc (.cells #[.int .i64 (M.v2 k 0), .int .i64 (M.v2 k 1), .int .i64 (M.v2 k 2)] 56)) _ (rdL M.v2 k)) := HI.out.more hb3
          have HSrc := slot_src (w2.alloc (.cells #[.int .i64 (M.v2 k 0), .int .i64 (M.v2 k 1), .int .i64 (M.v2 k 2)] 56)) (M.v2 k 0) (M.v2 k 1) (M.v2 k 2)
          rw [World.size_alloc] at HSrc
          have HS : Hid _ := HSrc
          clear hb3 hb2 HSrc HI hr
          go_wp2_with (at_builtin; refine wpList_append_lies _ rfl (.tmp 30) (.tmp 32) 64 rfl 0 56 i0 (.agg #[.int .i64 0, .int .i64 0, .int .i64 0]) 3 24 Try.underlying64 hi0 hz0 hz1 hz2 rfl (by decide) _ (rdL M.v2 k).length _ rfl HO.out.own ⟨w2.heap.size + 1, 0, none⟩ 1 1 [.int .i64 (M.v2 k 0), .int .i64 (M.v2 k 1), .int .i64 (M.v2 k 2)] rfl (by simp) HS.out (slot_one _ _ _) (by omega) (by unfold maxLen; omega) (by omega) (by omega) _ rfl ?_; intro g cap w' own' gr hg hgl; have I' := HO.out.next (t := (M.v2 k 0, M.v2 k 1, M.v2 k 2)) own' gr hg hgl; clear own' gr hg hgl)
          clear HO HS
          go_roundw
          case rel => exact ⟨k + 1, by omega, by go_num, by rw [rdL_yes HR.out]; exact I'⟩
          case measure => simp [intOf]; omega
        · have HR : Hid (¬ recI (M.v2 k) k) := hr
          have hb3 : Blw wr (w2.alloc (.cells #[.int .i64 0, .int .i64 0, .int .i64 0] 56)) := hb2.alloc _
          have I' := HI.out.more hb3
          clear hb3 hb2 HI hr
          go_wp2
          go_roundw
          case rel => exact ⟨k + 1, by omega, by go_num, by rw [rdL_no HR.out]; exact I'⟩
          case measure => simp [intOf]; omega
      · obtain rfl : k = 2 := by omega
        obtain ⟨ao, cap, rfl, own⟩ := I.owned (rdL_len M.v2 2)
        have hbI := HZ.out.2.trans I.blw
        have zz := HZ.out.2.size
        clear I HZ
        go_wp2
        go_ret2
        exact ⟨ao, _, cap, _, true, rfl, Or.inl ⟨GD.out, rfl, rfl, rfl⟩, own.mono (fun b hb => ⟨by omega, hb.2⟩), hbI⟩
  · have NG : Hid (¬ M.Good) := bad
    clear bad
    go_wp2_with (refine wpList_store_row rfl 98 (.tmp 4) (.tmp 13) rfl w1.heap.size 0 Try.zeroCells98 rfl rfl 108 _ (hcell zeros zeros (fun _ => false)) r79 (by rw [size79]; omega) (by rw [size79]; exact info79) one79 cell79 ?_; intro wz qz1 qz2 qz3; have hz := held_facts' hb1 qz1 qz2 size79; obtain ⟨rH, hbz⟩ := hz; clear qz1 qz2 qz3 rH)
    go_ret2
    exact zero_givesS NG.out hbz
end Go.Proofs.Ytnbcjdoohmjghaa
/- 'spec.l2Read' and 'spec.ReadSlots'. -/
namespace Go.Proofs.Ytnbcjdoohmjghaa
open Go.RowKit
set_option linter.unusedSimpArgs false
set_option maxRecDepth 10000 in
set_option maxHeartbeats 3200000 in
theorem l2Read_any (m : MV) (M : MD) (Y : Nat → Prop) (w : World) (g : M.Good) (h : MemAt Y w m M) :
    Calls Try.prog 104 #[m.val M] w fun r w' => ∃ ao cap, r = .returned (.slice ao (rdL M.v2 2).length cap) ∧ SlotsOwn (fun b => w.heap.size ≤ b ∧ b < w'.heap.size) w' ao (rdL M.v2 2).length (lf (rdL M.v2 2)) ∧ Blw w w' := by
  obtain ⟨i0, hi0, hz0, hz1, hz2⟩ := info_parts tinfo56
  have GD : Hid M.Good := g
  clear g
  go_enter Try.func104, Try.ntmps104
  go_wp2_with fail
  have hb0 : Blw w (w.alloc (.cells #[.slice m.a1 M.n1 m.c1, .slice m.a2 M.n2 m.c2, .slice m.a3 M.n3 m.c3] 26)) := (Blw.refl _).alloc _
  have rA := box3 w (.slice m.a1 M.n1 m.c1) (.slice m.a2 M.n2 m.c2) (.slice m.a3 M.n3 m.c3) 26
  have z0 : w.heap.size ≤ (w.alloc (.cells #[.slice m.a1 M.n1 m.c1, .slice m.a2 M.n2 m.c2, .slice m.a3 M.n3 m.c3] 26)).heap.size := hb0.size
  replace h := h.blw hb0
  have en : M.n2 = 12 := GD.out.n2
  have HH : Hid (MemAt Y _ m M ∧ Box _ w.heap.size m M ∧ Blw w _) := And.intro h (And.intro rA hb0)
  clear h rA hb0
  generalize w.alloc (.cells #[.slice m.a1 M.n1 m.c1, .slice m.a2 M.n2 m.c2, .slice m.a3 M.n3 m.c3] 26) = w0 at *
  go_loopw [3, 4] (fun v i wr => ∃ k : Nat, k ≤ 2 ∧ i = .int .i64 k ∧ PutS w0 wr v (rdL M.v2 k)) (fun _ i _ => 2 - (intOf i).toNat)
  case atStart => exact ⟨0, by omega, rfl, PutS.nil (Blw.refl _)⟩
  case round =>
    obtain ⟨k, hk, rfl, I⟩ := hrel
    by_cases hlt : k < 2
    · have hlt' : (k : Int) < 2 := by omega
      have HI : Hid (PutS w0 wr _ (rdL M.v2 k)) := I
      obtain ⟨-, hl⟩ := (HH.out.1.blw I.blw).c
      obtain ⟨b2, o2, a1, cc, e2, -, l1, l2⟩ := hl k (by omega)
      have ok := (GD.out.ok k (by omega)).b
      have el : M.l2 k = 4 := ok.1
      rw [el] at l1 l2
      obtain ⟨b1, o1, rfl, -, t0⟩ := l2.2 0 (by omega)
      have hcell : ∀ t, t < 4 → wr.cell? ⟨b1, o1 + t, none⟩ = some (.int .i64 (M.v2 k t)) := fun t ht => by
        obtain ⟨b', o', e', -, c'⟩ := l2.2 t ht
        simp only [Option.some.injEq, Addr.mk.injEq, and_true] at e'
        obtain ⟨rfl, rfl⟩ := e'
        exact c'
      have t1 := hcell 1 (by omega)
      have t2 := hcell 2 (by omega)
      have t3 := hcell 3 (by omega)
      simp only [Nat.add_zero] at t0
      obtain ⟨q0, q1, q2⟩ := get3 (HH.out.2.1.blw I.blw)
      rw [e2, en] at q1
      have hk12 : (k : Int) < 12 := by omega
      clear hl l2 ok hcell I
      go_wp2_with fail
      have L1 : Hid (wr.cell? ⟨b2, o2 + k, none⟩ = some (.slice (some ⟨b1, o1, none⟩) 4 cc)) := l1
      have T0 : ∀ w', Blw wr w' → w'.cell? ⟨b1, o1, none⟩ = some (.int .i64 (M.v2 k 0)) := fun w' hb => hb.cell t0
      have T1 : ∀ w', Blw wr w' → w'.cell? ⟨b1, o1 + 1, none⟩ = some (.int .i64 (M.v2 k 1)) := fun w' hb => hb.cell t1
      have T2 : ∀ w', Blw wr w' → w'.cell? ⟨b1, o1 + 2, none⟩ = some (.int .i64 (M.v2 k 2)) := fun w' hb => hb.cell t2
      have T3 : ∀ w', Blw wr w' → w'.cell? ⟨b1, o1 + 3, none⟩ = some (.int .i64 (M.v2 k 3)) := fun w' hb => hb.cell t3
      clear t0 t1 t2 t3 q0 q1 q2 l1
      go_cut [6] from 7 to 47 (fun c wx => c = .pointer (some ⟨wr.heap.size, 0, none⟩) ∧ Blw wr wx ∧ Row wx wr.heap.size 3 (fun i => if i = 0 then Value.int .i64 (M.v2 k 0) else if i = 1 then .int .i64 (M.v2 k 1) else .int .i64 (M.v2 k 2)))
      case first =>
        go_region_held3 (fun w' => Blw wr w') ((first | exact (Blw.refl _).drew | assumption | exact Blw.alloc (Blw.refl _).drew _)) (fail)
        all_goals go_wp2_with fail
        all_goals go_meet
        all_goals exact ⟨rfl, Blw.alloc (Blw.refl _).drew _, box3 wr.drew _ _ _ 56⟩
      case rest =>
        obtain ⟨rfl, hbx, rX⟩ := hcut
        have lenL := rdL_len M.v2 k
        generalize hwx : wc = wx at *
        clear hwx wc
        obtain ⟨S0, S1, S2⟩ := box3_all rX
        replace T3 : ∀ w', Blw wx w' → w'.cell? ⟨b1, o1 + 3, none⟩ = some (.int .i64 (M.v2 k 3)) := fun w' hb => T3 _ (hbx.trans hb)
        clear T0 T1 T2
        go_upto_region 7 with fail
        go_cut [43] from 7 to 47 (fun c wy => ∃ bb, c = .bool bb ∧ (bb = true ↔ recI (M.v2 k) k) ∧ Blw wx wy)
        case first =>
          by_cases hn : slotOK (M.v2 k 0) (M.v2 k 1) (M.v2 k 2)
          · have HN : Hid (slotOK (M.v2 k 0) (M.v2 k 1) (M.v2 k 2)) := hn
            have htm : (M.v2 k 0).tmod 2 = M.v2 k 0 % 2 := Int.tmod_eq_emod_of_nonneg (by have := hn.1.1; omega)
            clear hn
            by_cases hp : M.v2 k 0 % 2 = (k : Int)
            · have d1 : ((M.v2 k 0 % 2) == (k : Int)) = true := by simp [hp]
              by_cases hs : sumOf (M.v2 k 0) (M.v2 k 1) (M.v2 k 2) = M.v2 k 3
              · have d2 : (sumOf (M.v2 k 0) (M.v2 k 1) (M.v2 k 2) == M.v2 k 3) = true := by simp [hs]
                have HP : Hid (recI (M.v2 k) k) := ⟨HN.out, hp, hs⟩
                clear hp hs
                refine wp_region_noPanic ?_
                refine wp_region_held_drew (S := fun w' => Blw wx w') (by kernel_rfl) ((Blw.refl _).drew) (fun hB1 => ?_)
                revert hB1
                generalize wx.drew = wd1
                intro hB1
                refine wpAnyH_take (i := 0) (oi := { dst := some 27, op := Op.load 56 (Operand.tmp 6), type := 56, pos := _, after := #[], guard := none }) (v := slotV (M.v2 k 0) (M.v2 k 1) (M.v2 k 2)) rfl (by kernel_rfl) (by kernel_rfl) (by kernel_rfl) (fun _ _ _ h => h) (Or.inl ⟨by rfl, fun w' hS => by (try dsimp only at hS); go_simp⟩) hB1 ?_
                simp only [Act.put, List.setIfInBounds_toArray, List.set_cons_zero, List.set_cons_succ]
                refine wpAnyH_ready (rs := [1]) (by kernel_rfl) (by simp) ?_
                refine AllReadyH.cons (o := { dst := some 28, op := Op.call { callee := Callee.value (Operand.func 108), args := #[Operand.tmp 27], argTypes := #[56] }, type := 4, pos := _, after := #[{ on := 0, ground := Ground.data }], guard := none }) rfl (fun K hK => ?_) AllReadyH.nil
                go_simp
                refine (l2Slot_yes _ _ _ _ HN.out).mono ?_
                rintro r wq ⟨rfl, hbq⟩
                refine hK.out _ _ (hB1.trans hbq) (fun hB2 => ?_)
                clear hK K
                try simp only [Act.put, List.setIfInBounds_toArray, List.set_cons_zero, List.set_cons_succ]
                refine wpAnyH_take (i := 2) (oi := { dst := some 29, op := Op.move (Operand.tmp 28), type := 4, pos := _, after := #[{ on := 1, ground := Ground.data }, { on := 1, ground := Ground.chain }], guard := none }) (v := .bool true) rfl (by kernel_rfl) (by kernel_rfl) (by kernel_rfl) (fun _ _ _ h => h) (Or.inl ⟨by rfl, fun w' hS => by (try dsimp only at hS); go_simp⟩) hB2 ?_
                simp only [Act.put, List.setIfInBounds_toArray, List.set_cons_zero, List.set_cons_succ]
                refine wpAnyH_take (i := 3) (oi := { dst := some 30, op := Op.fieldAddr 56 (Operand.tmp 6) 0, type := 0, pos := _, after := #[{ on := 2, ground := Ground.guard }], guard := some (2, true) }) (v := .pointer (some ⟨wr.heap.size, 0, none⟩)) rfl (by kernel_rfl) (by kernel_rfl) (by kernel_rfl) (fun _ _ _ h => h) (Or.inl ⟨by rfl, fun w' hS => by (try dsimp only at hS); go_simp⟩) hB2 ?_
                simp only [Act.put, List.setIfInBounds_toArray, List.set_cons_zero, List.set_cons_succ]
                refine wpAnyH_take (i := 4) (oi := { dst := some 31, op := Op.load 3 (Operand.tmp 30), type := 3, pos := _, after := #[{ on := 3, ground := Ground.data }, { on := 2, ground := Ground.guard }], guard := some (2, true) }) (v := .int .i64 (M.v2 k 0)) rfl (by kernel_rfl) (by kernel_rfl) (by kernel_rfl) (fun _ _ _ h => h) (Or.inl ⟨by rfl, fun w' hS => by (try dsimp only at hS); go_simp⟩) hB2 ?_
                simp only [Act.put, List.setIfInBounds_toArray, List.set_cons_zero, List.set_cons_succ]
                refine wpAnyH_take (i := 5) (oi := { dst := some 32, op := Op.binOp BinOp.rem 3 (Operand.tmp 31) (Operand.const (Value.int IntKind.i64 2)) 3, type := 3, pos := _, after := #[{ on := 4, ground := Ground.data }, { on := 2, ground := Ground.guard }], guard := some (2, true) }) (v := .int .i64 ((M.v2 k 0) % 2)) rfl (by kernel_rfl) (by kernel_rfl) (by kernel_rfl) (fun _ _ _ h => h) (Or.inl ⟨by rfl, fun w' hS => by (try dsimp only at hS); go_simp⟩) hB2 ?_
                simp only [Act.put, List.setIfInBounds_toArray, List.set_cons_zero, List.set_cons_succ]
                refine wpAnyH_take (i := 6) (oi := { dst := some 33, op := Op.move (Operand.tmp 4), type := 3, pos := _, after := #[{ on := 2, ground := Ground.guard }], guard := some (2, true) }) (v := .int .i64 k) rfl (by kernel_rfl) (by kernel_rfl) (by kernel_rfl) (fun _ _ _ h => h) (Or.inl ⟨by rfl, fun w' hS => by (try dsimp only at hS); go_simp⟩) hB2 ?_
                simp only [Act.put, List.setIfInBounds_toArray, List.set_cons_zero, List.set_cons_succ]
                refine wpAnyH_take (i := 7) (oi := { dst := some 34, op := Op.binOp BinOp.eql 3 (Operand.tmp 32) (Operand.tmp 33) 3, type := 4, pos := _, after := #[{ on := 5, ground := Ground.data }, { on := 6, ground := Ground.data }, { on := 2, ground := Ground.guard }], guard := some (2, true) }) (v := .bool true) rfl (by kernel_rfl) (by kernel_rfl) (by kernel_rfl) (fun _ _ _ h => h) (Or.inl ⟨by rfl, fun w' hS => by (try dsimp only at hS); go_simp⟩) hB2 ?_
                simp only [Act.put, List.setIfInBounds_toArray, List.set_cons_zero, List.set_cons_succ]
                refine wpAnyH_take (i := 8) (oi := { dst := some 35, op := Op.pick (Operand.tmp 29) (Operand.tmp 34) (Operand.const (Value.bool false)), type := 4, pos := _, after := #[{ on := 2, ground := Ground.data }, { on := 7, ground := Ground.data }], guard := none }) (v := .bool true) rfl (by kernel_rfl) (by kernel_rfl) (by kernel_rfl) (fun _ _ _ h => h) (Or.inl ⟨by rfl, fun w' hS => by (try dsimp only at hS); go_simp⟩) hB2 ?_
                simp only [Act.put, List.setIfInBounds_toArray, List.set_cons_zero, List.set_cons_succ]
                refine wpAnyH_take (i := 9) (oi := { dst := some 36, op := Op.move (Operand.tmp 35), type := 4, pos := _, after := #[{ on := 8, ground := Ground.data }, { on := 2, ground := Ground.chain }], guard := none }) (v := .bool true) rfl (by kernel_rfl) (by kernel_rfl) (by kernel_rfl) (fun _ _ _ h => h) (Or.inl ⟨by rfl, fun w' hS => by (try dsimp only at hS); go_simp⟩) hB2 ?_
                simp only [Act.put, List.setIfInBounds_toArray, List.set_cons_zero, List.set_cons_succ]
                refine wpAnyH_take (i := 10) (oi := { dst := some 37, op := Op.load 56 (Operand.tmp 6), type := 56, pos := _, after := #[{ on := 9, ground := Ground.guard }], guard := some (9, true) }) (v := slotV (M.v2 k 0) (M.v2 k 1) (M.v2 k 2)) rfl (by kernel_rfl) (by kernel_rfl) (by kernel_rfl) (fun _ _ _ h => h) (Or.inl ⟨by rfl, fun w' hS => by (try dsimp only at hS); go_simp⟩) hB2 ?_
                simp only [Act.put, List.setIfInBounds_toArray, List.set_cons_zero, List.set_cons_succ]
                refine wpAnyH_take (i := 12) (oi := { dst := some 39, op := Op.move (Operand.tmp 5), type := 27, pos := _, after := #[{ on := 9, ground := Ground.guard }], guard := some (9, true) }) (v := .slice (some ⟨b1, o1, none⟩) 4 cc) rfl (by kernel_rfl) (by kernel_rfl) (by kernel_rfl) (fun _ _ _ h => h) (Or.inl ⟨by rfl, fun w' hS => by (try dsimp only at hS); go_simp⟩) hB2 ?_
                simp only [Act.put, List.setIfInBounds_toArray, List.set_cons_zero, List.set_cons_succ]
                refine wpAnyH_take (i := 13) (oi := { dst := some 40, op := Op.indexAddr 27 (Operand.tmp 39) (Operand.const (Value.int IntKind.i64 3)), type := 0, pos := _, after := #[{ on := 12, ground := Ground.data }, { on := 9, ground := Ground.guard }], guard := some (9, true) }) (v := .pointer (some ⟨b1, o1 + 3, none⟩)) rfl (by kernel_rfl) (by kernel_rfl) (by kernel_rfl) (fun _ _ _ h => h) (Or.inl ⟨by rfl, fun w' hS => by (try dsimp only at hS); go_simp⟩) hB2 ?_
                simp only [Act.put, List.setIfInBounds_toArray, List.set_cons_zero, List.set_cons_succ]
                refine wpAnyH_take (i := 14) (oi := { dst := some 41, op := Op.load 3 (Operand.tmp 40), type := 3, pos := _, after := #[{ on := 13, ground := Ground.data }, { on := 9, ground := Ground.guard }], guard := some (9, true) }) (v := .int .i64 (M.v2 k 3)) rfl (by kernel_rfl) (by kernel_rfl) (by kernel_rfl) (fun _ _ _ h => h) (Or.inl ⟨by rfl, fun w' hS => by (try dsimp only at hS); go_simp⟩) hB2 ?_
                simp only [Act.put, List.setIfInBounds_toArray, List.set_cons_zero, List.set_cons_succ]
                refine wpAnyH_ready (rs := [11]) (by kernel_rfl) (by simp) ?_
                refine AllReadyH.cons (o := { dst := some 38, op := Op.call { callee := Callee.value (Operand.func 109), args := #[Operand.tmp 37], argTypes := #[56] }, type := 3, pos := _, after := #[{ on := 10, ground := Ground.data }, { on := 9, ground := Ground.chain }, { on := 9, ground := Ground.guard }], guard := some (9, true) }) rfl (fun K hK => ?_) AllReadyH.nil
                go_simp
                refine (l2Sum_any _ _ _ _ HN.out).mono ?_
                rintro r wq2 ⟨rfl, hbq2⟩
                refine hK.out _ _ (hB2.trans hbq2) (fun hB3 => ?_)
                clear hK K
                try simp only [Act.put, List.setIfInBounds_toArray, List.set_cons_zero, List.set_cons_succ]
                refine wpAnyH_take (i := 15) (oi := { dst := some 42, op := Op.binOp BinOp.eql 3 (Operand.tmp 38) (Operand.tmp 41) 3, type := 4, pos := _, after := #[{ on := 11, ground := Ground.data }, { on := 14, ground := Ground.data }, { on := 9, ground := Ground.guard }], guard := some (9, true) }) (v := .bool true) rfl (by kernel_rfl) (by kernel_rfl) (by kernel_rfl) (fun _ _ _ h => h) (Or.inl ⟨by rfl, fun w' hS => by (try dsimp only at hS); go_simp⟩) hB3 ?_
                simp only [Act.put, List.setIfInBounds_toArray, List.set_cons_zero, List.set_cons_succ]
                refine wpAnyH_take (i := 16) (oi := { dst := some 43, op := Op.pick (Operand.tmp 36) (Operand.tmp 42) (Operand.const (Value.bool false)), type := 4, pos := _, after := #[{ on := 9, ground := Ground.data }, { on := 15, ground := Ground.data }], guard := none }) (v := .bool true) rfl (by kernel_rfl) (by kernel_rfl) (by kernel_rfl) (fun _ _ _ h => h) (Or.inl ⟨by rfl, fun w' hS => by (try dsimp only at hS); go_simp⟩) hB3 ?_
                simp only [Act.put, List.setIfInBounds_toArray, List.set_cons_zero, List.set_cons_succ]
                refine wpAnyH_done (by kernel_rfl) ?_ _
                refine NoPanic.normal ?_
                go_wp2_with fail
                go_meet
                exact ⟨true, rfl, ⟨fun _ => HP.out, fun _ => rfl⟩, by assumption⟩
              · have d2 : (sumOf (M.v2 k 0) (M.v2 k 1) (M.v2 k 2) == M.v2 k 3) = false := by simp [hs]
                have HP : Hid (¬ recI (M.v2 k) k) := fun g => hs g.2.2
                clear hp hs
                refine wp_region_noPanic ?_
                refine wp_region_held_drew (S := fun w' => Blw wx w') (by kernel_rfl) ((Blw.refl _).drew) (fun hB1 => ?_)
                revert hB1
                generalize wx.drew = wd1
                intro hB1
                refine wpAnyH_take (i := 0) (oi := { dst := some 27, op := Op.load 56 (Operand.tmp 6), type := 56, pos := _, after := #[], guard := none }) (v := slotV (M.v2 k 0) (M.v2 k 1) (M.v2 k 2)) rfl (by kernel_rfl) (by kernel_rfl) (by kernel_rfl) (fun _ _ _ h => h) (Or.inl ⟨by rfl, fun w' hS => by (try dsimp only at hS); go_simp⟩) hB1 ?_
                simp only [Act.put, List.setIfInBounds_toArray, List.set_cons_zero, List.set_cons_succ]
                refine wpAnyH_ready (rs := [1]) (by kernel_rfl) (by simp) ?_
                refine AllReadyH.cons (o := { dst := some 28, op := Op.call { callee := Callee.value (Operand.func 108), args := #[Operand.tmp 27], argTypes := #[56] }, type := 4, pos := _, after := #[{ on := 0, ground := Ground.data }], guard := none }) rfl (fun K hK => ?_) AllReadyH.nil
                go_simp
                refine (l2Slot_yes _ _ _ _ HN.out).mono ?_
                rintro r wq ⟨rfl, hbq⟩
                refine hK.out _ _ (hB1.trans hbq) (fun hB2 => ?_)
                clear hK K
                try simp only [Act.put, List.setIfInBounds_toArray, List.set_cons_zero, List.set_cons_succ]
                refine wpAnyH_take (i := 2) (oi := { dst := some 29, op := Op.move (Operand.tmp 28), type := 4, pos := _, after := #[{ on := 1, ground := Ground.data }, { on := 1, ground := Ground.chain }], guard := none }) (v := .bool true) rfl (by kernel_rfl) (by kernel_rfl) (by kernel_rfl) (fun _ _ _ h => h) (Or.inl ⟨by rfl, fun w' hS => by (try dsimp only at hS); go_simp⟩) hB2 ?_
                simp only [Act.put, List.setIfInBounds_toArray, List.set_cons_zero, List.set_cons_succ]
                refine wpAnyH_take (i := 3) (oi := { dst := some 30, op := Op.fieldAddr 56 (Operand.tmp 6) 0, type := 0, pos := _, after := #[{ on := 2, ground := Ground.guard }], guard := some (2, true) }) (v := .pointer (some ⟨wr.heap.size, 0, none⟩)) rfl (by kernel_rfl) (by kernel_rfl) (by kernel_rfl) (fun _ _ _ h => h) (Or.inl ⟨by rfl, fun w' hS => by (try dsimp only at hS); go_simp⟩) hB2 ?_
                simp only [Act.put, List.setIfInBounds_toArray, List.set_cons_zero, List.set_cons_succ]
                refine wpAnyH_take (i := 4) (oi := { dst := some 31, op := Op.load 3 (Operand.tmp 30), type := 3, pos := _, after := #[{ on := 3, ground := Ground.data }, { on := 2, ground := Ground.guard }], guard := some (2, true) }) (v := .int .i64 (M.v2 k 0)) rfl (by kernel_rfl) (by kernel_rfl) (by kernel_rfl) (fun _ _ _ h => h) (Or.inl ⟨by rfl, fun w' hS => by (try dsimp only at hS); go_simp⟩) hB2 ?_
                simp only [Act.put, List.setIfInBounds_toArray, List.set_cons_zero, List.set_cons_succ]
                refine wpAnyH_take (i := 5) (oi := { dst := some 32, op := Op.binOp BinOp.rem 3 (Operand.tmp 31) (Operand.const (Value.int IntKind.i64 2)) 3, type := 3, pos := _, after := #[{ on := 4, ground := Ground.data }, { on := 2, ground := Ground.guard }], guard := some (2, true) }) (v := .int .i64 ((M.v2 k 0) % 2)) rfl (by kernel_rfl) (by kernel_rfl) (by kernel_rfl) (fun _ _ _ h => h) (Or.inl ⟨by rfl, fun w' hS => by (try dsimp only at hS); go_simp⟩) hB2 ?_
                simp only [Act.put, List.setIfInBounds_toArray, List.set_cons_zero, List.set_cons_succ]
                refine wpAnyH_take (i := 6) (oi := { dst := some 33, op := Op.move (Operand.tmp 4), type := 3, pos := _, after := #[{ on := 2, ground := Ground.guard }], guard := some (2, true) }) (v := .int .i64 k) rfl (by kernel_rfl) (by kernel_rfl) (by kernel_rfl) (fun _ _ _ h => h) (Or.inl ⟨by rfl, fun w' hS => by (try dsimp only at hS); go_simp⟩) hB2 ?_
                simp only [Act.put, List.setIfInBounds_toArray, List.set_cons_zero, List.set_cons_succ]
                refine wpAnyH_take (i := 7) (oi := { dst := some 34, op := Op.binOp BinOp.eql 3 (Operand.tmp 32) (Operand.tmp 33) 3, type := 4, pos := _, after := #[{ on := 5, ground := Ground.data }, { on := 6, ground := Ground.data }, { on := 2, ground := Ground.guard }], guard := some (2, true) }) (v := .bool true) rfl (by kernel_rfl) (by kernel_rfl) (by kernel_rfl) (fun _ _ _ h => h) (Or.inl ⟨by rfl, fun w' hS => by (try dsimp only at hS); go_simp⟩) hB2 ?_
                simp only [Act.put, List.setIfInBounds_toArray, List.set_cons_zero, List.set_cons_succ]
                refine wpAnyH_take (i := 8) (oi := { dst := some 35, op := Op.pick (Operand.tmp 29) (Operand.tmp 34) (Operand.const (Value.bool false)), type := 4, pos := _, after := #[{ on := 2, ground := Ground.data }, { on := 7, ground := Ground.data }], guard := none }) (v := .bool true) rfl (by kernel_rfl) (by kernel_rfl) (by kernel_rfl) (fun _ _ _ h => h) (Or.inl ⟨by rfl, fun w' hS => by (try dsimp only at hS); go_simp⟩) hB2 ?_
                simp only [Act.put, List.setIfInBounds_toArray, List.set_cons_zero, List.set_cons_succ]
                refine wpAnyH_take (i := 9) (oi := { dst := some 36, op := Op.move (Operand.tmp 35), type := 4, pos := _, after := #[{ on := 8, ground := Ground.data }, { on := 2, ground := Ground.chain }], guard := none }) (v := .bool true) rfl (by kernel_rfl) (by kernel_rfl) (by kernel_rfl) (fun _ _ _ h => h) (Or.inl ⟨by rfl, fun w' hS => by (try dsimp only at hS); go_simp⟩) hB2 ?_
                simp only [Act.put, List.setIfInBounds_toArray, List.set_cons_zero, List.set_cons_succ]
                refine wpAnyH_take (i := 10) (oi := { dst := some 37, op := Op.load 56 (Operand.tmp 6), type := 56, pos := _, after := #[{ on := 9, ground := Ground.guard }], guard := some (9, true) }) (v := slotV (M.v2 k 0) (M.v2 k 1) (M.v2 k 2)) rfl (by kernel_rfl) (by kernel_rfl) (by kernel_rfl) (fun _ _ _ h => h) (Or.inl ⟨by rfl, fun w' hS => by (try dsimp only at hS); go_simp⟩) hB2 ?_
                simp only [Act.put, List.setIfInBounds_toArray, List.set_cons_zero, List.set_cons_succ]
                refine wpAnyH_take (i := 12) (oi := { dst := some 39, op := Op.move (Operand.tmp 5), type := 27, pos := _, after := #[{ on := 9, ground := Ground.guard }], guard := some (9, true) }) (v := .slice (some ⟨b1, o1, none⟩) 4 cc) rfl (by kernel_rfl) (by kernel_rfl) (by kernel_rfl) (fun _ _ _ h => h) (Or.inl ⟨by rfl, fun w' hS => by (try dsimp only at hS); go_simp⟩) hB2 ?_
                simp only [Act.put, List.setIfInBounds_toArray, List.set_cons_zero, List.set_cons_succ]
                refine wpAnyH_take (i := 13) (oi := { dst := some 40, op := Op.indexAddr 27 (Operand.tmp 39) (Operand.const (Value.int IntKind.i64 3)), type := 0, pos := _, after := #[{ on := 12, ground := Ground.data }, { on := 9, ground := Ground.guard }], guard := some (9, true) }) (v := .pointer (some ⟨b1, o1 + 3, none⟩)) rfl (by kernel_rfl) (by kernel_rfl) (by kernel_rfl) (fun _ _ _ h => h) (Or.inl ⟨by rfl, fun w' hS => by (try dsimp only at hS); go_simp⟩) hB2 ?_
                simp only [Act.put, List.setIfInBounds_toArray, List.set_cons_zero, List.set_cons_succ]
                refine wpAnyH_take (i := 14) (oi := { dst := some 41, op := Op.load 3 (Operand.tmp 40), type := 3, pos := _, after := #[{ on := 13, ground := Ground.data }, { on := 9, ground := Ground.guard }], guard := some (9, true) }) (v := .int .i64 (M.v2 k 3)) rfl (by kernel_rfl) (by kernel_rfl) (by kernel_rfl) (fun _ _ _ h => h) (Or.inl ⟨by rfl, fun w' hS => by (try dsimp only at hS); go_simp⟩) hB2 ?_
                simp only [Act.put, List.setIfInBounds_toArray, List.set_cons_zero, List.set_cons_succ]
                refine wpAnyH_ready (rs := [11]) (by kernel_rfl) (by simp) ?_
                refine AllReadyH.cons (o := { dst := some 38, op := Op.call { callee := Callee.value (Operand.func 109), args := #[Operand.tmp 37], argTypes := #[56] }, type := 3, pos := _, after := #[{ on := 10, ground := Ground.data }, { on := 9, ground := Ground.chain }, { on := 9, ground := Ground.guard }], guard := some (9, true) }) rfl (fun K hK => ?_) AllReadyH.nil
                go_simp
                refine (l2Sum_any _ _ _ _ HN.out).mono ?_
                rintro r wq2 ⟨rfl, hbq2⟩
                refine hK.out _ _ (hB2.trans hbq2) (fun hB3 => ?_)
                clear hK K
                try simp only [Act.put, List.setIfInBounds_toArray, List.set_cons_zero, List.set_cons_succ]
                refine wpAnyH_take (i := 15) (oi := { dst := some 42, op := Op.binOp BinOp.eql 3 (Operand.tmp 38) (Operand.tmp 41) 3, type := 4, pos := _, after := #[{ on := 11, ground := Ground.data }, { on := 14, ground := Ground.data }, { on := 9, ground := Ground.guard }], guard := some (9, true) }) (v := .bool false) rfl (by kernel_rfl) (by kernel_rfl) (by kernel_rfl) (fun _ _ _ h => h) (Or.inl ⟨by rfl, fun w' hS => by (try dsimp only at hS); go_simp⟩) hB3 ?_
                simp only [Act.put, List.setIfInBounds_toArray, List.set_cons_zero, List.set_cons_succ]
                refine wpAnyH_take (i := 16) (oi := { dst := some 43, op := Op.pick (Operand.tmp 36) (Operand.tmp 42) (Operand.const (Value.bool false)), type := 4, pos := _, after := #[{ on := 9, ground := Ground.data }, { on := 15, ground := Ground.data }], guard := none }) (v := .bool false) rfl (by kernel_rfl) (by kernel_rfl) (by kernel_rfl) (fun _ _ _ h => h) (Or.inl ⟨by rfl, fun w' hS => by (try dsimp only at hS); go_simp⟩) hB3 ?_
                simp only [Act.put, List.setIfInBounds_toArray, List.set_cons_zero, List.set_cons_succ]
                refine wpAnyH_done (by kernel_rfl) ?_ _
                refine NoPanic.normal ?_
                go_wp2_with fail
                go_meet
                exact ⟨false, rfl, ⟨fun h => absurd h (by decide), fun g => absurd g HP.out⟩, by assumption⟩
            · have d1 : ((M.v2 k 0 % 2) == (k : Int)) = false := by simp [hp]
              have HP : Hid (¬ recI (M.v2 k) k) := fun g => hp g.2.1
              clear hp
              refine wp_region_noPanic ?_
              refine wp_region_held_drew (S := fun w' => Blw wx w') (by kernel_rfl) ((Blw.refl _).drew) (fun hB1 => ?_)
              revert hB1
              generalize wx.drew = wd1
              intro hB1
              refine wpAnyH_take (i := 0) (oi := { dst := some 27, op := Op.load 56 (Operand.tmp 6), type := 56, pos := _, after := #[], guard := none }) (v := slotV (M.v2 k 0) (M.v2 k 1) (M.v2 k 2)) rfl (by kernel_rfl) (by kernel_rfl) (by kernel_rfl) (fun _ _ _ h => h) (Or.inl ⟨by rfl, fun w' hS => by (try dsimp only at hS); go_simp⟩) hB1 ?_
              simp only [Act.put, List.setIfInBounds_toArray, List.set_cons_zero, List.set_cons_succ]
              refine wpAnyH_ready (rs := [1]) (by kernel_rfl) (by simp) ?_
              refine AllReadyH.cons (o := { dst := some 28, op := Op.call { callee := Callee.value (Operand.func 108), args := #[Operand.tmp 27], argTypes := #[56] }, type := 4, pos := _, after := #[{ on := 0, ground := Ground.data }], guard := none }) rfl (fun K hK => ?_) AllReadyH.nil
              go_simp
              refine (l2Slot_yes _ _ _ _ HN.out).mono ?_
              rintro r wq ⟨rfl, hbq⟩
              refine hK.out _ _ (hB1.trans hbq) (fun hB2 => ?_)
              clear hK K
              try simp only [Act.put, List.setIfInBounds_toArray, List.set_cons_zero, List.set_cons_succ]
              refine wpAnyH_take (i := 2) (oi := { dst := some 29, op := Op.move (Operand.tmp 28), type := 4, pos := _, after := #[{ on := 1, ground := Ground.data }, { on := 1, ground := Ground.chain }], guard := none }) (v := .bool true) rfl (by kernel_rfl) (by kernel_rfl) (by kernel_rfl) (fun _ _ _ h => h) (Or.inl ⟨by rfl, fun w' hS => by (try dsimp only at hS); go_simp⟩) hB2 ?_
              simp only [Act.put, List.setIfInBounds_toArray, List.set_cons_zero, List.set_cons_succ]
              refine wpAnyH_take (i := 3) (oi := { dst := some 30, op := Op.fieldAddr 56 (Operand.tmp 6) 0, type := 0, pos := _, after := #[{ on := 2, ground := Ground.guard }], guard := some (2, true) }) (v := .pointer (some ⟨wr.heap.size, 0, none⟩)) rfl (by kernel_rfl) (by kernel_rfl) (by kernel_rfl) (fun _ _ _ h => h) (Or.inl ⟨by rfl, fun w' hS => by (try dsimp only at hS); go_simp⟩) hB2 ?_
              simp only [Act.put, List.setIfInBounds_toArray, List.set_cons_zero, List.set_cons_succ]
              refine wpAnyH_take (i := 4) (oi := { dst := some 31, op := Op.load 3 (Operand.tmp 30), type := 3, pos := _, after := #[{ on := 3, ground := Ground.data }, { on := 2, ground := Ground.guard }], guard := some (2, true) }) (v := .int .i64 (M.v2 k 0)) rfl (by kernel_rfl) (by kernel_rfl) (by kernel_rfl) (fun _ _ _ h => h) (Or.inl ⟨by rfl, fun w' hS => by (try dsimp only at hS); go_simp⟩) hB2 ?_
              simp only [Act.put, List.setIfInBounds_toArray, List.set_cons_zero, List.set_cons_succ]
              refine wpAnyH_take (i := 5) (oi := { dst := some 32, op := Op.binOp BinOp.rem 3 (Operand.tmp 31) (Operand.const (Value.int IntKind.i64 2)) 3, type := 3, pos := _, after := #[{ on := 4, ground := Ground.data }, { on := 2, ground := Ground.guard }], guard := some (2, true) }) (v := .int .i64 ((M.v2 k 0) % 2)) rfl (by kernel_rfl) (by kernel_rfl) (by kernel_rfl) (fun _ _ _ h => h) (Or.inl ⟨by rfl, fun w' hS => by (try dsimp only at hS); go_simp⟩) hB2 ?_
              simp only [Act.put, List.setIfInBounds_toArray, List.set_cons_zero, List.set_cons_succ]
              refine wpAnyH_take (i := 6) (oi := { dst := some 33, op := Op.move (Operand.tmp 4), type := 3, pos := _, after := #[{ on := 2, ground := Ground.guard }], guard := some (2, true) }) (v := .int .i64 k) rfl (by kernel_rfl) (by kernel_rfl) (by kernel_rfl) (fun _ _ _ h => h) (Or.inl ⟨by rfl, fun w' hS => by (try dsimp only at hS); go_simp⟩) hB2 ?_
              simp only [Act.put, List.setIfInBounds_toArray, List.set_cons_zero, List.set_cons_succ]
              refine wpAnyH_take (i := 7) (oi := { dst := some 34, op := Op.binOp BinOp.eql 3 (Operand.tmp 32) (Operand.tmp 33) 3, type := 4, pos := _, after := #[{ on := 5, ground := Ground.data }, { on := 6, ground := Ground.data }, { on := 2, ground := Ground.guard }], guard := some (2, true) }) (v := .bool false) rfl (by kernel_rfl) (by kernel_rfl) (by kernel_rfl) (fun _ _ _ h => h) (Or.inl ⟨by rfl, fun w' hS => by (try dsimp only at hS); go_simp⟩) hB2 ?_
              simp only [Act.put, List.setIfInBounds_toArray, List.set_cons_zero, List.set_cons_succ]
              refine wpAnyH_take (i := 8) (oi := { dst := some 35, op := Op.pick (Operand.tmp 29) (Operand.tmp 34) (Operand.const (Value.bool false)), type := 4, pos := _, after := #[{ on := 2, ground := Ground.data }, { on := 7, ground := Ground.data }], guard := none }) (v := .bool false) rfl (by kernel_rfl) (by kernel_rfl) (by kernel_rfl) (fun _ _ _ h => h) (Or.inl ⟨by rfl, fun w' hS => by (try dsimp only at hS); go_simp⟩) hB2 ?_
              simp only [Act.put, List.setIfInBounds_toArray, List.set_cons_zero, List.set_cons_succ]
              refine wpAnyH_take (i := 9) (oi := { dst := some 36, op := Op.move (Operand.tmp 35), type := 4, pos := _, after := #[{ on := 8, ground := Ground.data }, { on := 2, ground := Ground.chain }], guard := none }) (v := .bool false) rfl (by kernel_rfl) (by kernel_rfl) (by kernel_rfl) (fun _ _ _ h => h) (Or.inl ⟨by rfl, fun w' hS => by (try dsimp only at hS); go_simp⟩) hB2 ?_
              simp only [Act.put, List.setIfInBounds_toArray, List.set_cons_zero, List.set_cons_succ]
              refine wpAnyH_take (i := 10) (oi := { dst := some 37, op := Op.load 56 (Operand.tmp 6), type := 56, pos := _, after := #[{ on := 9, ground := Ground.guard }], guard := some (9, true) }) (v := undef) rfl (by kernel_rfl) (by kernel_rfl) (by kernel_rfl) (fun _ _ _ h => h) (Or.inr ⟨by rfl, rfl⟩) hB2 ?_
              simp only [Act.put, List.setIfInBounds_toArray, List.set_cons_zero, List.set_cons_succ]
              refine wpAnyH_take (i := 11) (oi := { dst := some 38, op := Op.call { callee := Callee.value (Operand.func 109), args := #[Operand.tmp 37], argTypes := #[56] }, type := 3, pos := _, after := #[{ on := 10, ground := Ground.data }, { on := 9, ground := Ground.chain }, { on := 9, ground := Ground.guard }], guard := some (9, true) }) (v := undef) rfl (by kernel_rfl) (by kernel_rfl) (by kernel_rfl) (fun _ _ _ h => h) (Or.inr ⟨by rfl, rfl⟩) hB2 ?_
              simp only [Act.put, List.setIfInBounds_toArray, List.set_cons_zero, List.set_cons_succ]
              refine wpAnyH_take (i := 12) (oi := { dst := some 39, op := Op.move (Operand.tmp 5), type := 27, pos := _, after := #[{ on := 9, ground := Ground.guard }], guard := some (9, true) }) (v := undef) rfl (by kernel_rfl) (by kernel_rfl) (by kernel_rfl) (fun _ _ _ h => h) (Or.inr ⟨by rfl, rfl⟩) hB2 ?_
              simp only [Act.put, List.setIfInBounds_toArray, List.set_cons_zero, List.set_cons_succ]
              refine wpAnyH_take (i := 13) (oi := { dst := some 40, op := Op.indexAddr 27 (Operand.tmp 39) (Operand.const (Value.int IntKind.i64 3)), type := 0, pos := _, after := #[{ on := 12, ground := Ground.data }, { on := 9, ground := Ground.guard }], guard := some (9, true) }) (v := undef) rfl (by kernel_rfl) (by kernel_rfl) (by kernel_rfl) (fun _ _ _ h => h) (Or.inr ⟨by rfl, rfl⟩) hB2 ?_
              simp only [Act.put, List.setIfInBounds_toArray, List.set_cons_zero, List.set_cons_succ]
              refine wpAnyH_take (i := 14) (oi := { dst := some 41, op := Op.load 3 (Operand.tmp 40), type := 3, pos := _, after := #[{ on := 13, ground := Ground.data }, { on := 9, ground := Ground.guard }], guard := some (9, true) }) (v := undef) rfl (by kernel_rfl) (by kernel_rfl) (by kernel_rfl) (fun _ _ _ h => h) (Or.inr ⟨by rfl, rfl⟩) hB2 ?_
              simp only [Act.put, List.setIfInBounds_toArray, List.set_cons_zero, List.set_cons_succ]
              refine wpAnyH_take (i := 15) (oi := { dst := some 42, op := Op.binOp BinOp.eql 3 (Operand.tmp 38) (Operand.tmp 41) 3, type := 4, pos := _, after := #[{ on := 11, ground := Ground.data }, { on := 14, ground := Ground.data }, { on := 9, ground := Ground.guard }], guard := some (9, true) }) (v := undef) rfl (by kernel_rfl) (by kernel_rfl) (by kernel_rfl) (fun _ _ _ h => h) (Or.inr ⟨by rfl, rfl⟩) hB2 ?_
              simp only [Act.put, List.setIfInBounds_toArray, List.set_cons_zero, List.set_cons_succ]
              refine wpAnyH_take (i := 16) (oi := { dst := some 43, op := Op.pick (Operand.tmp 36) (Operand.tmp 42) (Operand.const (Value.bool false)), type := 4, pos := _, after := #[{ on := 9, ground := Ground.data }, { on := 15, ground := Ground.data }], guard := none }) (v := .bool false) rfl (by kernel_rfl) (by kernel_rfl) (by kernel_rfl) (fun _ _ _ h => h) (Or.inl ⟨by rfl, fun w' hS => by (try dsimp only at hS); go_simp⟩) hB2 ?_
              simp only [Act.put, List.setIfInBounds_toArray, List.set_cons_zero, List.set_cons_succ]
              refine wpAnyH_done (by kernel_rfl) ?_ _
              refine NoPanic.normal ?_
              go_wp2_with fail
              go_meet
              exact ⟨false, rfl, ⟨fun h => absurd h (by decide), fun g => absurd g HP.out⟩, by assumption⟩
          · have HN : Hid (¬ slotOK (M.v2 k 0) (M.v2 k 1) (M.v2 k 2)) := hn
            have HP : Hid (¬ recI (M.v2 k) k) := fun g => HN.out g.1
            clear hn
            refine wp_region_noPanic ?_
            refine wp_region_held_drew (S := fun w' => Blw wx w') (by kernel_rfl) ((Blw.refl _).drew) (fun hB1 => ?_)
            revert hB1
            generalize wx.drew = wd1
            intro hB1
            refine wpAnyH_take (i := 0) (oi := { dst := some 27, op := Op.load 56 (Operand.tmp 6), type := 56, pos := _, after := #[], guard := none }) (v := slotV (M.v2 k 0) (M.v2 k 1) (M.v2 k 2)) rfl (by kernel_rfl) (by kernel_rfl) (by kernel_rfl) (fun _ _ _ h => h) (Or.inl ⟨by rfl, fun w' hS => by (try dsimp only at hS); go_simp⟩) hB1 ?_
            simp only [Act.put, List.setIfInBounds_toArray, List.set_cons_zero, List.set_cons_succ]
            refine wpAnyH_ready (rs := [1]) (by kernel_rfl) (by simp) ?_
            refine AllReadyH.cons (o := { dst := some 28, op := Op.call { callee := Callee.value (Operand.func 108), args := #[Operand.tmp 27], argTypes := #[56] }, type := 4, pos := _, after := #[{ on := 0, ground := Ground.data }], guard := none }) rfl (fun K hK => ?_) AllReadyH.nil
            go_simp
            refine (l2Slot_no _ _ _ _ HN.out).mono ?_
            rintro r wq ⟨rfl, hbq⟩
            refine hK.out _ _ (hB1.trans hbq) (fun hB2 => ?_)
            clear hK K
            try simp only [Act.put, List.setIfInBounds_toArray, List.set_cons_zero, List.set_cons_succ]
            refine wpAnyH_take (i := 2) (oi := { dst := some 29, op := Op.move (Operand.tmp 28), type := 4, pos := _, after := #[{ on := 1, ground := Ground.data }, { on := 1, ground := Ground.chain }], guard := none }) (v := .bool false) rfl (by kernel_rfl) (by kernel_rfl) (by kernel_rfl) (fun _ _ _ h => h) (Or.inl ⟨by rfl, fun w' hS => by (try dsimp only at hS); go_simp⟩) hB2 ?_
            simp only [Act.put, List.setIfInBounds_toArray, List.set_cons_zero, List.set_cons_succ]
            refine wpAnyH_take (i := 3) (oi := { dst := some 30, op := Op.fieldAddr 56 (Operand.tmp 6) 0, type := 0, pos := _, after := #[{ on := 2, ground := Ground.guard }], guard := some (2, true) }) (v := undef) rfl (by kernel_rfl) (by kernel_rfl) (by kernel_rfl) (fun _ _ _ h => h) (Or.inr ⟨by rfl, rfl⟩) hB2 ?_
            simp only [Act.put, List.setIfInBounds_toArray, List.set_cons_zero, List.set_cons_succ]
            refine wpAnyH_take (i := 4) (oi := { dst := some 31, op := Op.load 3 (Operand.tmp 30), type := 3, pos := _, after := #[{ on := 3, ground := Ground.data }, { on := 2, ground := Ground.guard }], guard := some (2, true) }) (v := undef) rfl (by kernel_rfl) (by kernel_rfl) (by kernel_rfl) (fun _ _ _ h => h) (Or.inr ⟨by rfl, rfl⟩) hB2 ?_
            simp only [Act.put, List.setIfInBounds_toArray, List.set_cons_zero, List.set_cons_succ]
            refine wpAnyH_take (i := 5) (oi := { dst := some 32, op := Op.binOp BinOp.rem 3 (Operand.tmp 31) (Operand.const (Value.int IntKind.i64 2)) 3, type := 3, pos := _, after := #[{ on := 4, ground := Ground.data }, { on := 2, ground := Ground.guard }], guard := some (2, true) }) (v := undef) rfl (by kernel_rfl) (by kernel_rfl) (by kernel_rfl) (fun _ _ _ h => h) (Or.inr ⟨by rfl, rfl⟩) hB2 ?_
            simp only [Act.put, List.setIfInBounds_toArray, List.set_cons_zero, List.set_cons_succ]
            refine wpAnyH_take (i := 6) (oi := { dst := some 33, op := Op.move (Operand.tmp 4), type := 3, pos := _, after := #[{ on := 2, ground := Ground.guard }], guard := some (2, true) }) (v := undef) rfl (by kernel_rfl) (by kernel_rfl) (by kernel_rfl) (fun _ _ _ h => h) (Or.inr ⟨by rfl, rfl⟩) hB2 ?_
            simp only [Act.put, List.setIfInBounds_toArray, List.set_cons_zero, List.set_cons_succ]
            refine wpAnyH_take (i := 7) (oi := { dst := some 34, op := Op.binOp BinOp.eql 3 (Operand.tmp 32) (Operand.tmp 33) 3, type := 4, pos := _, after := #[{ on := 5, ground := Ground.data }, { on := 6, ground := Ground.data }, { on := 2, ground := Ground.guard }], guard := some (2, true) }) (v := undef) rfl (by kernel_rfl) (by kernel_rfl) (by kernel_rfl) (fun _ _ _ h => h) (Or.inr ⟨by rfl, rfl⟩) hB2 ?_
            simp only [Act.put, List.setIfInBounds_toArray, List.set_cons_zero, List.set_cons_succ]
            refine wpAnyH_take (i := 8) (oi := { dst := some 35, op := Op.pick (Operand.tmp 29) (Operand.tmp 34) (Operand.const (Value.bool false)), type := 4, pos := _, after := #[{ on := 2, ground := Ground.data }, { on := 7, ground := Ground.data }], guard := none }) (v := .bool false) rfl (by kernel_rfl) (by kernel_rfl) (by kernel_rfl) (fun _ _ _ h => h) (Or.inl ⟨by rfl, fun w' hS => by (try dsimp only at hS); go_simp⟩) hB2 ?_
            simp only [Act.put, List.setIfInBounds_toArray, List.set_cons_zero, List.set_cons_succ]
            refine wpAnyH_take (i := 9) (oi := { dst := some 36, op := Op.move (Operand.tmp 35), type := 4, pos := _, after := #[{ on := 8, ground := Ground.data }, { on := 2, ground := Ground.chain }], guard := none }) (v := .bool false) rfl (by kernel_rfl) (by kernel_rfl) (by kernel_rfl) (fun _ _ _ h => h) (Or.inl ⟨by rfl, fun w' hS => by (try dsimp only at hS); go_simp⟩) hB2 ?_
            simp only [Act.put, List.setIfInBounds_toArray, List.set_cons_zero, List.set_cons_succ]
            refine wpAnyH_take (i := 10) (oi := { dst := some 37, op := Op.load 56 (Operand.tmp 6), type := 56, pos := _, after := #[{ on := 9, ground := Ground.guard }], guard := some (9, true) }) (v := undef) rfl (by kernel_rfl) (by kernel_rfl) (by kernel_rfl) (fun _ _ _ h => h) (Or.inr ⟨by rfl, rfl⟩) hB2 ?_
            simp only [Act.put, List.setIfInBounds_toArray, List.set_cons_zero, List.set_cons_succ]
            refine wpAnyH_take (i := 11) (oi := { dst := some 38, op := Op.call { callee := Callee.value (Operand.func 109), args := #[Operand.tmp 37], argTypes := #[56] }, type := 3, pos := _, after := #[{ on := 10, ground := Ground.data }, { on := 9, ground := Ground.chain }, { on := 9, ground := Ground.guard }], guard := some (9, true) }) (v := undef) rfl (by kernel_rfl) (by kernel_rfl) (by kernel_rfl) (fun _ _ _ h => h) (Or.inr ⟨by rfl, rfl⟩) hB2 ?_
            simp only [Act.put, List.setIfInBounds_toArray, List.set_cons_zero, List.set_cons_succ]
            refine wpAnyH_take (i := 12) (oi := { dst := some 39, op := Op.move (Operand.tmp 5), type := 27, pos := _, after := #[{ on := 9, ground := Ground.guard }], guard := some (9, true) }) (v := undef) rfl (by kernel_rfl) (by kernel_rfl) (by kernel_rfl) (fun _ _ _ h => h) (Or.inr ⟨by rfl, rfl⟩) hB2 ?_
            simp only [Act.put, List.setIfInBounds_toArray, List.set_cons_zero, List.set_cons_succ]
            refine wpAnyH_take (i := 13) (oi := { dst := some 40, op := Op.indexAddr 27 (Operand.tmp 39) (Operand.const (Value.int IntKind.i64 3)), type := 0, pos := _, after := #[{ on := 12, ground := Ground.data }, { on := 9, ground := Ground.guard }], guard := some (9, true) }) (v := undef) rfl (by kernel_rfl) (by kernel_rfl) (by kernel_rfl) (fun _ _ _ h => h) (Or.inr ⟨by rfl, rfl⟩) hB2 ?_
            simp only [Act.put, List.setIfInBounds_toArray, List.set_cons_zero, List.set_cons_succ]
            refine wpAnyH_take (i := 14) (oi := { dst := some 41, op := Op.load 3 (Operand.tmp 40), type := 3, pos := _, after := #[{ on := 13, ground := Ground.data }, { on := 9, ground := Ground.guard }], guard := some (9, true) }) (v := undef) rfl (by kernel_rfl) (by kernel_rfl) (by kernel_rfl) (fun _ _ _ h => h) (Or.inr ⟨by rfl, rfl⟩) hB2 ?_
            simp only [Act.put, List.setIfInBounds_toArray, List.set_cons_zero, List.set_cons_succ]
            refine wpAnyH_take (i := 15) (oi := { dst := some 42, op := Op.binOp BinOp.eql 3 (Operand.tmp 38) (Operand.tmp 41) 3, type := 4, pos := _, after := #[{ on := 11, ground := Ground.data }, { on := 14, ground := Ground.data }, { on := 9, ground := Ground.guard }], guard := some (9, true) }) (v := undef) rfl (by kernel_rfl) (by kernel_rfl) (by kernel_rfl) (fun _ _ _ h => h) (Or.inr ⟨by rfl, rfl⟩) hB2 ?_
            simp only [Act.put, List.setIfInBounds_toArray, List.set_cons_zero, List.set_cons_succ]
            refine wpAnyH_take (i := 16) (oi := { dst := some 43, op := Op.pick (Operand.tmp 36) (Operand.tmp 42) (Operand.const (Value.bool false)), type := 4, pos := _, after := #[{ on := 9, ground := Ground.data }, { on := 15, ground := Ground.data }], guard := none }) (v := .bool false) rfl (by kernel_rfl) (by kernel_rfl) (by kernel_rfl) (fun _ _ _ h => h) (Or.inl ⟨by rfl, fun w' hS => by (try dsimp only at hS); go_simp⟩) hB2 ?_
            simp only [Act.put, List.setIfInBounds_toArray, List.set_cons_zero, List.set_cons_succ]
            refine wpAnyH_done (by kernel_rfl) ?_ _
            refine NoPanic.normal ?_
            go_wp2_with fail
            go_meet
            exact ⟨false, rfl, ⟨fun h => absurd h (by decide), fun g => absurd g HP.out⟩, by assumption⟩
        case rest =>
          obtain ⟨bb, rfl, hbb, hby⟩ := hcut
          have HB : Hid (bb = true ↔ recI (M.v2 k) k) := hbb
          clear hbb T3 S0 S1 S2
          obtain ⟨p0, p1, p2⟩ := get3 (rX.blw hby)
          cases bb
          · have HR : Hid (¬ recI (M.v2 k) k) := fun g => absurd (HB.out.2 g) (by decide)
            have I' := HI.out.more (hbx.trans hby)
            clear hbx hby HI HB rX
            go_wp2
            go_roundw
            case rel => exact ⟨k + 1, by omega, by go_num, by rw [rdL_no HR.out]; exact I'⟩
            case measure => simp [intOf]; omega
          · have HR : Hid (recI (M.v2 k) k) := HB.out.1 rfl
            have HO : Hid (PutS w0 (wc.alloc (.cells #[.int .i64 (M.v2 k 0), .int .i64 (M.v2 k 1), .int .i64 (M.v2 k 2)] 56)) _ (rdL M.v2 k)) := HI.out.more ((hbx.trans hby).alloc _)
            have HS : Hid _ := slot_src wc (M.v2 k 0) (M.v2 k 1) (M.v2 k 2)
            clear hbx hby HI HB rX
            go_wp2_with (at_builtin; refine wpList_append_lies _ rfl (.tmp 44) (.tmp 46) 64 rfl 0 56 i0 (.agg #[.int .i64 0, .int .i64 0, .int .i64 0]) 3 24 Try.underlying64 hi0 hz0 hz1 hz2 rfl (by decide) _ (rdL M.v2 k).length _ rfl HO.out.own ⟨wc.heap.size, 0, none⟩ 1 1 [.int .i64 (M.v2 k 0), .int .i64 (M.v2 k 1), .int .i64 (M.v2 k 2)] rfl (by simp) HS.out (slot_one _ _ _) (by omega) (by unfold maxLen; omega) (by omega) (by omega) _ rfl ?_; intro g cap w' own' gr hg hgl; have I' := HO.out.next (t := (M.v2 k 0, M.v2 k 1, M.v2 k 2)) own' gr hg hgl; clear own' gr hg hgl)
            clear HO HS p0 p1 p2
            go_roundw
            case rel => exact ⟨k + 1, by omega, by go_num, by rw [rdL_yes HR.out]; exact I'⟩
            case measure => simp [intOf]; omega
    · obtain rfl : k = 2 := by omega
      obtain ⟨ao, cap, rfl, own⟩ := I.owned (rdL_len M.v2 2)
      have hbI := HH.out.2.2.trans I.blw
      clear I HH
      go_wp2
      go_ret
      exact ⟨ao, cap, rfl, own.mono (fun b hb => ⟨by omega, hb.2⟩), hbI⟩
end Go.Proofs.Ytnbcjdoohmjghaa
/- 'spec.ReadSlots', and the laws' copies of lists of slots: alike, marked, held. -/
namespace Go.Proofs.Ytnbcjdoohmjghaa
open Go.RowKit
set_option linter.unusedSimpArgs false
set_option linter.unusedVariables false
set_option maxHeartbeats 1600000 in
theorem specRead_any (m : MV) (M : MD) (Y : Nat → Prop) (w : World) (h : MemAt Y w m M) :
    Calls Try.prog 55 #[m.val M] w (GivesS (rsOut M) w) := by
  go_enter Try.func55, Try.ntmps55
  go_wp2_with fail
  have hb0 : Blw w (w.alloc (.cells #[.slice m.a1 M.n1 m.c1, .slice m.a2 M.n2 m.c2, .slice m.a3 M.n3 m.c3] 26)) := (Blw.refl _).alloc _
  have rA := box3 w (.slice m.a1 M.n1 m.c1) (.slice m.a2 M.n2 m.c2) (.slice m.a3 M.n3 m.c3) 26
  refine (goodS_any m M Y _ (h.blw hb0)).mono ?_
  rintro e w1 ⟨b, rfl, hgd, hb1⟩
  replace rA := rA.blw hb1
  replace hb1 := hb0.trans hb1
  replace h := h.blw hb1
  clear hb0
  have HG : Hid (b = true ↔ M.Good) := hgd
  clear hgd
  cases b
  · have NG : Hid (¬ M.Good) := fun g => absurd (HG.out.2 g) (by decide)
    clear HG rA h
    go_wp2
    go_ret2
    exact zero_givesS NG.out hb1
  · have GD : Hid M.Good := HG.out.1 rfl
    obtain ⟨p0, p1, p2⟩ := get3 rA
    clear HG
    go_wp2_with fail
    refine (l2Read_any m M Y _ GD.out h).mono ?_
    rintro r w2 ⟨ao, cap, rfl, own, hb2⟩
    have zz := hb1.size
    replace hb2 := hb1.trans hb2
    clear p0 p1 p2 rA h hb1
    have HO : Hid (SlotsOwn _ _ _ _ _) := own
    clear own
    go_wp2
    go_ret2
    exact ⟨ao, _, cap, _, true, rfl, Or.inl ⟨GD.out, rfl, rfl, rfl⟩, HO.out.mono (fun b hb => ⟨by have := hb.1; omega, hb.2⟩), hb2⟩
theorem sc_at (f : Nat → T3) (i : Nat) : sc f (i * 3) = .int .i64 (f i).1 ∧ sc f (i * 3 + 1) = .int .i64 (f i).2.1 ∧ sc f (i * 3 + 2) = .int .i64 (f i).2.2 := by
  have a0 : i * 3 % 3 = 0 := by omega
  have a1 : (i * 3 + 1) % 3 = 1 := by omega
  have a2 : (i * 3 + 2) % 3 = 2 := by omega
  have b0 : i * 3 / 3 = i := by omega
  have b1 : (i * 3 + 1) / 3 = i := by omega
  have b2 : (i * 3 + 2) / 3 = i := by omega
  simp [sc, a0, a1, a2, b0, b1, b2]
theorem slot_get {w : World} {b n : Nat} {f : Nat → T3} (r : Row w b (n * 3) (sc f)) {i : Nat} (hi : i < n) : w.cell? ⟨b, i * 3, none⟩ = some (.int .i64 (f i).1) ∧ w.cell? ⟨b, i * 3 + 1, none⟩ = some (.int .i64 (f i).2.1) ∧ w.cell? ⟨b, i * 3 + 2, none⟩ = some (.int .i64 (f i).2.2) := by
  obtain ⟨h0, h1, h2⟩ := sc_at f i
  refine ⟨?_, ?_, ?_⟩
  · rw [r.cell (by omega), h0]
  · rw [r.cell (by omega), h1]
  · rw [r.cell (by omega), h2]
set_option maxHeartbeats 1600000 in
theorem eqSlotS_same (a1 a2 : Option Addr) (c1 c2 n : Nat) (f : Nat → T3) (X Y : Nat → Prop) (w : World) (h1 : SlotsOwn X w a1 n f) (h2 : SlotsOwn Y w a2 n f) :
    Calls Try.prog 70 #[.slice a1 n c1, .slice a2 n c2] w fun e w' => e = .returned (.bool true) ∧ Blw w w' := by
  have H1 : Hid (SlotsOwn X w a1 n f) := h1
  have H2 : Hid (SlotsOwn Y w a2 n f) := h2
  have hn := h1.1
  clear h1 h2
  have hne : ((n : Int) != (n : Int)) = false := by simp
  go_enter Try.func70, Try.ntmps70
  go_wp2_with fail
  go_loopw [5] (fun i wr => ∃ k : Nat, k ≤ n ∧ i = .int .i64 k ∧ Blw w wr) (fun i _ => n - (intOf i).toNat)
  case atStart => exact ⟨0, Nat.zero_le _, rfl, Blw.refl _⟩
  case round =>
    obtain ⟨k, hk, rfl, hb⟩ := hrel
    by_cases hlt : k < n
    · have hlt' : (k : Int) < n := by omega
      obtain ⟨b1, -, rfl, r1⟩ := (H1.out.blw hb).2 (by omega)
      obtain ⟨b2, -, rfl, r2⟩ := (H2.out.blw hb).2 (by omega)
      have P0 : ∀ w', Blw wr w' → w'.cell? ⟨b1, k * 3, none⟩ = some (.int .i64 (f k).1) := fun w' hh => (slot_get (r1.blw hh) hlt).1
      have P1 : ∀ w', Blw wr w' → w'.cell? ⟨b1, k * 3 + 1, none⟩ = some (.int .i64 (f k).2.1) := fun w' hh => (slot_get (r1.blw hh) hlt).2.1
      have P2 : ∀ w', Blw wr w' → w'.cell? ⟨b1, k * 3 + 2, none⟩ = some (.int .i64 (f k).2.2) := fun w' hh => (slot_get (r1.blw hh) hlt).2.2
      have Q0 : ∀ w', Blw wr w' → w'.cell? ⟨b2, k * 3, none⟩ = some (.int .i64 (f k).1) := fun w' hh => (slot_get (r2.blw hh) hlt).1
      have Q1 : ∀ w', Blw wr w' → w'.cell? ⟨b2, k * 3 + 1, none⟩ = some (.int .i64 (f k).2.1) := fun w' hh => (slot_get (r2.blw hh) hlt).2.1
      have Q2 : ∀ w', Blw wr w' → w'.cell? ⟨b2, k * 3 + 2, none⟩ = some (.int .i64 (f k).2.2) := fun w' hh => (slot_get (r2.blw hh) hlt).2.2
      have HB : Hid (Blw w wr) := hb
      clear r1 r2 H1 H2 hb
      go_wp2_with fail
      go_region_held3 (fun w' => Blw wr w') ((first | exact (Blw.refl _).drew | assumption | exact Blw.trans (by assumption) (by assumption))) (first
        | (go_at_call 73; refine (eqSlot_same (f k).1 (f k).2.1 (f k).2.2 _).mono ?_; rintro e w7 ⟨rfl, hb7⟩))
      all_goals go_wp2
      all_goals go_roundw
      all_goals first | exact ⟨k + 1, by omega, by go_num, HB.out.trans (by assumption)⟩ | (simp [intOf]; omega)
    · obtain rfl : k = n := by omega
      go_wp2
      go_ret
      exact ⟨rfl, hb⟩
def mk3 (k : Int) : Nat → T3 := fun j => (k + 3 * j, k + 3 * j + 1, k + 3 * j + 2)
theorem mark_row {w : World} {b n i : Nat} {k : Int} {f : Nat → T3} (hi : i < n) (r : Row w b (n * 3) (sc (fun j => if j < i then mk3 k j else f j))) :
    Row (((w.setCell ⟨b, i * 3, none⟩ (.int .i64 (k + 3 * i))).setCell ⟨b, i * 3 + 1, none⟩ (.int .i64 (k + 3 * i + 1))).setCell ⟨b, i * 3 + 2, none⟩ (.int .i64 (k + 3 * i + 2))) b (n * 3) (sc (fun j => if j < i + 1 then mk3 k j else f j)) := by
  refine (((r.set (i * 3) _).set (i * 3 + 1) _).set (i * 3 + 2) _).congr (fun t ht => ?_)
  obtain ⟨g0, g1, g2⟩ := sc_at (fun j => if j < i + 1 then mk3 k j else f j) i
  by_cases e2 : t = i * 3 + 2
  · subst e2
    rw [if_pos rfl, g2]
    simp [mk3]
  · rw [if_neg e2]
    by_cases e1 : t = i * 3 + 1
    · subst e1
      rw [if_pos rfl, g1]
      simp [mk3]
    · rw [if_neg e1]
      by_cases e0 : t = i * 3
      · subst e0
        rw [if_pos rfl, g0]
        simp [mk3]
      · rw [if_neg e0]
        have hq : t / 3 ≠ i := by omega
        have hq2 : (t / 3 < i + 1) = (t / 3 < i) := by simp; omega
        simp [sc, hq2]
theorem mark_step {w wr : World} {b n i : Nat} {k : Int} {f : Nat → T3} {X : Nat → Prop} (hn : n ≤ 2) (hi : i < n) (hx : X b) (hm : Mod X w wr) (r : Row wr b (n * 3) (sc (fun j => if j < i then mk3 k j else f j))) :
    SlotsOwn X (((wr.setCell ⟨b, i * 3, none⟩ (.int .i64 (k + 3 * i))).setCell ⟨b, i * 3 + 1, none⟩ (.int .i64 (k + 3 * i + 1))).setCell ⟨b, i * 3 + 2, none⟩ (.int .i64 (k + 3 * i + 2))) (some ⟨b, 0, none⟩) n (fun j => if j < i + 1 then mk3 k j else f j) ∧ Mod X w (((wr.setCell ⟨b, i * 3, none⟩ (.int .i64 (k + 3 * i))).setCell ⟨b, i * 3 + 1, none⟩ (.int .i64 (k + 3 * i + 1))).setCell ⟨b, i * 3 + 2, none⟩ (.int .i64 (k + 3 * i + 2))) :=
  ⟨⟨hn, fun _ => ⟨b, hx, rfl, mark_row hi r⟩⟩, ((hm.trans (Mod.setCell _ (p := ⟨b, i * 3, none⟩) hx _)).trans (Mod.setCell _ (p := ⟨b, i * 3 + 1, none⟩) hx _)).trans (Mod.setCell _ (p := ⟨b, i * 3 + 2, none⟩) hx _)⟩
set_option maxHeartbeats 1600000 in
theorem markSlotS_any (ao : Option Addr) (c n : Nat) (f : Nat → T3) (X : Nat → Prop) (k : Int) (w : World) (h1 : 0 ≤ k) (h2 : k ≤ 2097152) (h : SlotsOwn X w ao n f) :
    Calls Try.prog 71 #[.slice ao n c, .int .i64 k] w fun e w' => e = .returned (.int .i64 (k + 3 * n)) ∧ SlotsOwn X w' ao n (mk3 k) ∧ Mod X w w' := by
  have H : Hid (SlotsOwn X w ao n f) := h
  have hn := h.1
  clear h
  go_enter Try.func71, Try.ntmps71
  go_wp2_with fail
  go_loopw [1, 5] (fun kv iv wr => ∃ i : Nat, i ≤ n ∧ iv = .int .i64 i ∧ kv = .int .i64 (k + 3 * i) ∧ SlotsOwn X wr ao n (fun j => if j < i then mk3 k j else f j) ∧ Mod X w wr) (fun _ i _ => n - (intOf i).toNat)
  case atStart => exact ⟨0, Nat.zero_le _, rfl, by simp, by simpa using H.out, Mod.refl _ _⟩
  case round =>
    obtain ⟨i, hi, rfl, rfl, S, hm⟩ := hrel
    clear H
    by_cases hlt : i < n
    · have hlt' : (i : Int) < n := by omega
      obtain ⟨b, hx, rfl, r⟩ := S.2 (by omega)
      obtain ⟨p0, p1, p2⟩ := slot_get r hlt
      have f0 := r.frozen (i * 3)
      have f1 := r.frozen (i * 3 + 1)
      have f2 := r.frozen (i * 3 + 2)
      have HR : Hid _ := mark_step hn hlt hx hm r
      clear S hm r
      have e1 : k + 3 * (i : Int) + 1 + 1 = k + 3 * i + 2 := by omega
      go_wp2
      go_roundw
      case rel => exact ⟨i + 1, by omega, by go_num, by congr 1; omega, HR.out⟩
      case measure => simp [intOf]; omega
    · obtain rfl : i = n := by omega
      go_wp2
      go_ret
      refine ⟨rfl, ⟨S.1, fun h0 => ?_⟩, hm⟩
      obtain ⟨b, hx, e, r⟩ := S.2 h0
      refine ⟨b, hx, e, r.congr (fun t ht => ?_)⟩
      have : t / 3 < i := by omega
      simp [sc, this]
set_option maxHeartbeats 1600000 in
theorem heldSlotS_any (ao : Option Addr) (c n : Nat) (X : Nat → Prop) (k : Int) (w : World) (h1 : 0 ≤ k) (h2 : k ≤ 2097152) (h : SlotsOwn X w ao n (mk3 k)) :
    Calls Try.prog 72 #[.slice ao n c, .int .i64 k] w fun e w' => e = .returned (.int .i64 (k + 3 * n)) ∧ Blw w w' := by
  have H : Hid (SlotsOwn X w ao n (mk3 k)) := h
  have hn := h.1
  clear h
  go_enter Try.func72, Try.ntmps72
  go_wp2_with fail
  go_loopw [1, 5] (fun kv iv wr => ∃ i : Nat, i ≤ n ∧ iv = .int .i64 i ∧ kv = .int .i64 (k + 3 * i) ∧ wr = w) (fun _ i _ => n - (intOf i).toNat)
  case atStart => exact ⟨0, Nat.zero_le _, rfl, by simp, rfl⟩
  case round =>
    obtain ⟨i, hi, rfl, rfl, rfl⟩ := hrel
    by_cases hlt : i < n
    · have hlt' : (i : Int) < n := by omega
      obtain ⟨b, hx, rfl, r⟩ := H.out.2 (by omega)
      obtain ⟨p0, p1, p2⟩ := slot_get r hlt
      simp only [mk3] at p0 p1 p2
      have e1 : k + 3 * (i : Int) + 1 + 1 = k + 3 * i + 2 := by omega
      have n0 : ((k + 3 * (i : Int)) != (k + 3 * (i : Int))) = false := by simp
      have n1 : ((k + 3 * (i : Int) + 1) != (k + 3 * (i : Int) + 1)) = false := by simp
      have n2 : ((k + 3 * (i : Int) + 2) != (k + 3 * (i : Int) + 2)) = false := by simp
      clear r
      go_wp2
      go_roundw
      case rel => exact ⟨i + 1, by omega, by go_num, by congr 1; omega, by first | rfl | trivial⟩
      case measure => simp [intOf]; omega
    · obtain rfl : i = n := by omega
      go_wp2
      go_ret
      exact ⟨rfl, Blw.refl _⟩
end Go.Proofs.Ytnbcjdoohmjghaa
/- 'impl.NewestSlot' and 'spec.NewestSlot'. -/
namespace Go.Proofs.Ytnbcjdoohmjghaa
open Go.RowKit
set_option linter.unusedSimpArgs false
set_option linter.unusedVariables false
/-- The newest of the first k slots. -/
def nw (f : Nat → T3) : Nat → T3
  | 0 => (0, 0, 0)
  | k + 1 => if (nw f k).1 < (f k).1 then f k else nw f k
theorem nw_yes {f : Nat → T3} {k : Nat} (h : (nw f k).1 < (f k).1) : nw f (k + 1) = f k := by simp [nw, h]
theorem nw_no {f : Nat → T3} {k : Nat} (h : ¬ (nw f k).1 < (f k).1) : nw f (k + 1) = nw f k := by simp [nw, h]
theorem rdL_ok (c : Nat → Nat → Int) : ∀ k, ∀ t ∈ rdL c k, 1 ≤ t.1 := by
  intro k
  induction k with
  | zero => intro t ht; simp [rdL] at ht
  | succ k ih =>
    intro t ht
    by_cases h : recI (c k) k
    · rw [rdL_yes h, List.mem_append] at ht
      rcases ht with ht | ht
      · exact ih t ht
      · simp only [List.mem_singleton] at ht
        subst ht
        exact h.1.1.1
    · rw [rdL_no h] at ht
      exact ih t ht
theorem nw_ok {M : MD} {n : Nat} {f : Nat → T3} {b : Bool} (h : rsOut M n f b) : ∀ k, k ≤ n → nw f k = (0, 0, 0) ∨ 1 ≤ (nw f k).1 := by
  have hf : ∀ i, i < n → 1 ≤ (f i).1 := by
    intro i hi
    rcases h with ⟨_, rfl, rfl, _⟩ | ⟨_, rfl, _, _⟩
    · have e : lf (rdL M.v2 2) i = (rdL M.v2 2)[i] := by simp [lf, hi]
      rw [e]
      exact rdL_ok M.v2 2 _ (List.getElem_mem _)
    · omega
  intro k
  induction k with
  | zero => intro _; exact Or.inl rfl
  | succ k ih =>
    intro hk
    by_cases h2 : (nw f k).1 < (f k).1
    · rw [nw_yes h2]; exact Or.inr (hf k (by omega))
    · rw [nw_no h2]; exact ih (by omega)
/-- What NewestSlot answers. -/
def nsOut (M : MD) (e a b : Int) (ok : Bool) : Prop := ∃ n f c, rsOut M n f c ∧ (e, a, b) = nw f n ∧ ok = decide (0 < e)
theorem nsOut_same {M : MD} {e a b e' a' b' : Int} {x y : Bool} (h : nsOut M e a b x) (k : nsOut M e' a' b' y) : e = e' ∧ a = a' ∧ b = b' ∧ x = y := by
  obtain ⟨n, f, c, h1, h2, rfl⟩ := h
  obtain ⟨n', f', c', k1, k2, rfl⟩ := k
  obtain ⟨rfl, rfl, rfl⟩ := rsOut_same h1 k1
  rw [← h2] at k2
  simp only [Prod.mk.injEq] at k2
  obtain ⟨rfl, rfl, rfl⟩ := k2
  exact ⟨rfl, rfl, rfl, rfl⟩
abbrev sbox (w : World) (z : Nat) (t : T3) : Prop := Row w z 3 (fun i => if i = 0 then Value.int .i64 t.1 else if i = 1 then .int .i64 t.2.1 else .int .i64 t.2.2)
set_option maxRecDepth 10000 in
set_option maxHeartbeats 3200000 in
theorem implNewest_any (m : MV) (M : MD) (Y : Nat → Prop) (w : World) (h : MemAt Y w m M) :
    Calls Try.prog 43 #[m.val M] w fun r w' => ∃ e a b ok, r = .returned (.tuple #[slotV e a b, .bool ok]) ∧ nsOut M e a b ok ∧ Blw w w' := by
  go_enter Try.func43, Try.ntmps43
  go_wp2_with fail
  have hb0 : Blw w ((w.alloc (.cells #[.slice m.a1 M.n1 m.c1, .slice m.a2 M.n2 m.c2, .slice m.a3 M.n3 m.c3] 26)).alloc (.cells #[.int .i64 0, .int .i64 0, .int .i64 0] 56)) := ((Blw.refl _).alloc _).alloc _
  have rR := box3 (w.alloc (.cells #[.slice m.a1 M.n1 m.c1, .slice m.a2 M.n2 m.c2, .slice m.a3 M.n3 m.c3] 26)) (.int .i64 0) (.int .i64 0) (.int .i64 0) 56
  rw [World.size_alloc] at rR
  refine (implRead_any m M Y _ (h.blw hb0)).mono ?_
  rintro r w1 ⟨ao, n, c, f, bb, rfl, hout, own, hb1⟩
  have HO : Hid (rsOut M n f bb) := hout
  replace rR := rR.blw hb1
  have rlt := rR.lt
  replace hb1 := hb0.trans hb1
  have hn2 := own.1
  have zz := hb1.size
  clear hout hb0 h
  have HA : Hid (SlotsOwn _ w1 ao n f) := own
  clear own
  go_wp2_with fail
  have hA : Blw w1 (w1.alloc (.cells #[.int .i64 0, .int .i64 0, .int .i64 0] 56)) := (Blw.refl _).alloc _
  have r6 := box3 w1 (.int .i64 0) (.int .i64 0) (.int .i64 0) 56
  have HS : Hid (SlotsOwn (fun b => b < w1.heap.size) _ ao n f ∧ sbox _ (w.heap.size + 1) (0, 0, 0) ∧ sbox _ w1.heap.size (0, 0, 0) ∧ Blw w _) := And.intro ((HA.out.mono (fun b hb => hb.2)).blw hA) (And.intro (rR.blw hA) (And.intro r6 (hb1.trans hA)))
  clear HA hA r6 rR hb1
  generalize w1.alloc (.cells #[.int .i64 0, .int .i64 0, .int .i64 0] 56) = w2 at *
  generalize w1.heap.size = z at *
  go_loopw [16] (fun i wr => ∃ k : Nat, k ≤ n ∧ i = .int .i64 k ∧ sbox wr z (nw f k) ∧ Mod (fun x => x = z) w2 wr) (fun i _ => n - (intOf i).toNat)
  case atStart => exact ⟨0, Nat.zero_le _, rfl, HS.out.2.2.1, Mod.refl _ _⟩
  case round =>
    obtain ⟨k, hk, rfl, r6, hm⟩ := hrel
    by_cases hlt : k < n
    · have hlt' : (k : Int) < n := by omega
      obtain ⟨b, hx, rfl, rr⟩ := (HS.out.1.mod hm (fun b hb => by omega)).2 (by omega)
      obtain ⟨p0, p1, p2⟩ := slot_get rr hlt
      have QA := fun o => get3 (r6.blw ((Blw.refl wr).alloc o))
      have f0 := fun o => (r6.blw ((Blw.refl wr).alloc o)).frozen 0
      have f1 := fun o => (r6.blw ((Blw.refl wr).alloc o)).frozen 1
      have f2 := fun o => (r6.blw ((Blw.refl wr).alloc o)).frozen 2
      have hmA : Mod (fun x => x = z) w2 (wr.alloc (.cells #[.int .i64 (f k).1, .int .i64 (f k).2.1, .int .i64 (f k).2.2] 56)) := hm.trans (((Blw.refl wr).alloc _).mod _)
      have r6A := r6.blw ((Blw.refl wr).alloc (.cells #[.int .i64 (f k).1, .int .i64 (f k).2.1, .int .i64 (f k).2.2] 56))
      by_cases hg : (nw f k).1 < (f k).1
      · have I : Hid (sbox _ z (nw f (k + 1)) ∧ Mod (fun x => x = z) w2 _) := And.intro (by rw [nw_yes hg]; exact box_put r6A (.int .i64 (f k).1) (.int .i64 (f k).2.1) (.int .i64 (f k).2.2)) (hmA.trans (mod_set3 _ z (.int .i64 (f k).1) (.int .i64 (f k).2.1) (.int .i64 (f k).2.2)))
        have d1 : decide ((f k).1 > (nw f k).1) = true := by simp; omega
        clear r6 hm rr hmA r6A
        go_wp2
        go_roundw
        case rel => exact ⟨k + 1, by omega, by go_num, I.out⟩
        case measure => simp [intOf]; omega
      · have I : Hid (sbox _ z (nw f (k + 1)) ∧ Mod (fun x => x = z) w2 _) := And.intro (by rw [nw_no hg]; exact r6A) hmA
        have d1 : decide ((f k).1 > (nw f k).1) = false := by simp; omega
        clear r6 hm rr hmA r6A
        go_wp2
        go_roundw
        case rel => exact ⟨k + 1, by omega, by go_num, I.out⟩
        case measure => simp [intOf]; omega
    · obtain rfl : k = n := by omega
      have rR := HS.out.2.1.mod hm (by omega)
      have hbW : Blw w wr := Mod.blw HS.out.2.2.2 hm (fun i hi => by omega)
      obtain ⟨x0, x1, x2⟩ := get3 rR
      have f0 := rR.frozen 0
      have f1 := rR.frozen 1
      have f2 := rR.frozen 2
      have HK : Hid (nw f k = (0, 0, 0) ∨ 1 ≤ (nw f k).1) := nw_ok HO.out k (Nat.le_refl _)
      obtain ⟨⟨e, a, b⟩, het⟩ : ∃ t, nw f k = t := ⟨_, rfl⟩
      rw [het] at HK r6
      obtain ⟨Z0, Z1, Z2⟩ := box3_mod (R := w.heap.size + 1) r6 (by omega)
      clear r6 hm HS rR
      rcases HK.out with hz | hz
      · simp only [Prod.mk.injEq] at hz
        obtain ⟨rfl, rfl, rfl⟩ := hz
        go_wp2_with fail
        go_region_held3 (fun w' => Mod (fun x => x = w.heap.size + 1) wr w') ((first | exact (Mod.refl _ _).drew | assumption | exact Mod.trans (by assumption) (mod_set3 _ _ _ _ _))) (fail)
        all_goals go_wp2
        all_goals exact bodyPost_ret (v := .tuple #[slotV 0 0 0, .bool false]) (by simp [results, Try.results43, go_sem, x0, x1, x2]) rfl ⟨0, 0, 0, false, rfl, ⟨k, f, bb, HO.out, het.symm, by decide⟩, Mod.blw hbW (by assumption) (fun i hi => by omega)⟩
      · have hz' : 1 ≤ e := hz
        have hz0 : ¬ e = 0 := by omega
        have hz1 : (e == 0) = false := by simp; omega
        clear HK hz
        go_wp2_with fail
        go_region_held3 (fun w' => Mod (fun x => x = w.heap.size + 1) wr w') ((first | exact (Mod.refl _ _).drew | assumption | exact Mod.trans (by assumption) (mod_set3 _ _ _ _ _))) (fail)
        all_goals go_wp2
        all_goals exact bodyPost_ret (v := .tuple #[slotV e a b, .bool true]) (by simp [results, Try.results43, go_sem, x0, x1, x2]) rfl ⟨e, a, b, true, rfl, ⟨k, f, bb, HO.out, het.symm, by simp; omega⟩, Mod.blw hbW (by assumption) (fun i hi => by omega)⟩
end Go.Proofs.Ytnbcjdoohmjghaa
/- The newest slot behind writes and failures. -/
namespace Go.Proofs.Ytnbcjdoohmjghaa
open Go.RowKit
set_option linter.unusedVariables false
/-- The newest slot that stands in lines 0 and 1 of c. -/
noncomputable def nwC (c : Nat → Nat → Int) : T3 := nw (lf (rdL c 2)) (rdL c 2).length
theorem recI_congr {f g : Nat → Int} {k : Nat} (h : ∀ j, j < 4 → f j = g j) : recI f k ↔ recI g k := by
  unfold recI
  rw [h 0 (by omega), h 1 (by omega), h 2 (by omega), h 3 (by omega)]
theorem rdL_congr {c c' : Nat → Nat → Int} (h : ∀ k, k < 2 → ∀ j, j < 4 → c k j = c' k j) : ∀ k, k ≤ 2 → rdL c k = rdL c' k := by
  intro k
  induction k with
  | zero => intro _; rfl
  | succ k ih =>
    intro hk
    have hc := h k (by omega)
    by_cases hr : recI (c k) k
    · rw [rdL_yes hr, rdL_yes ((recI_congr hc).1 hr), ih (by omega), hc 0 (by omega), hc 1 (by omega), hc 2 (by omega)]
    · rw [rdL_no hr, rdL_no (fun g => hr ((recI_congr hc).2 g)), ih (by omega)]
theorem nwC_congr {c c' : Nat → Nat → Int} (h : ∀ k, k < 2 → ∀ j, j < 4 → c k j = c' k j) : nwC c = nwC c' := by
  unfold nwC
  rw [rdL_congr h 2 (Nat.le_refl _)]
/-- Lines 0 and 1, each its slot or none. -/
theorem nwC_two (c : Nat → Nat → Int) : (recI (c 0) 0 ∧ recI (c 1) 1 ∧ nwC c = (if c 0 0 < c 1 0 then (c 1 0, c 1 1, c 1 2) else (c 0 0, c 0 1, c 0 2))) ∨ (recI (c 0) 0 ∧ ¬ recI (c 1) 1 ∧ nwC c = (c 0 0, c 0 1, c 0 2)) ∨ (¬ recI (c 0) 0 ∧ recI (c 1) 1 ∧ nwC c = (c 1 0, c 1 1, c 1 2)) ∨ (¬ recI (c 0) 0 ∧ ¬ recI (c 1) 1 ∧ nwC c = (0, 0, 0)) := by
  have e0 : rdL c 0 = [] := rfl
  by_cases h0 : recI (c 0) 0
  · have p0 : 0 < c 0 0 := by have := h0.1.1.1; omega
    have e1 : rdL c 1 = [(c 0 0, c 0 1, c 0 2)] := by rw [rdL_yes h0, e0]; rfl
    by_cases h1 : recI (c 1) 1
    · have e2 : rdL c 2 = [(c 0 0, c 0 1, c 0 2), (c 1 0, c 1 1, c 1 2)] := by rw [rdL_yes h1, e1]; rfl
      refine Or.inl ⟨h0, h1, ?_⟩
      simp [nwC, e2, nw, lf, p0]
    · have e2 : rdL c 2 = [(c 0 0, c 0 1, c 0 2)] := by rw [rdL_no h1, e1]
      refine Or.inr (Or.inl ⟨h0, h1, ?_⟩)
      simp [nwC, e2, nw, lf, p0]
  · have e1 : rdL c 1 = [] := by rw [rdL_no h0, e0]
    by_cases h1 : recI (c 1) 1
    · have p1 : 0 < c 1 0 := by have := h1.1.1.1; omega
      have e2 : rdL c 2 = [(c 1 0, c 1 1, c 1 2)] := by rw [rdL_yes h1, e1]; rfl
      refine Or.inr (Or.inr (Or.inl ⟨h0, h1, ?_⟩))
      simp [nwC, e2, nw, lf, p1]
    · have e2 : rdL c 2 = [] := by rw [rdL_no h1, e1]
      refine Or.inr (Or.inr (Or.inr ⟨h0, h1, ?_⟩))
      simp [nwC, e2, nw]
theorem nwC_max {c : Nat → Nat → Int} {k : Nat} (hk : k < 2) (h : recI (c k) k) : c k 0 ≤ (nwC c).1 := by
  rcases nwC_two c with ⟨h0, h1, e⟩ | ⟨h0, h1, e⟩ | ⟨h0, h1, e⟩ | ⟨h0, h1, e⟩ <;> rw [e]
  · match k, hk with
    | 0, _ => split <;> simp <;> omega
    | 1, _ => split <;> simp <;> omega
  · match k, hk with
    | 0, _ => simp
    | 1, _ => exact absurd h h1
  · match k, hk with
    | 0, _ => exact absurd h h0
    | 1, _ => simp
  · match k, hk with
    | 0, _ => exact absurd h h0
    | 1, _ => exact absurd h h1
/-- A record that is newer than what stands in the other line is the newest. -/
theorem nwC_new {c : Nat → Nat → Int} {q : Nat} (hq : q < 2) (h : recI (c q) q) (ho : ∀ p, p < 2 → p ≠ q → recI (c p) p → c p 0 < c q 0) : nwC c = (c q 0, c q 1, c q 2) := by
  rcases nwC_two c with ⟨h0, h1, e⟩ | ⟨h0, h1, e⟩ | ⟨h0, h1, e⟩ | ⟨h0, h1, e⟩ <;> rw [e]
  · match q, hq with
    | 0, _ => have := ho 1 (by omega) (by omega) h1; rw [if_neg (by omega)]
    | 1, _ => have := ho 0 (by omega) (by omega) h0; rw [if_pos (by omega)]
  · match q, hq with
    | 0, _ => rfl
    | 1, _ => exact absurd h h1
  · match q, hq with
    | 0, _ => exact absurd h h0
    | 1, _ => rfl
  · match q, hq with
    | 0, _ => exact absurd h h0
    | 1, _ => exact absurd h h1
theorem nsOut_nw {M : MD} {e a b : Int} {ok : Bool} (g : M.Good) (h : nsOut M e a b ok) : (e, a, b) = nwC M.v2 ∧ ok = decide (0 < e) := by
  obtain ⟨n, f, c, h1, h2, rfl⟩ := h
  rcases h1 with ⟨_, rfl, rfl, _⟩ | ⟨ng, _⟩
  · exact ⟨h2, rfl⟩
  · exact absurd g ng
theorem nsOut_good {M : MD} {e a b : Int} (h : nsOut M e a b true) : M.Good := by
  obtain ⟨n, f, c, h1, h2, h3⟩ := h
  rcases h1 with ⟨g, _⟩ | ⟨_, rfl, rfl, _⟩
  · exact g
  · simp only [nw, Prod.mk.injEq] at h2
    obtain ⟨rfl, _⟩ := h2
    simp at h3
theorem sum_ok (e a b : Int) : 0 ≤ sumOf e a b ∧ sumOf e a b ≤ 65535 := by unfold sumOf; omega
theorem slotF_ok {e a b : Int} (h : slotOK e a b) : ∀ i, i < 4 → 0 ≤ slotF e a b i ∧ slotF e a b i ≤ 65535 := by
  obtain ⟨⟨e1, e2⟩, ⟨a1, a2⟩, b1, b2⟩ := h
  intro i hi
  match i, hi with
  | 0, _ => simp only [slotF, if_true]; omega
  | 1, _ => simp only [slotF]; simp; omega
  | 2, _ => simp only [slotF]; simp; omega
  | 3, _ => simp only [slotF]; simp; exact sum_ok e a b
/-- A slot that is written to a good memory: told true, good; its line holds it, no other line has changed. -/
theorem ws_good {M M' : MD} {e a b : Int} {ok : Bool} (g : M.Good) (hs : slotOK e a b) (h : wsOut M e a b M' ok) : ok = true ∧ M'.Good ∧ (∃ s c d, M' = MD.full s c d) ∧ M'.v1 = M.v1 ∧
    ∃ q : Nat, (q : Int) = e % 2 ∧ q < 2 ∧ (∀ j, j < 4 → M'.v2 q j = slotF e a b j) ∧ (∀ k, k ≠ q → ∀ j, M'.v2 k j = M.v2 k j) ∧ ∀ k, k ≠ q → M'.d k = M.d k := by
  obtain ⟨q, hq⟩ := Int.eq_ofNat_of_zero_le (show 0 ≤ e % 2 by omega)
  have hq2 : q < 2 := by omega
  have hst : stretch (e % 2 * 4) 4 := ⟨by omega, by omega, by omega⟩
  rcases h with ⟨_, h⟩ | ⟨ng, _⟩
  · have hok : ok = true := by
      rcases h with ⟨_, _, _, _, rfl⟩ | ⟨ng, _⟩
      · rfl
      · exact absurd ⟨g, hst, slotF_ok hs⟩ ng
    subst hok
    obtain ⟨_, g', _, rfl⟩ := saOut_good h
    have hn : (e % 2 * 4).toNat = q * 4 := by omega
    refine ⟨rfl, g', ⟨_, _, _, rfl⟩, rfl, q, hq.symm, hq2, fun j hj => ?_, fun k hk j => ?_, fun k hk => ?_⟩
    · show saC M.v2 (e % 2 * 4).toNat (slotF e a b) 4 q j = _
      rw [hn]
      have := saC_at (c := M.v2) (a := q * 4) (f := slotF e a b) 4 j hj
      have e1 : (q * 4 + j) / 4 = q := by omega
      have e2 : (q * 4 + j) % 4 = j := by omega
      rw [e1, e2] at this
      exact this
    · show saC M.v2 (e % 2 * 4).toNat (slotF e a b) 4 k j = _
      rw [hn]
      exact saC_other 4 (fun t ht hh => hk (by omega))
    · show saD M.d (e % 2 * 4).toNat 4 k = _
      rw [hn]
      have : ∀ n, n ≤ 4 → saD M.d (q * 4) n k = M.d k := by
        intro n
        induction n with
        | zero => intro _; rfl
        | succ n ih =>
          intro hn
          show stD (saD M.d (q * 4) n) (q * 4 + n) k = _
          unfold stD
          rw [if_neg (by omega)]
          exact ih (by omega)
      exact this 4 (Nat.le_refl _)
  · exact absurd hs ng
theorem rec_slotF {f : Nat → Int} {e a b : Int} {q : Nat} (hs : slotOK e a b) (hq : (q : Int) = e % 2) (h : ∀ j, j < 4 → f j = slotF e a b j) : recI f q ∧ f 0 = e ∧ f 1 = a ∧ f 2 = b := by
  have h0 : f 0 = e := by rw [h 0 (by omega)]; simp [slotF]
  have h1 : f 1 = a := by rw [h 1 (by omega)]; simp [slotF]
  have h2 : f 2 = b := by rw [h 2 (by omega)]; simp [slotF]
  have h3 : f 3 = sumOf e a b := by rw [h 3 (by omega)]; simp [slotF]
  exact ⟨⟨by rw [h0, h1, h2]; exact hs, by rw [h0]; exact hq.symm, by rw [h0, h1, h2, h3]⟩, h0, h1, h2⟩
end Go.Proofs.Ytnbcjdoohmjghaa
