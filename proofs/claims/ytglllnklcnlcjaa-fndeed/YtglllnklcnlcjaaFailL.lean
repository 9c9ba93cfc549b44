/- 'spec.l1Fail'. -/
import Derived.Test.YtglllnklcnlcjaaFailW
namespace Go.Proofs.Ytglllnklcnlcjaa
open Go.RowKit
set_option linter.unusedSimpArgs false
theorem own_eta {X : Nat → Prop} {w : World} {m : MV} {M : MD} {b1 b2 b3 : Nat} (_ : m.a1 = some ⟨b1, 0, none⟩) (e2 : m.a2 = some ⟨b2, 0, none⟩) (e3 : m.a3 = some ⟨b3, 0, none⟩) (h : MemOwn X w ⟨m.a1, some ⟨b2, 0, none⟩, some ⟨b3, 0, none⟩, m.c1, m.c2, m.c3⟩ M) : MemOwn X w m M := by
  rw [← e2, ← e3] at h
  exact h
set_option maxRecDepth 10000 in
set_option maxHeartbeats 3200000 in
theorem l1Fail_any (m : MV) (M : MD) (Y Y2 : Nat → Prop) (w : World) (ao : Option Addr) (n c : Nat) (f : Nat → Int) (gd : M.Good) (h : MemAt Y w m M) (hI0 : IntsAt Y2 w ao n f) :
    Calls Try.prog 56 #[m.val M, .slice ao n c] w fun e w' => ∃ m' : MV, e = .returned (m'.val (MD.full (fpS M.v1 M.v2 (hasLine n f) 12) (fpC M.v1 M.v2 (hasLine n f) 12) (faD M.d 12))) ∧ MemOwn (fun b => w.heap.size ≤ b ∧ b < w'.heap.size) w' m' (MD.full (fpS M.v1 M.v2 (hasLine n f) 12) (fpC M.v1 M.v2 (hasLine n f) 12) (faD M.d 12)) ∧ Blw w w' := by
  have GD : Hid M.Good := gd
  have HI0 : Hid (IntsAt Y2 w ao n f) := hI0
  clear gd hI0
  go_enter Try.func56, Try.ntmps56
  go_wp2_with fail
  have hb0 : Blw w ((w.alloc (.cells #[.slice m.a1 M.n1 m.c1, .slice m.a2 M.n2 m.c2, .slice m.a3 M.n3 m.c3] 26)).alloc (.cells #[.slice none 0 0, .slice none 0 0, .slice none 0 0] 26)) := ((Blw.refl _).alloc _).alloc _
  have rR := res_row w (.slice m.a1 M.n1 m.c1) (.slice m.a2 M.n2 m.c2) (.slice m.a3 M.n3 m.c3)
  refine (l1Own_any m M Y _ GD.out (h.blw hb0)).mono ?_
  rintro e w2 ⟨m2, rfl, own, hb2⟩
  simp only [MV.val, MD.full]
  have rlt := rR.lt
  have HM : Hid (Mine _ _ _ _ _ _ _) := Mine.start (hb0.trans hb2) rlt (rR.blw hb2) own
  clear h own rR rlt hb2 hb0
  go_wp2_with fail
  revert HM
  generalize w2.heap.size = z
  generalize w2.alloc (.cells #[.slice m2.a1 12 m2.c1, .slice m2.a2 12 m2.c2, .slice m2.a3 12 m2.c3] 26) = w3
  intro HM
  go_loopw [12] (fun i wr => ∃ k : Nat, k ≤ 12 ∧ i = .int .i64 k ∧ Mine w wr z m2 (fpS M.v1 M.v2 (hasLine n f) k) (fpC M.v1 M.v2 (hasLine n f) k) (faD M.d k)) (fun i _ => 12 - (intOf i).toNat)
  case atStart => exact ⟨0, by omega, rfl, by rw [fpS_zero, fpC_zero, faD_zero]; exact HM.out⟩
  case round =>
    obtain ⟨k, hk, rfl, I⟩ := hrel
    clear HM
    by_cases hlt : k < 12
    · go_wp2_with fail
      refine (l1Has_any ao c n f Y2 _ k (HI0.out.blw I.blw)).mono ?_
      rintro e W0 ⟨b, rfl, hb, rfl⟩
      have HP : Hid (b = true ↔ hasLine n f k) := hb
      clear hb
      cases b
      · have NP : Hid (¬ hasLine n f k) := fun g => absurd (HP.out.2 g) (by decide)
        clear HP
        go_wp2_with fail
        have JJ : ∀ {W : World} {sv cv : Nat → Nat → Int} {dv : Nat → Bool}, Mine w W z m2 sv cv dv → Mine w W z m2 sv cv dv := fun h => h
        have J0 : Hid (∀ W, Mine w W z m2 (fpS M.v1 M.v2 (hasLine n f) k) (flS (fpC M.v1 M.v2 (hasLine n f) k) (fpS M.v1 M.v2 (hasLine n f) k) k) (flD (faD M.d k) k) → Mine w W z m2 (fpS M.v1 M.v2 (hasLine n f) (k + 1)) (fpC M.v1 M.v2 (hasLine n f) (k + 1)) (faD M.d (k + 1))) := fun W hh => by
          rw [fpS_no NP.out, fpC_next, faD_succ] at hh
          exact hh
        clear JJ
        generalize fpS M.v1 M.v2 (hasLine n f) k = sv at I J0
        generalize fpC M.v1 M.v2 (hasLine n f) k = cv at I J0
        generalize faD M.d k = dv at I J0
        obtain ⟨X, own, hx⟩ := I.own
        have HX : Hid (∀ b, X b → w.heap.size + 1 < b ∧ b < W0.heap.size ∧ b ≠ z) := hx
        obtain ⟨b1, F1, k1, b2, b3, e1, e2, e3, hSx⟩ := back_facts own (fun b hb => (HX.out b hb).2.1) hlt
        obtain ⟨⟨F2, k2, r2⟩, RBx, RCx, R3x, XX, n21, HF⟩ := hSx
        have nz : z ≠ b2 := fun e => (HX.out b2 XX.1).2.2 e.symm
        have rB := I.box
        have RA0 : ∀ w', Mod (fun x => x = b2) W0 w' → w'.cell? ⟨z, 0, none⟩ = some (.slice (some ⟨b1, 0, none⟩) 12 m2.c1) := fun w' hS => by rw [← e1]; exact (get3 (rB.mod hS nz)).1
        have RA1 : ∀ w', Mod (fun x => x = b2) W0 w' → w'.cell? ⟨z, 1, none⟩ = some (.slice (some ⟨b2, 0, none⟩) 12 m2.c2) := fun w' hS => by rw [← e2]; exact (get3 (rB.mod hS nz)).2.1
        have RA2 : Hid (∀ w', Mod (fun x => x = b2) W0 w' → w'.cell? ⟨z, 2, none⟩ = some (.slice (some ⟨b3, 0, none⟩) 12 m2.c3)) := fun w' hS => by rw [← e3]; exact (get3 (rB.mod hS nz)).2.2
        have RB : ∀ w', Mod (fun x => x = b2) W0 w' → w'.cell? ⟨b1, k, none⟩ = some (.slice (some ⟨F1, 0, none⟩) 4 k1) := RBx
        have RC : Hid (∀ w', Mod (fun x => x = b2) W0 w' → ∀ t, t < 4 → w'.cell? ⟨F1, 0 + t, none⟩ = some (.int .i64 (sv k t))) := RCx
        have R3 : Hid (∀ w', Mod (fun x => x = b2) W0 w' → Row w' b3 12 (fun i => .bool (dv i))) := R3x
        have HFF : Hid (∀ w2 b cc, _) := fun w2 b cc h2 hlo hhi hrow => own_eta e1 e2 e3 (HF w2 b cc m2.c1 m2.c2 m2.c3 h2 hlo hhi hrow)
        have HXX : Hid (X b2 ∧ X b3) := XX
        have HI : Hid (Mine w W0 z m2 sv cv dv) := I
        clear RBx RCx R3x HF XX n21 hx own rB I nz e1 e2 e3
        have hI : ¬ (12 ≤ (k : Int)) := by omega
        have hI2 : (k : Int) < 12 := by omega
        refine wp_region_noPanic ?_
        refine wp_region_held_drew (S := fun w' => Mod (fun x => x = b2) W0 w') (by kernel_rfl) ((Blw.refl W0).drew.mod _) (fun hS1 => ?_)
        have h1 : Blw W0 W0.drew := (Blw.refl W0).drew
        revert hS1 h1
        generalize W0.drew = w1
        intro hS1 h1
        refine wpAnyH_take (i := 0) (oi := { dst := some 21, op := Op.fieldAddr 26 (Operand.tmp 5) 1, type := 0, pos := _, after := #[], guard := none }) (v := .pointer (some ⟨z, 1, none⟩)) rfl (by kernel_rfl) (by kernel_rfl) (by kernel_rfl) (fun _ _ _ h => h) (Or.inl ⟨by rfl, fun w' hS => by (try dsimp only at hS); go_simp⟩) hS1 ?_
        simp only [Act.put, List.setIfInBounds_toArray, List.set_cons_zero, List.set_cons_succ]
        refine wpAnyH_take (i := 1) (oi := { dst := some 22, op := Op.load 23 (Operand.tmp 21), type := 23, pos := _, after := #[{ on := 0, ground := Ground.data }], guard := none }) (v := .slice (some ⟨b2, 0, none⟩) 12 m2.c2) rfl (by kernel_rfl) (by kernel_rfl) (by kernel_rfl) (fun _ _ _ h => h) (Or.inl ⟨by rfl, fun w' hS => by (try dsimp only at hS); go_simp⟩) hS1 ?_
        simp only [Act.put, List.setIfInBounds_toArray, List.set_cons_zero, List.set_cons_succ]
        refine wpAnyH_take (i := 2) (oi := { dst := some 23, op := Op.move (Operand.tmp 6), type := 3, pos := _, after := #[], guard := none }) (v := .int .i64 k) rfl (by kernel_rfl) (by kernel_rfl) (by kernel_rfl) (fun _ _ _ h => h) (Or.inl ⟨by rfl, fun w' hS => by (try dsimp only at hS); go_simp⟩) hS1 ?_
        simp only [Act.put, List.setIfInBounds_toArray, List.set_cons_zero, List.set_cons_succ]
        refine wpAnyH_take (i := 3) (oi := { dst := some 24, op := Op.fieldAddr 26 (Operand.tmp 5) 0, type := 0, pos := _, after := #[], guard := none }) (v := .pointer (some ⟨z, 0, none⟩)) rfl (by kernel_rfl) (by kernel_rfl) (by kernel_rfl) (fun _ _ _ h => h) (Or.inl ⟨by rfl, fun w' hS => by (try dsimp only at hS); go_simp⟩) hS1 ?_
        simp only [Act.put, List.setIfInBounds_toArray, List.set_cons_zero, List.set_cons_succ]
        refine wpAnyH_take (i := 4) (oi := { dst := some 25, op := Op.load 23 (Operand.tmp 24), type := 23, pos := _, after := #[{ on := 3, ground := Ground.data }], guard := none }) (v := .slice (some ⟨b1, 0, none⟩) 12 m2.c1) rfl (by kernel_rfl) (by kernel_rfl) (by kernel_rfl) (fun _ _ _ h => h) (Or.inl ⟨by rfl, fun w' hS => by (try dsimp only at hS); go_simp⟩) hS1 ?_
        simp only [Act.put, List.setIfInBounds_toArray, List.set_cons_zero, List.set_cons_succ]
        refine wpAnyH_take (i := 5) (oi := { dst := some 26, op := Op.move (Operand.tmp 6), type := 3, pos := _, after := #[], guard := none }) (v := .int .i64 k) rfl (by kernel_rfl) (by kernel_rfl) (by kernel_rfl) (fun _ _ _ h => h) (Or.inl ⟨by rfl, fun w' hS => by (try dsimp only at hS); go_simp⟩) hS1 ?_
        simp only [Act.put, List.setIfInBounds_toArray, List.set_cons_zero, List.set_cons_succ]
        refine wpAnyH_take (i := 6) (oi := { dst := some 27, op := Op.indexAddr 23 (Operand.tmp 25) (Operand.tmp 26), type := 0, pos := _, after := #[{ on := 4, ground := Ground.data }, { on := 5, ground := Ground.data }], guard := none }) (v := .pointer (some ⟨b1, k, none⟩)) rfl (by kernel_rfl) (by kernel_rfl) (by kernel_rfl) (fun _ _ _ h => h) (Or.inl ⟨by rfl, fun w' hS => by (try dsimp only at hS); go_simp⟩) hS1 ?_
        simp only [Act.put, List.setIfInBounds_toArray, List.set_cons_zero, List.set_cons_succ]
        refine wpAnyH_take (i := 7) (oi := { dst := some 28, op := Op.load 126 (Operand.tmp 27), type := 126, pos := _, after := #[{ on := 6, ground := Ground.data }], guard := none }) (v := .agg #[.slice (some ⟨F1, 0, none⟩) 4 k1]) rfl (by kernel_rfl) (by kernel_rfl) (by kernel_rfl) (fun _ _ _ h => h) (Or.inl ⟨by rfl, fun w' hS => by (try dsimp only at hS); go_simp⟩) hS1 ?_
        simp only [Act.put, List.setIfInBounds_toArray, List.set_cons_zero, List.set_cons_succ]
        refine wpAnyH_ready (rs := [8]) (by kernel_rfl) (by simp) ?_
        refine AllReadyH.cons (o := { dst := some 29, op := Op.call { callee := Callee.value (Operand.func 100), args := #[Operand.tmp 28], argTypes := #[126] }, type := 126, pos := _, after := #[{ on := 7, ground := Ground.data }], guard := none }) rfl (fun K hK => ?_) AllReadyH.nil
        go_simp
        refine (l1Copy_any _ _ _ 4 (sv k) _ (by omega) (by omega) (RC.out _ hS1)).mono ?_
        rintro e w2 ⟨b, cc, rfl, hlo0, hhi, hrow, hb2⟩
        have h2 := h1.trans hb2
        have hlo : W0.heap.size ≤ b := by have := h1.size; omega
        refine hK.out _ _ (h2.mod _) (fun hS2 => ?_)
        clear hK K hlo0 hb2
        try simp only [Act.put, List.setIfInBounds_toArray, List.set_cons_zero, List.set_cons_succ]
        refine wpAnyH_take (i := 9) (oi := { dst := some 30, op := Op.indexAddr 23 (Operand.tmp 22) (Operand.tmp 23), type := 0, pos := _, after := #[{ on := 1, ground := Ground.data }, { on := 2, ground := Ground.data }, { on := 0, ground := Ground.phase }, { on := 1, ground := Ground.phase }, { on := 2, ground := Ground.phase }, { on := 3, ground := Ground.phase }, { on := 4, ground := Ground.phase }, { on := 5, ground := Ground.phase }, { on := 6, ground := Ground.phase }, { on := 7, ground := Ground.phase }, { on := 8, ground := Ground.phase }], guard := none }) (v := .pointer (some ⟨b2, k, none⟩)) rfl (by kernel_rfl) (by kernel_rfl) (by kernel_rfl) (fun _ _ _ h => h) (Or.inl ⟨by rfl, fun w' hS => by (try dsimp only at hS); go_simp⟩) hS2 ?_
        simp only [Act.put, List.setIfInBounds_toArray, List.set_cons_zero, List.set_cons_succ]
        have qq0 := (r2.blw h2).cell (i := k) hlt
        have qq1 := (r2.blw h2).frozen k
        refine wpAnyH_ready (rs := [10]) (by kernel_rfl) (by simp) ?_
        refine AllReadyH.cons (o := { dst := none, op := Op.store 126 (Operand.tmp 30) (Operand.tmp 29), type := 0, pos := _, after := #[{ on := 9, ground := Ground.data }, { on := 8, ground := Ground.data }, { on := 8, ground := Ground.chain }, { on := 0, ground := Ground.phase }, { on := 1, ground := Ground.phase }, { on := 2, ground := Ground.phase }, { on := 3, ground := Ground.phase }, { on := 4, ground := Ground.phase }, { on := 5, ground := Ground.phase }, { on := 6, ground := Ground.phase }, { on := 7, ground := Ground.phase }, { on := 8, ground := Ground.phase }], guard := none }) rfl (fun K hK => ?_) AllReadyH.nil
        go_simp
        refine hK.out _ _ (hS2.trans (Mod.setCell (X := fun x => x = b2) _ (p := ⟨b2, k, none⟩) rfl _)) (fun hSe => ?_)
        clear hK K qq0 qq1 hSe
        refine wpAnyH_done (by kernel_rfl) ?_ _
        refine NoPanic.normal ?_
        have hSA := hS2.trans (Mod.setCell (X := fun x => x = b2) w2 (p := ⟨b2, k, none⟩) rfl (.slice (some ⟨b, 0, none⟩) 4 cc))
        have p2 := RA2.out _ hSA
        have q3 := (R3.out _ hSA).cell (i := k) hlt
        have q3f := (R3.out _ hSA).frozen k
        have OWN := HFF.out w2 b cc h2 hlo hhi hrow
        have hM : Mod X W0 ((w2.setCell ⟨b2, k, none⟩ (.slice (some ⟨b, 0, none⟩) 4 cc)).setCell ⟨b3, k, none⟩ (.bool false)) := ((h2.mod X).trans (Mod.setCell (X := X) _ (p := ⟨b2, k, none⟩) HXX.out.1 _)).trans (Mod.setCell (X := X) _ (p := ⟨b3, k, none⟩) HXX.out.2 _)
        have I' : Hid (Mine w ((w2.setCell ⟨b2, k, none⟩ (.slice (some ⟨b, 0, none⟩) 4 cc)).setCell ⟨b3, k, none⟩ (.bool false)) z m2 sv (flS cv sv k) (flD dv k)) := HI.out.next HX.out OWN hM
        clear hSA RA0 RA1 RA2 RB RC R3 HFF r2 hS1 hS2 h1 h2 hrow hlo hhi OWN hM HI HX HXX
        go_wp2
        go_roundw
        case rel => exact ⟨k + 1, by omega, by go_num, J0.out _ I'.out⟩
        case measure => simp [intOf]; omega
      · have NP : Hid (hasLine n f k) := HP.out.1 rfl
        clear HP
        obtain ⟨q0, q1, q2⟩ := get3 I.box
        obtain ⟨X, own, hx⟩ := I.own
        have HX : Hid (∀ b, X b → w.heap.size + 1 < b ∧ b < W0.heap.size ∧ b ≠ z) := hx
        clear hx
        go_wp2_with fail
        refine (l1Flush_any m2 _ _ _ X _ k hlt own (fun b hb => (HX.out b hb).2.1)).mono ?_
        rintro e W1 ⟨⟨v, rfl⟩, own4, hm4⟩
        rw [fpS_yes NP.out] at own4
        have I1 := I.flush HX.out own4 hm4
        clear I own own4 hm4 q0 q1 q2 HX
        clear X
        have I := I1
        clear I1 W0
        have W0 := W1
        clear W0
        go_wp2_with fail
        have J0 : Hid (∀ W, Mine w W z m2 (fpS M.v1 M.v2 (hasLine n f) (k + 1)) (flS (fpC M.v1 M.v2 (hasLine n f) k) (fpS M.v1 M.v2 (hasLine n f) (k + 1)) k) (flD (flD (faD M.d k) k) k) → Mine w W z m2 (fpS M.v1 M.v2 (hasLine n f) (k + 1)) (fpC M.v1 M.v2 (hasLine n f) (k + 1)) (faD M.d (k + 1))) := fun W hh => by
          rw [fpC_next, flD_twice, faD_succ] at hh
          exact hh
        generalize hsv : fpS M.v1 M.v2 (hasLine n f) (k + 1) = sv at I J0
        have J1 : Hid (∀ W, Mine w W z m2 sv (flS (fpC M.v1 M.v2 (hasLine n f) k) sv k) (flD (flD (faD M.d k) k) k) → Mine w W z m2 (fpS M.v1 M.v2 (hasLine n f) (k + 1)) (fpC M.v1 M.v2 (hasLine n f) (k + 1)) (faD M.d (k + 1))) := fun W hh => by
          rw [hsv]
          exact J0.out W hh
        clear J0 hsv
        generalize fpC M.v1 M.v2 (hasLine n f) k = cv at I J1
        generalize flD (faD M.d k) k = dv at I J1
        obtain ⟨X, own, hx⟩ := I.own
        have HX : Hid (∀ b, X b → w.heap.size + 1 < b ∧ b < W1.heap.size ∧ b ≠ z) := hx
        obtain ⟨b1, F1, k1, b2, b3, e1, e2, e3, hSx⟩ := back_facts own (fun b hb => (HX.out b hb).2.1) hlt
        obtain ⟨⟨F2, k2, r2⟩, RBx, RCx, R3x, XX, n21, HF⟩ := hSx
        have nz : z ≠ b2 := fun e => (HX.out b2 XX.1).2.2 e.symm
        have rB := I.box
        have RA0 : ∀ w', Mod (fun x => x = b2) W1 w' → w'.cell? ⟨z, 0, none⟩ = some (.slice (some ⟨b1, 0, none⟩) 12 m2.c1) := fun w' hS => by rw [← e1]; exact (get3 (rB.mod hS nz)).1
        have RA1 : ∀ w', Mod (fun x => x = b2) W1 w' → w'.cell? ⟨z, 1, none⟩ = some (.slice (some ⟨b2, 0, none⟩) 12 m2.c2) := fun w' hS => by rw [← e2]; exact (get3 (rB.mod hS nz)).2.1
        have RA2 : Hid (∀ w', Mod (fun x => x = b2) W1 w' → w'.cell? ⟨z, 2, none⟩ = some (.slice (some ⟨b3, 0, none⟩) 12 m2.c3)) := fun w' hS => by rw [← e3]; exact (get3 (rB.mod hS nz)).2.2
        have RB : ∀ w', Mod (fun x => x = b2) W1 w' → w'.cell? ⟨b1, k, none⟩ = some (.slice (some ⟨F1, 0, none⟩) 4 k1) := RBx
        have RC : Hid (∀ w', Mod (fun x => x = b2) W1 w' → ∀ t, t < 4 → w'.cell? ⟨F1, 0 + t, none⟩ = some (.int .i64 (sv k t))) := RCx
        have R3 : Hid (∀ w', Mod (fun x => x = b2) W1 w' → Row w' b3 12 (fun i => .bool (dv i))) := R3x
        have HFF : Hid (∀ w2 b cc, _) := fun w2 b cc h2 hlo hhi hrow => own_eta e1 e2 e3 (HF w2 b cc m2.c1 m2.c2 m2.c3 h2 hlo hhi hrow)
        have HXX : Hid (X b2 ∧ X b3) := XX
        have HI : Hid (Mine w W1 z m2 sv cv dv) := I
        clear RBx RCx R3x HF XX n21 hx own rB I nz e1 e2 e3
        have hI : ¬ (12 ≤ (k : Int)) := by omega
        have hI2 : (k : Int) < 12 := by omega
        refine wp_region_noPanic ?_
        refine wp_region_held_drew (S := fun w' => Mod (fun x => x = b2) W1 w') (by kernel_rfl) ((Blw.refl W1).drew.mod _) (fun hS1 => ?_)
        have h1 : Blw W1 W1.drew := (Blw.refl W1).drew
        revert hS1 h1
        generalize W1.drew = w1
        intro hS1 h1
        refine wpAnyH_take (i := 0) (oi := { dst := some 21, op := Op.fieldAddr 26 (Operand.tmp 5) 1, type := 0, pos := _, after := #[], guard := none }) (v := .pointer (some ⟨z, 1, none⟩)) rfl (by kernel_rfl) (by kernel_rfl) (by kernel_rfl) (fun _ _ _ h => h) (Or.inl ⟨by rfl, fun w' hS => by (try dsimp only at hS); go_simp⟩) hS1 ?_
        simp only [Act.put, List.setIfInBounds_toArray, List.set_cons_zero, List.set_cons_succ]
        refine wpAnyH_take (i := 1) (oi := { dst := some 22, op := Op.load 23 (Operand.tmp 21), type := 23, pos := _, after := #[{ on := 0, ground := Ground.data }], guard := none }) (v := .slice (some ⟨b2, 0, none⟩) 12 m2.c2) rfl (by kernel_rfl) (by kernel_rfl) (by kernel_rfl) (fun _ _ _ h => h) (Or.inl ⟨by rfl, fun w' hS => by (try dsimp only at hS); go_simp⟩) hS1 ?_
        simp only [Act.put, List.setIfInBounds_toArray, List.set_cons_zero, List.set_cons_succ]
        refine wpAnyH_take (i := 2) (oi := { dst := some 23, op := Op.move (Operand.tmp 6), type := 3, pos := _, after := #[], guard := none }) (v := .int .i64 k) rfl (by kernel_rfl) (by kernel_rfl) (by kernel_rfl) (fun _ _ _ h => h) (Or.inl ⟨by rfl, fun w' hS => by (try dsimp only at hS); go_simp⟩) hS1 ?_
        simp only [Act.put, List.setIfInBounds_toArray, List.set_cons_zero, List.set_cons_succ]
        refine wpAnyH_take (i := 3) (oi := { dst := some 24, op := Op.fieldAddr 26 (Operand.tmp 5) 0, type := 0, pos := _, after := #[], guard := none }) (v := .pointer (some ⟨z, 0, none⟩)) rfl (by kernel_rfl) (by kernel_rfl) (by kernel_rfl) (fun _ _ _ h => h) (Or.inl ⟨by rfl, fun w' hS => by (try dsimp only at hS); go_simp⟩) hS1 ?_
        simp only [Act.put, List.setIfInBounds_toArray, List.set_cons_zero, List.set_cons_succ]
        refine wpAnyH_take (i := 4) (oi := { dst := some 25, op := Op.load 23 (Operand.tmp 24), type := 23, pos := _, after := #[{ on := 3, ground := Ground.data }], guard := none }) (v := .slice (some ⟨b1, 0, none⟩) 12 m2.c1) rfl (by kernel_rfl) (by kernel_rfl) (by kernel_rfl) (fun _ _ _ h => h) (Or.inl ⟨by rfl, fun w' hS => by (try dsimp only at hS); go_simp⟩) hS1 ?_
        simp only [Act.put, List.setIfInBounds_toArray, List.set_cons_zero, List.set_cons_succ]
        refine wpAnyH_take (i := 5) (oi := { dst := some 26, op := Op.move (Operand.tmp 6), type := 3, pos := _, after := #[], guard := none }) (v := .int .i64 k) rfl (by kernel_rfl) (by kernel_rfl) (by kernel_rfl) (fun _ _ _ h => h) (Or.inl ⟨by rfl, fun w' hS => by (try dsimp only at hS); go_simp⟩) hS1 ?_
        simp only [Act.put, List.setIfInBounds_toArray, List.set_cons_zero, List.set_cons_succ]
        refine wpAnyH_take (i := 6) (oi := { dst := some 27, op := Op.indexAddr 23 (Operand.tmp 25) (Operand.tmp 26), type := 0, pos := _, after := #[{ on := 4, ground := Ground.data }, { on := 5, ground := Ground.data }], guard := none }) (v := .pointer (some ⟨b1, k, none⟩)) rfl (by kernel_rfl) (by kernel_rfl) (by kernel_rfl) (fun _ _ _ h => h) (Or.inl ⟨by rfl, fun w' hS => by (try dsimp only at hS); go_simp⟩) hS1 ?_
        simp only [Act.put, List.setIfInBounds_toArray, List.set_cons_zero, List.set_cons_succ]
        refine wpAnyH_take (i := 7) (oi := { dst := some 28, op := Op.load 126 (Operand.tmp 27), type := 126, pos := _, after := #[{ on := 6, ground := Ground.data }], guard := none }) (v := .agg #[.slice (some ⟨F1, 0, none⟩) 4 k1]) rfl (by kernel_rfl) (by kernel_rfl) (by kernel_rfl) (fun _ _ _ h => h) (Or.inl ⟨by rfl, fun w' hS => by (try dsimp only at hS); go_simp⟩) hS1 ?_
        simp only [Act.put, List.setIfInBounds_toArray, List.set_cons_zero, List.set_cons_succ]
        refine wpAnyH_ready (rs := [8]) (by kernel_rfl) (by simp) ?_
        refine AllReadyH.cons (o := { dst := some 29, op := Op.call { callee := Callee.value (Operand.func 100), args := #[Operand.tmp 28], argTypes := #[126] }, type := 126, pos := _, after := #[{ on := 7, ground := Ground.data }], guard := none }) rfl (fun K hK => ?_) AllReadyH.nil
        go_simp
        refine (l1Copy_any _ _ _ 4 (sv k) _ (by omega) (by omega) (RC.out _ hS1)).mono ?_
        rintro e w2 ⟨b, cc, rfl, hlo0, hhi, hrow, hb2⟩
        have h2 := h1.trans hb2
        have hlo : W1.heap.size ≤ b := by have := h1.size; omega
        refine hK.out _ _ (h2.mod _) (fun hS2 => ?_)
        clear hK K hlo0 hb2
        try simp only [Act.put, List.setIfInBounds_toArray, List.set_cons_zero, List.set_cons_succ]
        refine wpAnyH_take (i := 9) (oi := { dst := some 30, op := Op.indexAddr 23 (Operand.tmp 22) (Operand.tmp 23), type := 0, pos := _, after := #[{ on := 1, ground := Ground.data }, { on := 2, ground := Ground.data }, { on := 0, ground := Ground.phase }, { on := 1, ground := Ground.phase }, { on := 2, ground := Ground.phase }, { on := 3, ground := Ground.phase }, { on := 4, ground := Ground.phase }, { on := 5, ground := Ground.phase }, { on := 6, ground := Ground.phase }, { on := 7, ground := Ground.phase }, { on := 8, ground := Ground.phase }], guard := none }) (v := .pointer (some ⟨b2, k, none⟩)) rfl (by kernel_rfl) (by kernel_rfl) (by kernel_rfl) (fun _ _ _ h => h) (Or.inl ⟨by rfl, fun w' hS => by (try dsimp only at hS); go_simp⟩) hS2 ?_
        simp only [Act.put, List.setIfInBounds_toArray, List.set_cons_zero, List.set_cons_succ]
        have qq0 := (r2.blw h2).cell (i := k) hlt
        have qq1 := (r2.blw h2).frozen k
        refine wpAnyH_ready (rs := [10]) (by kernel_rfl) (by simp) ?_
        refine AllReadyH.cons (o := { dst := none, op := Op.store 126 (Operand.tmp 30) (Operand.tmp 29), type := 0, pos := _, after := #[{ on := 9, ground := Ground.data }, { on := 8, ground := Ground.data }, { on := 8, ground := Ground.chain }, { on := 0, ground := Ground.phase }, { on := 1, ground := Ground.phase }, { on := 2, ground := Ground.phase }, { on := 3, ground := Ground.phase }, { on := 4, ground := Ground.phase }, { on := 5, ground := Ground.phase }, { on := 6, ground := Ground.phase }, { on := 7, ground := Ground.phase }, { on := 8, ground := Ground.phase }], guard := none }) rfl (fun K hK => ?_) AllReadyH.nil
        go_simp
        refine hK.out _ _ (hS2.trans (Mod.setCell (X := fun x => x = b2) _ (p := ⟨b2, k, none⟩) rfl _)) (fun hSe => ?_)
        clear hK K qq0 qq1 hSe
        refine wpAnyH_done (by kernel_rfl) ?_ _
        refine NoPanic.normal ?_
        have hSA := hS2.trans (Mod.setCell (X := fun x => x = b2) w2 (p := ⟨b2, k, none⟩) rfl (.slice (some ⟨b, 0, none⟩) 4 cc))
        have p2 := RA2.out _ hSA
        have q3 := (R3.out _ hSA).cell (i := k) hlt
        have q3f := (R3.out _ hSA).frozen k
        have OWN := HFF.out w2 b cc h2 hlo hhi hrow
        have hM : Mod X W1 ((w2.setCell ⟨b2, k, none⟩ (.slice (some ⟨b, 0, none⟩) 4 cc)).setCell ⟨b3, k, none⟩ (.bool false)) := ((h2.mod X).trans (Mod.setCell (X := X) _ (p := ⟨b2, k, none⟩) HXX.out.1 _)).trans (Mod.setCell (X := X) _ (p := ⟨b3, k, none⟩) HXX.out.2 _)
        have I' : Hid (Mine w ((w2.setCell ⟨b2, k, none⟩ (.slice (some ⟨b, 0, none⟩) 4 cc)).setCell ⟨b3, k, none⟩ (.bool false)) z m2 sv (flS cv sv k) (flD dv k)) := HI.out.next HX.out OWN hM
        clear hSA RA0 RA1 RA2 RB RC R3 HFF r2 hS1 hS2 h1 h2 hrow hlo hhi OWN hM HI HX HXX
        go_wp2
        go_roundw
        case rel => exact ⟨k + 1, by omega, by go_num, J1.out _ I'.out⟩
        case measure => simp [intOf]; omega
    · obtain rfl : k = 12 := by omega
      obtain ⟨q0, q1, q2⟩ := get3 I.box
      obtain ⟨⟨x0, x1, x2⟩, f0, f1, f2⟩ := res6 I.res
      obtain ⟨X, own, hx⟩ := I.own
      have HX : Hid (∀ b, X b → w.heap.size + 1 < b ∧ b < wr.heap.size ∧ b ≠ z) := hx
      clear hx
      go_wp2
      exact bodyPost_ret (v := .agg #[.slice m2.a1 12 m2.c1, .slice m2.a2 12 m2.c2, .slice m2.a3 12 m2.c3]) (by simp [results, Try.results56, go_sem, x0, x1, x2]) rfl ⟨m2, rfl, own_out own (fun b hb => ⟨(HX.out b hb).1, (HX.out b hb).2.1⟩) (mod_set3 wr _ _ _ _) (by omega), Mod.blw I.blw (mod_set3 wr _ _ _ _) (fun i hi => by omega)⟩
end Go.Proofs.Ytglllnklcnlcjaa
