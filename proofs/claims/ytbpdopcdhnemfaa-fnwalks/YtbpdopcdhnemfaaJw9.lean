/- Merged by program, in this order: Kw, Kx. -/
import Derived.Test.YtbpdopcdhnemfaaJw8
/- A walker's look-up: the model's. -/
namespace Go.Proofs.Ytbpdopcdhnemfaa
open Go.RowKit
set_option linter.unusedSimpArgs false
set_option linter.unusedVariables false

theorem consS {Y : Nat → Prop} {W : World} {z : Nat} (x0 x1 x2 : Int) {ao : Option Addr} {n q : Nat} {F : Nat → Nat → Int} (hb : Buf 129 3 (fun b => b = z) W (.slice (some ⟨z, 0, none⟩) 1 1) 1 (kc 3 (fun _ c => if c = 0 then x0 else if c = 1 then x1 else x2))) (h : KAt 3 Y W ao n F) (hn : n ≤ 1000) :
    ∃ a' c' w', (Builtin.append_ #[30, 30] 30 #[.slice (some ⟨z, 0, none⟩) 1 1, .slice ao n q]).run Try.prog W = .ok (.slice a' (1 + n) c') w' ∧ KAt 3 (fun b => (b = z ∨ b = W.heap.size) ∧ b < w'.heap.size) w' a' (1 + n) (consK x0 x1 x2 F) ∧ Room a' (1 + n) c' ∧ c' ≤ 9223372036854775807 ∧ Mod (fun b => b = z) W w' := by
  obtain ⟨i0, hi, hz0, hz1, hz2⟩ := info_parts infoSh
  obtain ⟨a', c', w', hrun, hB, hM⟩ := Buf.append (t := 30) Try.underlying30 hi hz0 hz1 hz2 (by rfl) (by omega) hb (ao := ao) (m := n) q (G := kc 3 F) (fun e => by
    subst e
    by_cases h0 : n = 0
    · exact h0
    · obtain ⟨b, o, e, -⟩ := h.2 0 (by omega)
      cases e) (fun ad e => by subst e; exact h.cell3) (fun j => rfl) (by omega) (by omega) 30
  have hB2 := hB.congr (G := kc 3 (consK x0 x1 x2 F)) (fun i _ => cat_kc 3 1 (by omega) _ F i)
  obtain ⟨a0, cap, e, hR, hcap, hK⟩ := hB2.ways (by omega)
  cases e
  exact ⟨_, _, w', hrun, hK.at, hR, hcap, hM.mono (fun b hb => by simpa [Value.ownBlock, eq_comm] using hb)⟩
theorem wlk_m {D : KD} {x q k0 : Nat} {sp sm g y z h : Int} (hsp : sp = lfP D.B.c D.B.D.p x) (hsm : sm = lfP D.B.c D.B.D.m x) (hat : AtK D (x : Int) q) (h0 : ¬ sm = 0) (hk0 : k0 = min (1 + cntK q D.n) 4) (hh : h = if q < D.n then min (D.h + 1) 1000 else D.h) (hv : (hasMay sm y ∧ z = 1 + sp) ∨ (¬ hasMay sm y ∧ z = 0)) : WSO D 1 (x : Int) g y ⟨D.B, k0, consK (x : Int) sp sm (dropK q D.F), h⟩ z := by
  refine Or.inl ⟨rfl, q, hat, ?_, by rw [Int.toNat_natCast, ← hsp, ← hsm]; exact hv⟩
  unfold wlkR
  rw [Int.toNat_natCast, ← hsp, ← hsm, if_neg h0, ← hk0, ← hh]
theorem no_may {y : Int} (h : mayOK y) : ¬ hasMay 0 y := by
  unfold mayOK at h
  have : y = 1 ∨ y = 2 ∨ y = 3 := by omega
  rcases this with rfl | rfl | rfl <;> (unfold hasMay; decide)
theorem wlk_0 {D : KD} {x q : Nat} {sp sm g y : Int} (hsp : sp = lfP D.B.c D.B.D.p x) (hsm : sm = lfP D.B.c D.B.D.m x) (hat : AtK D (x : Int) q) (h0 : sm = 0) (hy : mayOK y) : WSO D 1 (x : Int) g y D 0 := by
  refine Or.inl ⟨rfl, q, hat, ?_, Or.inr ⟨by rw [Int.toNat_natCast, ← hsm, h0]; exact no_may hy, rfl⟩⟩
  unfold wlkR
  rw [Int.toNat_natCast, ← hsm, if_pos h0]
theorem right_1 {a g y : Int} (h : rightS 1 a g y) : mayOK y := by
  rcases h.2 with ⟨h, -⟩ | ⟨-, -, h⟩ | ⟨h, -⟩
  · omega
  · exact h
  · omega
theorem cs1 {lo zx : Nat} {w W : World} {k a g y sp sm : Int} {zb zs zr z8 : Nat} {v : KV} {D : KD} (h : MS lo zx k a g y w W zb zs zr v D) (h8 : Row W z8 2 (fun i => if i = 0 then .int .i64 sp else .int .i64 sm)) : W.cell? ⟨zs, 1, none⟩ = some (.int .i64 a) ∧ W.cell? ⟨z8, 0, none⟩ = some (.int .i64 sp) ∧ W.cell? ⟨z8, 1, none⟩ = some (.int .i64 sm) ∧ W.cell? ⟨zb, 2, none⟩ = some (.slice v.a D.n v.q) :=
  ⟨(get4 h.rs).2.1, (get2 h8).1, (get2 h8).2, (get4 h.r2).2.2.1⟩
theorem cs2 {W : World} {sp sm : Int} {zb z8 : Nat} {v : KV} {D : KD} (h : Row W zb 4 (kb v D)) (h8 : Row W z8 2 (fun i => if i = 0 then .int .i64 sp else .int .i64 sm)) : W.cell? ⟨zb, 0, none⟩ = some (.slice v.b.a1 D.B.n v.b.c1) ∧ W.cell? ⟨zb, 1, none⟩ = some (.slice v.b.a2 D.B.D.n v.b.c2) ∧ W.cell? ⟨zb, 2, none⟩ = some (.slice v.a D.n v.q) ∧ W.cell? ⟨zb, 3, none⟩ = some (.int .i64 D.h) ∧ W.cell? ⟨z8, 0, none⟩ = some (.int .i64 sp) :=
  ⟨(get4 h).1, (get4 h).2.1, (get4 h).2.2.1, (get4 h).2.2.2, (get2 h8).1⟩
set_option maxRecDepth 10000 in
set_option maxHeartbeats 6400000 in
theorem l7Step_walk (lo zx : Nat) (v : KV) (D : KD) (x : Nat) (g y : Int) (Y : Nat → Prop) (w : World) (sp sm : Int) (hsp : sp = lfP D.B.c D.B.D.p x) (hsm : sm = lfP D.B.c D.B.D.m x) (hr : rightS 1 (x : Int) g y) (hG : WG D) (hY : ∀ x, Y x → (lo ≤ x ∧ x ≠ zx) ∧ x < w.heap.size) (hlo : (lo ≤ w.heap.size ∧ zx < w.heap.size)) (h : WkAt Y w v D) :
    Calls Try.prog 86 #[v.val D, .agg #[.int .i64 1, .int .i64 x, .int .i64 g, .int .i64 y]] w fun e w' => ∃ v' R z, e = .returned (.tuple #[KV.val v' R, .int .i64 z]) ∧ WSO D 1 (x : Int) g y R z ∧ WkAt (fun x => (lo ≤ x ∧ x ≠ zx) ∧ x < w'.heap.size) w' v' R ∧ Blw w w' := by
  have hx : x < 16 := by have := hr.1; unfold pgOK at this; omega
  have hn := hG.n4
  have hh0 := hG.h0
  have hw1 : IntKind.i64.wrap (D.h + 1) = D.h + 1 := by rw [IntKind.wrap_i64]; omega
  have hpm : (0 ≤ sp ∧ sp ≤ 15) ∧ 0 ≤ sm := by
    have := lf_ok hG.g hx
    rw [hsp, hsm]; unfold leafOK at this; omega
  have hw2 : IntKind.i64.wrap (1 + sp) = 1 + sp := by rw [IntKind.wrap_i64]; omega
  have HMY0 : Hid (mayOK y) := right_1 hr
  have HSP : Hid (sp = lfP D.B.c D.B.D.p x ∧ sm = lfP D.B.c D.B.D.m x) := ⟨hsp, hsm⟩
  have HF : Hid (∀ (b : BV) (Z : Nat → Prop) (W : World), BookAt Z W b D.B → Calls Try.prog 152 #[b.val D.B, .int .i64 x] W fun e w' => e = .returned (.agg #[.int .i64 sp, .int .i64 sm]) ∧ Blw W w') := fun b Z W hb => by
    obtain ⟨c, kn, p, m, e⟩ := hG.f
    have hg := hG.g
    rw [hsp, hsm]
    rw [e] at hb hg ⊢
    exact l6Find_any b c kn _ p m x Z W hg hx hb
  obtain ⟨q, hat⟩ := hG.pos (x : Int)
  have HM : Hid (MS lo zx 1 x g y w (((w.alloc (.cells #[.slice v.b.a1 D.B.n v.b.c1, .slice v.b.a2 D.B.D.n v.b.c2, .slice v.a D.n v.q, .int .i64 D.h] 32)).alloc (.cells #[.int .i64 1, .int .i64 x, .int .i64 g, .int .i64 y] 42)).alloc (.cells #[.slice none 0 0, .slice none 0 0, .slice none 0 0, .int .i64 0] 32)) w.heap.size (w.heap.size + 1) (w.heap.size + 1 + 1) v D) := ms_start lo zx v D 1 x g y Y w hY hlo h
  have HNZ : Hid (q < D.n → ¬ sm = 0) := fun hq => by
    have e := (hG.known hat hq).2.2.2
    rw [Int.toNat_natCast, ← hsm] at e
    exact e
  clear h hY hG hr hsp hsm hlo
  go_enter Try.func86, Try.ntmps86
  obtain ⟨p0, p1, p2, p3⟩ := get4 HM.out.r2
  obtain ⟨s0, s1, s2, s3⟩ := get4 HM.out.rs
  go_wp2_with fail
  clear p0 p1 p2 p3 s0 s1 s2 s3
  generalize (((w.alloc (.cells #[.slice v.b.a1 D.B.n v.b.c1, .slice v.b.a2 D.B.D.n v.b.c2, .slice v.a D.n v.q, .int .i64 D.h] 32)).alloc (.cells #[.int .i64 1, .int .i64 x, .int .i64 g, .int .i64 y] 42)).alloc (.cells #[.slice none 0 0, .slice none 0 0, .slice none 0 0, .int .i64 0] 32)) = W0 at *
  generalize w.heap.size + 1 + 1 = zr at *
  generalize w.heap.size + 1 = zs at *
  have HM0 : Hid (w.heap.size < W0.heap.size ∧ zr < W0.heap.size) := ⟨HM.out.r2.lt, HM.out.r4.lt⟩
  refine (HF.out v.b _ _ HM.out.hv.t).mono ?_
  rintro e w1 ⟨rfl, hb1⟩
  have hA : Blw w1 (w1.alloc (.cells #[.int .i64 sp, .int .i64 sm] 189)) := (Blw.refl _).alloc _
  replace HM : Hid (MS lo zx 1 x g y w (w1.alloc (.cells #[.int .i64 sp, .int .i64 sm] 189)) w.heap.size zs zr v D) := HM.out.blw (hb1.trans hA)
  have HR8 : Hid (Row (w1.alloc (.cells #[.int .i64 sp, .int .i64 sm] 189)) w1.heap.size 2 (fun i => if i = 0 then .int .i64 sp else .int .i64 sm)) := box2 w1 _ _ 189
  have HZ8 : Hid (w.heap.size < w1.heap.size ∧ zr < w1.heap.size) := by
    have h1 := HM0.out.1
    have h2 := HM0.out.2
    have h3 := hb1.size
    exact ⟨by omega, by omega⟩
  clear hb1 hA HF
  obtain ⟨p0, p1, p2, p3⟩ := get4 HM.out.r2
  obtain ⟨s0, s1, s2, s3⟩ := get4 HM.out.rs
  go_wp2_with fail
  clear p0 p1 p2 p3 s0 s1 s2 s3
  generalize (w1.alloc (.cells #[.int .i64 sp, .int .i64 sm] 189)) = W1 at *
  generalize w1.heap.size = z8 at *
  refine (l7Find_any v D x _ _ HM.out.hv.k).mono ?_
  rintro e w2 ⟨r, rfl, hr, hb2⟩
  replace HM : Hid (MS lo zx 1 x g y w w2 w.heap.size zs zr v D) := HM.out.blw hb2
  replace HR8 : Hid (Row w2 z8 2 (fun i => if i = 0 then .int .i64 sp else .int .i64 sm)) := HR8.out.blw hb2
  clear hb2
  by_cases hq : q < D.n
  · obtain rfl : r = (q : Int) := hr.yes hq ((hat.2 q hq).2 rfl) (fun j hj e => by have := (hat.2 j (by omega)).1 e; omega)
    have HS0 : Hid (¬ sm = 0) := HNZ.out hq
    have hs1 : 0 < sm := by have := HS0.out; omega
    have hq0 : (0 : Int) ≤ (q : Int) := by omega
    clear hr HNZ
    obtain ⟨-, -, -, p3⟩ := get4 HM.out.r2
    go_wp2_with fail
    refine (least_any _ _ (min (D.h + 1) 1000) _ (by omega)).mono ?_
    rintro e w8 ⟨rfl, hw⟩
    replace hw := hw.symm
    subst hw
    have f3 := HM.out.r2.frozen 3
    have hM2 := HM.out.hits (min (D.h + 1) 1000)
    have h8 : Row (w2.setCell ⟨w.heap.size, 3, none⟩ (.int .i64 (min (D.h + 1) 1000))) z8 2 (fun i => if i = 0 then .int .i64 sp else .int .i64 sm) := HR8.out.mod (set1_mod w2 w.heap.size 3 _) (by have := HZ8.out; omega)
    clear HM HR8
    have HM : Hid (MS lo zx 1 x g y w (w2.setCell ⟨w.heap.size, 3, none⟩ (.int .i64 (min (D.h + 1) 1000))) w.heap.size zs zr v ⟨D.B, D.n, D.F, min (D.h + 1) 1000⟩) := hM2
    have HR8 : Hid (Row (w2.setCell ⟨w.heap.size, 3, none⟩ (.int .i64 (min (D.h + 1) 1000))) z8 2 (fun i => if i = 0 then .int .i64 sp else .int .i64 sm)) := h8
    clear hM2 h8
    obtain ⟨e0, e1⟩ := get2 HR8.out
    generalize hmn : min (D.h + 1) 1000 = hm1 at *
    have HMN : Hid (min (D.h + 1) 1000 = hm1) := hmn
    clear hmn
    go_upto_region 13 with fail
    clear p3 f3 e0 e1 hw1 hh0
    generalize (w2.setCell ⟨w.heap.size, 3, none⟩ (.int .i64 hm1)) = W12 at *
    replace HM : Hid (MS lo zx 1 x g y w W12.drew w.heap.size zs zr v ⟨D.B, D.n, D.F, hm1⟩) := HM.out.blw (Blw.refl _).drew
    replace HR8 : Hid (Row W12.drew z8 2 (fun i => if i = 0 then .int .i64 sp else .int .i64 sm)) := HR8.out.blw (Blw.refl _).drew
    have HBD : Hid (Blw W12.drew W12.drew) := Blw.refl _
    refine wp_region_noPanic ?_
    refine wp_region_held_drew (S := (fun w' => w'.cell? ⟨zs, 1, none⟩ = some (.int .i64 x) ∧ w'.cell? ⟨z8, 0, none⟩ = some (.int .i64 sp) ∧ w'.cell? ⟨z8, 1, none⟩ = some (.int .i64 sm) ∧ w'.cell? ⟨w.heap.size, 2, none⟩ = some (.slice v.a D.n v.q))) (by kernel_rfl) (cs1 (D := ⟨D.B, D.n, D.F, hm1⟩) (HM.out.blw HBD.out) (HR8.out.blw HBD.out)) (fun hB => ?_)
    clear hB
    generalize W12.drew = wd at *
    refine wpAnyH_take (i := 0) (oi := { dst := some 52, op := Op.fieldAddr 42 (Operand.tmp 3) 1, type := 0, pos := _, after := #[], guard := none }) (v := (.pointer (some ⟨zs, 1, none⟩))) rfl (by kernel_rfl) (by kernel_rfl) (by kernel_rfl) (fun _ _ _ h => h) (Or.inl ⟨by rfl, fun w' hS => by (try dsimp only at hS); go_simp⟩) (cs1 (D := ⟨D.B, D.n, D.F, hm1⟩) (HM.out.blw HBD.out) (HR8.out.blw HBD.out)) ?_
    simp only [Act.put, List.setIfInBounds_toArray, List.set_cons_zero, List.set_cons_succ]
    refine wpAnyH_take (i := 2) (oi := { dst := some 54, op := Op.fieldAddr 189 (Operand.tmp 8) 0, type := 0, pos := _, after := #[], guard := none }) (v := (.pointer (some ⟨z8, 0, none⟩))) rfl (by kernel_rfl) (by kernel_rfl) (by kernel_rfl) (fun _ _ _ h => h) (Or.inl ⟨by rfl, fun w' hS => by (try dsimp only at hS); go_simp⟩) (cs1 (D := ⟨D.B, D.n, D.F, hm1⟩) (HM.out.blw HBD.out) (HR8.out.blw HBD.out)) ?_
    simp only [Act.put, List.setIfInBounds_toArray, List.set_cons_zero, List.set_cons_succ]
    refine wpAnyH_take (i := 4) (oi := { dst := some 56, op := Op.fieldAddr 189 (Operand.tmp 8) 1, type := 0, pos := _, after := #[], guard := none }) (v := (.pointer (some ⟨z8, 1, none⟩))) rfl (by kernel_rfl) (by kernel_rfl) (by kernel_rfl) (fun _ _ _ h => h) (Or.inl ⟨by rfl, fun w' hS => by (try dsimp only at hS); go_simp⟩) (cs1 (D := ⟨D.B, D.n, D.F, hm1⟩) (HM.out.blw HBD.out) (HR8.out.blw HBD.out)) ?_
    simp only [Act.put, List.setIfInBounds_toArray, List.set_cons_zero, List.set_cons_succ]
    refine wpAnyH_take (i := 8) (oi := { dst := some 60, op := Op.fieldAddr 32 (Operand.tmp 2) 1, type := 0, pos := _, after := #[], guard := none }) (v := (.pointer (some ⟨w.heap.size, 2, none⟩))) rfl (by kernel_rfl) (by kernel_rfl) (by kernel_rfl) (fun _ _ _ h => h) (Or.inl ⟨by rfl, fun w' hS => by (try dsimp only at hS); go_simp⟩) (cs1 (D := ⟨D.B, D.n, D.F, hm1⟩) (HM.out.blw HBD.out) (HR8.out.blw HBD.out)) ?_
    simp only [Act.put, List.setIfInBounds_toArray, List.set_cons_zero, List.set_cons_succ]
    refine wpAnyH_take (i := 10) (oi := { dst := some 62, op := Op.fieldAddr 42 (Operand.tmp 3) 1, type := 0, pos := _, after := #[], guard := none }) (v := (.pointer (some ⟨zs, 1, none⟩))) rfl (by kernel_rfl) (by kernel_rfl) (by kernel_rfl) (fun _ _ _ h => h) (Or.inl ⟨by rfl, fun w' hS => by (try dsimp only at hS); go_simp⟩) (cs1 (D := ⟨D.B, D.n, D.F, hm1⟩) (HM.out.blw HBD.out) (HR8.out.blw HBD.out)) ?_
    simp only [Act.put, List.setIfInBounds_toArray, List.set_cons_zero, List.set_cons_succ]
    refine wpAnyH_take (i := 1) (oi := { dst := some 53, op := Op.load 3 (Operand.tmp 52), type := 3, pos := _, after := #[{ on := 0, ground := Ground.data }], guard := none }) (v := (.int .i64 x)) rfl (by kernel_rfl) (by kernel_rfl) (by kernel_rfl) (fun _ _ _ h => h) (Or.inl ⟨by rfl, fun w' hS => by (try dsimp only at hS); go_simp⟩) (cs1 (D := ⟨D.B, D.n, D.F, hm1⟩) (HM.out.blw HBD.out) (HR8.out.blw HBD.out)) ?_
    simp only [Act.put, List.setIfInBounds_toArray, List.set_cons_zero, List.set_cons_succ]
    refine wpAnyH_take (i := 3) (oi := { dst := some 55, op := Op.load 3 (Operand.tmp 54), type := 3, pos := _, after := #[{ on := 2, ground := Ground.data }], guard := none }) (v := (.int .i64 sp)) rfl (by kernel_rfl) (by kernel_rfl) (by kernel_rfl) (fun _ _ _ h => h) (Or.inl ⟨by rfl, fun w' hS => by (try dsimp only at hS); go_simp⟩) (cs1 (D := ⟨D.B, D.n, D.F, hm1⟩) (HM.out.blw HBD.out) (HR8.out.blw HBD.out)) ?_
    simp only [Act.put, List.setIfInBounds_toArray, List.set_cons_zero, List.set_cons_succ]
    refine wpAnyH_take (i := 5) (oi := { dst := some 57, op := Op.load 3 (Operand.tmp 56), type := 3, pos := _, after := #[{ on := 4, ground := Ground.data }], guard := none }) (v := (.int .i64 sm)) rfl (by kernel_rfl) (by kernel_rfl) (by kernel_rfl) (fun _ _ _ h => h) (Or.inl ⟨by rfl, fun w' hS => by (try dsimp only at hS); go_simp⟩) (cs1 (D := ⟨D.B, D.n, D.F, hm1⟩) (HM.out.blw HBD.out) (HR8.out.blw HBD.out)) ?_
    simp only [Act.put, List.setIfInBounds_toArray, List.set_cons_zero, List.set_cons_succ]
    refine wpAnyH_take (i := 9) (oi := { dst := some 61, op := Op.load 30 (Operand.tmp 60), type := 30, pos := _, after := #[{ on := 8, ground := Ground.data }], guard := none }) (v := (.slice v.a D.n v.q)) rfl (by kernel_rfl) (by kernel_rfl) (by kernel_rfl) (fun _ _ _ h => h) (Or.inl ⟨by rfl, fun w' hS => by (try dsimp only at hS); go_simp⟩) (cs1 (D := ⟨D.B, D.n, D.F, hm1⟩) (HM.out.blw HBD.out) (HR8.out.blw HBD.out)) ?_
    simp only [Act.put, List.setIfInBounds_toArray, List.set_cons_zero, List.set_cons_succ]
    refine wpAnyH_take (i := 11) (oi := { dst := some 63, op := Op.load 3 (Operand.tmp 62), type := 3, pos := _, after := #[{ on := 10, ground := Ground.data }], guard := none }) (v := (.int .i64 x)) rfl (by kernel_rfl) (by kernel_rfl) (by kernel_rfl) (fun _ _ _ h => h) (Or.inl ⟨by rfl, fun w' hS => by (try dsimp only at hS); go_simp⟩) (cs1 (D := ⟨D.B, D.n, D.F, hm1⟩) (HM.out.blw HBD.out) (HR8.out.blw HBD.out)) ?_
    simp only [Act.put, List.setIfInBounds_toArray, List.set_cons_zero, List.set_cons_succ]
    refine wpAnyH_take (i := 6) (oi := { dst := some 58, op := Op.build 129 #[(0, Operand.tmp 53), (1, Operand.tmp 55), (2, Operand.tmp 57)], type := 129, pos := _, after := #[{ on := 1, ground := Ground.data }, { on := 3, ground := Ground.data }, { on := 5, ground := Ground.data }], guard := none }) (v := (.agg #[.int .i64 x, .int .i64 sp, .int .i64 sm])) rfl (by kernel_rfl) (by kernel_rfl) (by kernel_rfl) (fun _ _ _ h => h) (Or.inl ⟨by rfl, fun w' hS => by (try dsimp only at hS); go_simp⟩) (cs1 (D := ⟨D.B, D.n, D.F, hm1⟩) (HM.out.blw HBD.out) (HR8.out.blw HBD.out)) ?_
    simp only [Act.put, List.setIfInBounds_toArray, List.set_cons_zero, List.set_cons_succ]
    refine wpAnyH_ready (rs := [7, 12]) (by kernel_rfl) (by simp) ?_
    refine AllReadyH.cons (o := { dst := some 59, op := Op.buildSlice 30 1 #[(0, Operand.tmp 58)], type := 30, pos := _, after := #[{ on := 6, ground := Ground.data }], guard := none }) rfl (fun K hK => ?_) (AllReadyH.cons (o := { dst := some 64, op := Op.call { callee := Callee.value (Operand.func 151), args := #[Operand.tmp 61, Operand.tmp 63], argTypes := #[30, 3] }, type := 30, pos := _, after := #[{ on := 9, ground := Ground.data }, { on := 11, ground := Ground.data }], guard := none }) rfl (fun K hK => ?_) AllReadyH.nil)
    · go_simp
      have hA : Blw wd (wd.alloc (.cells #[.int .i64 x, .int .i64 sp, .int .i64 sm] 129)) := (Blw.refl _).alloc _
      have HBU : Hid (Buf 129 3 (fun b => b = wd.heap.size) (wd.alloc (.cells #[.int .i64 x, .int .i64 sp, .int .i64 sm] 129)) (.slice (some ⟨wd.heap.size, 0, none⟩) 1 1) 1 (kc 3 (fun _ c => if c = 0 then (x : Int) else if c = 1 then sp else sm))) := Buf.one3 _ _ _
      have HZN : Hid (wd.heap.size ≤ wd.heap.size) := HBD.out.size
      replace HBD : Hid (Blw wd (wd.alloc (.cells #[.int .i64 x, .int .i64 sp, .int .i64 sm] 129))) := HBD.out.trans hA
      clear hA
      generalize (wd.alloc (.cells #[.int .i64 x, .int .i64 sp, .int .i64 sm] 129)) = x1 at *
      refine hK.out _ _ (cs1 (D := ⟨D.B, D.n, D.F, hm1⟩) (HM.out.blw HBD.out) (HR8.out.blw HBD.out)) (fun hB => ?_)
      clear hK K hB
      try simp only [Act.put, List.setIfInBounds_toArray, List.set_cons_zero, List.set_cons_succ]
      refine wpAnyH_ready (rs := [12]) (by kernel_rfl) (by simp) ?_
      refine AllReadyH.cons (o := { dst := some 64, op := Op.call { callee := Callee.value (Operand.func 151), args := #[Operand.tmp 61, Operand.tmp 63], argTypes := #[30, 3] }, type := 30, pos := _, after := #[{ on := 9, ground := Ground.data }, { on := 11, ground := Ground.data }], guard := none }) rfl (fun K hK => ?_) AllReadyH.nil
      go_simp
      refine (l7Drop_any v.a D.n v.q q D.F x _ _ (by omega) hat.2 (HM.out.blw HBD.out).hv.k).mono ?_
      rintro e x2 ⟨v6, rfl, hbf, hb⟩
      obtain ⟨a6, c6, rfl, -, -, hk6⟩ := Buf.ways hbf (by unfold cntK; split <;> omega)
      have HKD : Hid (KAt 3 (fun x => wd.heap.size ≤ x) x2 a6 (cntK q D.n) (dropK q D.F)) := hk6.at.mono (fun x hx => by have := HBD.out.size; omega)
      replace HBD : Hid (Blw wd x2) := HBD.out.trans hb
      replace HBU : Hid (Buf 129 3 (fun b => b = wd.heap.size) x2 (.slice (some ⟨wd.heap.size, 0, none⟩) 1 1) 1 (kc 3 (fun _ c => if c = 0 then (x : Int) else if c = 1 then sp else sm))) := Buf.blw HBU.out hb
      clear hbf hk6 hb
      refine hK.out _ _ (cs1 (D := ⟨D.B, D.n, D.F, hm1⟩) (HM.out.blw HBD.out) (HR8.out.blw HBD.out)) (fun hB => ?_)
      clear hK K hB
      try simp only [Act.put, List.setIfInBounds_toArray, List.set_cons_zero, List.set_cons_succ]
      refine wpAnyH_ready (rs := [13]) (by kernel_rfl) (by simp) ?_
      refine AllReadyH.cons (o := { dst := some 65, op := Op.call { callee := Callee.builtin Builtin.append, args := #[Operand.tmp 59, Operand.tmp 64], argTypes := #[30, 30] }, type := 30, pos := _, after := #[{ on := 7, ground := Ground.data }, { on := 12, ground := Ground.data }, { on := 12, ground := Ground.chain }], guard := none }) rfl (fun K hK => ?_) AllReadyH.nil
      obtain ⟨a7, c7, W13, hrun, hk7, hr7, hc7, hm7⟩ := consS (q := c6) (x : Int) sp sm HBU.out HKD.out (by unfold cntK; split <;> omega)
      have HRN : Hid _ := hrun
      have HK7 : Hid (KAt 3 (fun x => (x < W13.heap.size ∧ x ≠ w.heap.size ∧ x ≠ zr) ∧ (lo ≤ x ∧ x ≠ zx)) W13 a7 (1 + cntK q D.n) (consK (x : Int) sp sm (dropK q D.F))) := hk7.mono (fun x hx => by have := HZN.out; have := HBD.out.size; have := HM.out.r2.lt; have := HM.out.r4.lt; have := HM.out.hb.size; have := HM.out.l0; omega)
      have HR7 : Hid (Room a7 (1 + cntK q D.n) c7 ∧ c7 ≤ 9223372036854775807) := ⟨hr7, hc7⟩
      replace HBD : Hid (Blw wd W13) := Mod.blw HBD.out hm7 (fun i hi => by have := HZN.out; omega)
      clear hrun hk7 hr7 hc7 hm7 HBU HKD HZN
      refine step_app (.tmp 59) (.tmp 64) 30 (by rfl) ?_
      refine ⟨_, _, HRN.out, ?_⟩
      refine hK.out _ _ (cs1 (D := ⟨D.B, D.n, D.F, hm1⟩) (HM.out.blw HBD.out) (HR8.out.blw HBD.out)) (fun hB => ?_)
      clear hK K hB
      try simp only [Act.put, List.setIfInBounds_toArray, List.set_cons_zero, List.set_cons_succ]
      refine wpAnyH_take (i := 14) (oi := { dst := some 10, op := Op.assign (Operand.tmp 65), type := 30, pos := _, after := #[{ on := 13, ground := Ground.data }, { on := 13, ground := Ground.chain }, { on := 0, ground := Ground.phase }, { on := 1, ground := Ground.phase }, { on := 2, ground := Ground.phase }, { on := 3, ground := Ground.phase }, { on := 4, ground := Ground.phase }, { on := 5, ground := Ground.phase }, { on := 6, ground := Ground.phase }, { on := 7, ground := Ground.phase }, { on := 8, ground := Ground.phase }, { on := 9, ground := Ground.phase }, { on := 10, ground := Ground.phase }, { on := 11, ground := Ground.phase }, { on := 12, ground := Ground.phase }, { on := 13, ground := Ground.phase }], guard := none }) (v := (.slice a7 (1 + cntK q D.n) c7)) rfl (by kernel_rfl) (by kernel_rfl) (by kernel_rfl) (fun _ _ _ h => h) (Or.inl ⟨by rfl, fun w' hS => by (try dsimp only at hS); go_simp⟩) (cs1 (D := ⟨D.B, D.n, D.F, hm1⟩) (HM.out.blw HBD.out) (HR8.out.blw HBD.out)) ?_
      simp only [Act.put, List.setIfInBounds_toArray, List.set_cons_zero, List.set_cons_succ]
      refine wpAnyH_done (by kernel_rfl) ?_ _
      refine NoPanic.normal ?_
      replace HM : Hid (MS lo zx 1 x g y w W13 w.heap.size zs zr v ⟨D.B, D.n, D.F, hm1⟩) := HM.out.blw HBD.out
      replace HR8 : Hid (Row W13 z8 2 (fun i => if i = 0 then .int .i64 sp else .int .i64 sm)) := HR8.out.blw HBD.out
      clear HBD HRN
      obtain ⟨gb, rfl, hcap⟩ : ∃ gb, a7 = some ⟨gb, 0, none⟩ ∧ 1 + cntK q D.n ≤ c7 := by
        rcases HR7.out.1 with ⟨-, e, -⟩ | ⟨gb, e, e2⟩
        · omega
        · exact ⟨gb, e, e2⟩
      obtain ⟨k0, hk0⟩ : ∃ k0 : Nat, k0 = min (1 + cntK q D.n) 4 := ⟨_, rfl⟩
      have HK0 : Hid (k0 = min (1 + cntK q D.n) 4) := hk0
      have hkc : (k0 : Int) ≤ (c7 : Int) := by omega
      have hkz : (0 : Int) ≤ (k0 : Int) := by omega
      have hc9 := HR7.out.2
      go_wp2_with fail
      refine (least_any _ _ (k0 : Int) _ (by omega)).mono ?_
      rintro e w8 ⟨rfl, hw⟩
      replace hw := hw.symm
      subst hw
      have HKF : Hid (KAt 3 (fun x => (x < W13.heap.size ∧ x ≠ w.heap.size ∧ x ≠ zr) ∧ (lo ≤ x ∧ x ≠ zx)) W13 (some ⟨gb, 0, none⟩) k0 (consK (x : Int) sp sm (dropK q D.F))) := ⟨by omega, fun i hi => HK7.out.2 i (by omega)⟩
      clear hk0 HK7
      obtain ⟨-, -, p2, -⟩ := get4 HM.out.r2
      have f2 := HM.out.r2.frozen 2
      replace HM : Hid (MS lo zx 1 x g y w (W13.setCell ⟨w.heap.size, 2, none⟩ (.slice (some ⟨gb, 0, none⟩) k0 c7)) w.heap.size zs zr ⟨v.b, some ⟨gb, 0, none⟩, c7⟩ ⟨D.B, k0, consK (x : Int) sp sm (dropK q D.F), hm1⟩) := HM.out.list HKF.out
      have h8 : Row (W13.setCell ⟨w.heap.size, 2, none⟩ (.slice (some ⟨gb, 0, none⟩) k0 c7)) z8 2 (fun i => if i = 0 then .int .i64 sp else .int .i64 sm) := HR8.out.mod (set1_mod W13 w.heap.size 2 _) (by have := HZ8.out; omega)
      clear HR8
      have HR8 : Hid (Row (W13.setCell ⟨w.heap.size, 2, none⟩ (.slice (some ⟨gb, 0, none⟩) k0 c7)) z8 2 (fun i => if i = 0 then .int .i64 sp else .int .i64 sm)) := h8
      clear h8 HKF
      go_upto_region 15 with fail
      clear p2 f2 hkc hkz hc9 hcap HR7
      generalize (W13.setCell ⟨w.heap.size, 2, none⟩ (.slice (some ⟨gb, 0, none⟩) k0 c7)) = W14 at *
      obtain ⟨s0, s1, s2, s3⟩ := get4 HM.out.rs
      obtain ⟨e0, e1⟩ := get2 HR8.out
      by_cases hm : hasMay sm y
      · have HMY : Hid (hasMay sm y) := hm
        have d1 : (bits .and .i64 sm y != y) = false := by rw [show bits .and .i64 sm y = y from hm]; simp
        clear hm
        go_upto_region 17 with fail
        clear s0 s1 s2 s3 e0 e1 d1
        replace HM : Hid (MS lo zx 1 x g y w W14.drew w.heap.size zs zr ⟨v.b, some ⟨gb, 0, none⟩, c7⟩ ⟨D.B, k0, consK (x : Int) sp sm (dropK q D.F), hm1⟩) := HM.out.blw (Blw.refl _).drew
        replace HR8 : Hid (Row W14.drew z8 2 (fun i => if i = 0 then .int .i64 sp else .int .i64 sm)) := HR8.out.blw (Blw.refl _).drew
        have HWS : Hid (WSO D 1 (x : Int) g y ⟨D.B, k0, consK (x : Int) sp sm (dropK q D.F), hm1⟩ (1 + sp)) := wlk_m HSP.out.1 HSP.out.2 hat HS0.out HK0.out (by show _ = _; rw [if_pos hq]; exact HMN.out.symm) (Or.inl ⟨HMY.out, rfl⟩)
        refine wp_region_noPanic ?_
        refine wp_region_held_drew (S := (fun w' => w'.cell? ⟨w.heap.size, 0, none⟩ = some (.slice v.b.a1 D.B.n v.b.c1) ∧ w'.cell? ⟨w.heap.size, 1, none⟩ = some (.slice v.b.a2 D.B.D.n v.b.c2) ∧ w'.cell? ⟨w.heap.size, 2, none⟩ = some (.slice (some ⟨gb, 0, none⟩) k0 c7) ∧ w'.cell? ⟨w.heap.size, 3, none⟩ = some (.int .i64 (hm1)) ∧ w'.cell? ⟨z8, 0, none⟩ = some (.int .i64 sp))) (by kernel_rfl) (cs2 HM.out.r2 HR8.out) (fun hB => ?_)
        clear hB
        generalize W14.drew = wd at *
        refine wpAnyH_take (i := 0) (oi := { dst := some 81, op := Op.load 32 (Operand.tmp 2), type := 32, pos := _, after := #[], guard := none }) (v := (.agg #[.slice v.b.a1 D.B.n v.b.c1, .slice v.b.a2 D.B.D.n v.b.c2, .slice (some ⟨gb, 0, none⟩) k0 c7, .int .i64 (hm1)])) rfl (by kernel_rfl) (by kernel_rfl) (by kernel_rfl) (fun _ _ _ h => h) (Or.inl ⟨by rfl, fun w' hS => by (try dsimp only at hS); go_simp⟩) (cs2 HM.out.r2 HR8.out) ?_
        simp only [Act.put, List.setIfInBounds_toArray, List.set_cons_zero, List.set_cons_succ]
        refine wpAnyH_take (i := 1) (oi := { dst := some 82, op := Op.fieldAddr 189 (Operand.tmp 8) 0, type := 0, pos := _, after := #[{ on := 4, ground := Ground.gcOnly Departure.lateStores }], guard := none }) (v := (.pointer (some ⟨z8, 0, none⟩))) rfl (by kernel_rfl) (by kernel_rfl) (by kernel_rfl) (fun _ _ _ h => h) (Or.inl ⟨by rfl, fun w' hS => by (try dsimp only at hS); go_simp⟩) (cs2 HM.out.r2 HR8.out) ?_
        simp only [Act.put, List.setIfInBounds_toArray, List.set_cons_zero, List.set_cons_succ]
        refine wpAnyH_take (i := 2) (oi := { dst := some 83, op := Op.load 3 (Operand.tmp 82), type := 3, pos := _, after := #[{ on := 1, ground := Ground.data }, { on := 4, ground := Ground.gcOnly Departure.lateStores }], guard := none }) (v := (.int .i64 sp)) rfl (by kernel_rfl) (by kernel_rfl) (by kernel_rfl) (fun _ _ _ h => h) (Or.inl ⟨by rfl, fun w' hS => by (try dsimp only at hS); go_simp⟩) (cs2 HM.out.r2 HR8.out) ?_
        simp only [Act.put, List.setIfInBounds_toArray, List.set_cons_zero, List.set_cons_succ]
        refine wpAnyH_take (i := 3) (oi := { dst := some 84, op := Op.binOp BinOp.add 3 (Operand.const (Value.int IntKind.i64 1)) (Operand.tmp 83) 3, type := 3, pos := _, after := #[{ on := 2, ground := Ground.data }, { on := 4, ground := Ground.gcOnly Departure.lateStores }], guard := none }) (v := (.int .i64 (1 + sp))) rfl (by kernel_rfl) (by kernel_rfl) (by kernel_rfl) (fun _ _ _ h => h) (Or.inl ⟨by rfl, fun w' hS => by (try dsimp only at hS); go_simp⟩) (cs2 HM.out.r2 HR8.out) ?_
        simp only [Act.put, List.setIfInBounds_toArray, List.set_cons_zero, List.set_cons_succ]
        refine wpAnyH_ready (rs := [4]) (by kernel_rfl) (by simp) ?_
        refine AllReadyH.cons (o := { dst := none, op := Op.store 32 (Operand.tmp 4) (Operand.tmp 81), type := 0, pos := _, after := #[{ on := 0, ground := Ground.data }, { on := 0, ground := Ground.phase }, { on := 1, ground := Ground.textOnly Departure.lateStores }, { on := 2, ground := Ground.textOnly Departure.lateStores }, { on := 3, ground := Ground.textOnly Departure.lateStores }], guard := none }) rfl (fun K hK => ?_) AllReadyH.nil
        obtain ⟨t0, t1, t2, t3⟩ := get4 HM.out.r4
        have f0 := HM.out.r4.frozen 0
        have f1 := HM.out.r4.frozen 1
        have f2 := HM.out.r4.frozen 2
        have f3 := HM.out.r4.frozen 3
        have m9 := set4_mod (w := wd) (z := zr) (.slice v.b.a1 D.B.n v.b.c1) (.slice v.b.a2 D.B.D.n v.b.c2) (.slice (some ⟨gb, 0, none⟩) k0 c7) (.int .i64 (hm1))
        have hSn := cs2 (v := ⟨v.b, some ⟨gb, 0, none⟩, c7⟩) (D := ⟨D.B, k0, consK (x : Int) sp sm (dropK q D.F), hm1⟩) (HM.out.r2.mod m9 (by have := HM.out.od; omega)) (HR8.out.mod m9 (by have := HZ8.out; omega))
        have FIN : Hid _ := HM.out.fin
        clear m9 HM HR8
        go_simp
        refine hK.out _ _ hSn (fun hB => ?_)
        clear hK K hB
        try simp only [Act.put, List.setIfInBounds_toArray, List.set_cons_zero, List.set_cons_succ]
        refine wpAnyH_take (i := 5) (oi := { dst := some 5, op := Op.assign (Operand.tmp 84), type := 3, pos := _, after := #[{ on := 3, ground := Ground.data }, { on := 4, ground := Ground.chain }, { on := 0, ground := Ground.phase }, { on := 1, ground := Ground.phase }, { on := 2, ground := Ground.phase }, { on := 3, ground := Ground.phase }, { on := 4, ground := Ground.phase }], guard := none }) (v := (.int .i64 (1 + sp))) rfl (by kernel_rfl) (by kernel_rfl) (by kernel_rfl) (fun _ _ _ h => h) (Or.inl ⟨by rfl, fun w' hS => by (try dsimp only at hS); go_simp⟩) hSn ?_
        simp only [Act.put, List.setIfInBounds_toArray, List.set_cons_zero, List.set_cons_succ]
        refine wpAnyH_done (by kernel_rfl) ?_ _
        refine NoPanic.normal ?_
        go_wp2
        exact bodyPost_ret (v := .tuple #[KV.val ⟨v.b, some ⟨gb, 0, none⟩, c7⟩ ⟨D.B, k0, consK (x : Int) sp sm (dropK q D.F), hm1⟩, .int .i64 (1 + sp)]) (by simp [results, Try.results86, go_sem, t0, t1, t2, t3]) rfl ⟨_, _, _, rfl, HWS.out, FIN.out⟩
      · have HMY : Hid (¬ hasMay sm y) := hm
        have d1 : (bits .and .i64 sm y != y) = true := by simp; exact hm
        clear hm
        go_upto_region 16 with fail
        clear s0 s1 s2 s3 e0 e1 d1
        have HWS : Hid (WSO D 1 (x : Int) g y ⟨D.B, k0, consK (x : Int) sp sm (dropK q D.F), hm1⟩ 0) := wlk_m HSP.out.1 HSP.out.2 hat HS0.out HK0.out (by show _ = _; rw [if_pos hq]; exact HMN.out.symm) (Or.inr ⟨HMY.out, rfl⟩)
        obtain ⟨p0, p1, p2, p3⟩ := get4 HM.out.r2
        obtain ⟨t0, t1, t2, t3⟩ := get4 HM.out.r4
        have f0 := HM.out.r4.frozen 0
        have f1 := HM.out.r4.frozen 1
        have f2 := HM.out.r4.frozen 2
        have f3 := HM.out.r4.frozen 3
        have FIN : Hid _ := HM.out.fin
        clear HM HR8
        go_wp2
        exact bodyPost_ret (v := .tuple #[KV.val ⟨v.b, some ⟨gb, 0, none⟩, c7⟩ ⟨D.B, k0, consK (x : Int) sp sm (dropK q D.F), hm1⟩, .int .i64 0]) (by simp [results, Try.results86, go_sem, t0, t1, t2, t3]) rfl ⟨_, _, _, rfl, HWS.out, FIN.out⟩
    · go_simp
      refine (l7Drop_any v.a D.n v.q q D.F x _ _ (by omega) hat.2 (HM.out.blw HBD.out).hv.k).mono ?_
      rintro e x1 ⟨v6, rfl, hbf, hb⟩
      obtain ⟨a6, c6, rfl, -, -, hk6⟩ := Buf.ways hbf (by unfold cntK; split <;> omega)
      have HKD : Hid (KAt 3 (fun x => wd.heap.size ≤ x) x1 a6 (cntK q D.n) (dropK q D.F)) := hk6.at.mono (fun x hx => by have := HBD.out.size; omega)
      replace HBD : Hid (Blw wd x1) := HBD.out.trans hb
      clear hbf hk6 hb
      refine hK.out _ _ (cs1 (D := ⟨D.B, D.n, D.F, hm1⟩) (HM.out.blw HBD.out) (HR8.out.blw HBD.out)) (fun hB => ?_)
      clear hK K hB
      try simp only [Act.put, List.setIfInBounds_toArray, List.set_cons_zero, List.set_cons_succ]
      refine wpAnyH_ready (rs := [7]) (by kernel_rfl) (by simp) ?_
      refine AllReadyH.cons (o := { dst := some 59, op := Op.buildSlice 30 1 #[(0, Operand.tmp 58)], type := 30, pos := _, after := #[{ on := 6, ground := Ground.data }], guard := none }) rfl (fun K hK => ?_) AllReadyH.nil
      go_simp
      have hA : Blw x1 (x1.alloc (.cells #[.int .i64 x, .int .i64 sp, .int .i64 sm] 129)) := (Blw.refl _).alloc _
      have HBU : Hid (Buf 129 3 (fun b => b = x1.heap.size) (x1.alloc (.cells #[.int .i64 x, .int .i64 sp, .int .i64 sm] 129)) (.slice (some ⟨x1.heap.size, 0, none⟩) 1 1) 1 (kc 3 (fun _ c => if c = 0 then (x : Int) else if c = 1 then sp else sm))) := Buf.one3 _ _ _
      have HZN : Hid (wd.heap.size ≤ x1.heap.size) := HBD.out.size
      replace HBD : Hid (Blw wd (x1.alloc (.cells #[.int .i64 x, .int .i64 sp, .int .i64 sm] 129))) := HBD.out.trans hA
      replace HKD : Hid (KAt 3 (fun x => wd.heap.size ≤ x) (x1.alloc (.cells #[.int .i64 x, .int .i64 sp, .int .i64 sm] 129)) a6 (cntK q D.n) (dropK q D.F)) := HKD.out.blw hA
      clear hA
      generalize (x1.alloc (.cells #[.int .i64 x, .int .i64 sp, .int .i64 sm] 129)) = x2 at *
      refine hK.out _ _ (cs1 (D := ⟨D.B, D.n, D.F, hm1⟩) (HM.out.blw HBD.out) (HR8.out.blw HBD.out)) (fun hB => ?_)
      clear hK K hB
      try simp only [Act.put, List.setIfInBounds_toArray, List.set_cons_zero, List.set_cons_succ]
      refine wpAnyH_ready (rs := [13]) (by kernel_rfl) (by simp) ?_
      refine AllReadyH.cons (o := { dst := some 65, op := Op.call { callee := Callee.builtin Builtin.append, args := #[Operand.tmp 59, Operand.tmp 64], argTypes := #[30, 30] }, type := 30, pos := _, after := #[{ on := 7, ground := Ground.data }, { on := 12, ground := Ground.data }, { on := 12, ground := Ground.chain }], guard := none }) rfl (fun K hK => ?_) AllReadyH.nil
      obtain ⟨a7, c7, W13, hrun, hk7, hr7, hc7, hm7⟩ := consS (q := c6) (x : Int) sp sm HBU.out HKD.out (by unfold cntK; split <;> omega)
      have HRN : Hid _ := hrun
      have HK7 : Hid (KAt 3 (fun x => (x < W13.heap.size ∧ x ≠ w.heap.size ∧ x ≠ zr) ∧ (lo ≤ x ∧ x ≠ zx)) W13 a7 (1 + cntK q D.n) (consK (x : Int) sp sm (dropK q D.F))) := hk7.mono (fun x hx => by have := HZN.out; have := HBD.out.size; have := HM.out.r2.lt; have := HM.out.r4.lt; have := HM.out.hb.size; have := HM.out.l0; omega)
      have HR7 : Hid (Room a7 (1 + cntK q D.n) c7 ∧ c7 ≤ 9223372036854775807) := ⟨hr7, hc7⟩
      replace HBD : Hid (Blw wd W13) := Mod.blw HBD.out hm7 (fun i hi => by have := HZN.out; omega)
      clear hrun hk7 hr7 hc7 hm7 HBU HKD HZN
      refine step_app (.tmp 59) (.tmp 64) 30 (by rfl) ?_
      refine ⟨_, _, HRN.out, ?_⟩
      refine hK.out _ _ (cs1 (D := ⟨D.B, D.n, D.F, hm1⟩) (HM.out.blw HBD.out) (HR8.out.blw HBD.out)) (fun hB => ?_)
      clear hK K hB
      try simp only [Act.put, List.setIfInBounds_toArray, List.set_cons_zero, List.set_cons_succ]
      refine wpAnyH_take (i := 14) (oi := { dst := some 10, op := Op.assign (Operand.tmp 65), type := 30, pos := _, after := #[{ on := 13, ground := Ground.data }, { on := 13, ground := Ground.chain }, { on := 0, ground := Ground.phase }, { on := 1, ground := Ground.phase }, { on := 2, ground := Ground.phase }, { on := 3, ground := Ground.phase }, { on := 4, ground := Ground.phase }, { on := 5, ground := Ground.phase }, { on := 6, ground := Ground.phase }, { on := 7, ground := Ground.phase }, { on := 8, ground := Ground.phase }, { on := 9, ground := Ground.phase }, { on := 10, ground := Ground.phase }, { on := 11, ground := Ground.phase }, { on := 12, ground := Ground.phase }, { on := 13, ground := Ground.phase }], guard := none }) (v := (.slice a7 (1 + cntK q D.n) c7)) rfl (by kernel_rfl) (by kernel_rfl) (by kernel_rfl) (fun _ _ _ h => h) (Or.inl ⟨by rfl, fun w' hS => by (try dsimp only at hS); go_simp⟩) (cs1 (D := ⟨D.B, D.n, D.F, hm1⟩) (HM.out.blw HBD.out) (HR8.out.blw HBD.out)) ?_
      simp only [Act.put, List.setIfInBounds_toArray, List.set_cons_zero, List.set_cons_succ]
      refine wpAnyH_done (by kernel_rfl) ?_ _
      refine NoPanic.normal ?_
      replace HM : Hid (MS lo zx 1 x g y w W13 w.heap.size zs zr v ⟨D.B, D.n, D.F, hm1⟩) := HM.out.blw HBD.out
      replace HR8 : Hid (Row W13 z8 2 (fun i => if i = 0 then .int .i64 sp else .int .i64 sm)) := HR8.out.blw HBD.out
      clear HBD HRN
      obtain ⟨gb, rfl, hcap⟩ : ∃ gb, a7 = some ⟨gb, 0, none⟩ ∧ 1 + cntK q D.n ≤ c7 := by
        rcases HR7.out.1 with ⟨-, e, -⟩ | ⟨gb, e, e2⟩
        · omega
        · exact ⟨gb, e, e2⟩
      obtain ⟨k0, hk0⟩ : ∃ k0 : Nat, k0 = min (1 + cntK q D.n) 4 := ⟨_, rfl⟩
      have HK0 : Hid (k0 = min (1 + cntK q D.n) 4) := hk0
      have hkc : (k0 : Int) ≤ (c7 : Int) := by omega
      have hkz : (0 : Int) ≤ (k0 : Int) := by omega
      have hc9 := HR7.out.2
      go_wp2_with fail
      refine (least_any _ _ (k0 : Int) _ (by omega)).mono ?_
      rintro e w8 ⟨rfl, hw⟩
      replace hw := hw.symm
      subst hw
      have HKF : Hid (KAt 3 (fun x => (x < W13.heap.size ∧ x ≠ w.heap.size ∧ x ≠ zr) ∧ (lo ≤ x ∧ x ≠ zx)) W13 (some ⟨gb, 0, none⟩) k0 (consK (x : Int) sp sm (dropK q D.F))) := ⟨by omega, fun i hi => HK7.out.2 i (by omega)⟩
      clear hk0 HK7
      obtain ⟨-, -, p2, -⟩ := get4 HM.out.r2
      have f2 := HM.out.r2.frozen 2
      replace HM : Hid (MS lo zx 1 x g y w (W13.setCell ⟨w.heap.size, 2, none⟩ (.slice (some ⟨gb, 0, none⟩) k0 c7)) w.heap.size zs zr ⟨v.b, some ⟨gb, 0, none⟩, c7⟩ ⟨D.B, k0, consK (x : Int) sp sm (dropK q D.F), hm1⟩) := HM.out.list HKF.out
      have h8 : Row (W13.setCell ⟨w.heap.size, 2, none⟩ (.slice (some ⟨gb, 0, none⟩) k0 c7)) z8 2 (fun i => if i = 0 then .int .i64 sp else .int .i64 sm) := HR8.out.mod (set1_mod W13 w.heap.size 2 _) (by have := HZ8.out; omega)
      clear HR8
      have HR8 : Hid (Row (W13.setCell ⟨w.heap.size, 2, none⟩ (.slice (some ⟨gb, 0, none⟩) k0 c7)) z8 2 (fun i => if i = 0 then .int .i64 sp else .int .i64 sm)) := h8
      clear h8 HKF
      go_upto_region 15 with fail
      clear p2 f2 hkc hkz hc9 hcap HR7
      generalize (W13.setCell ⟨w.heap.size, 2, none⟩ (.slice (some ⟨gb, 0, none⟩) k0 c7)) = W14 at *
      obtain ⟨s0, s1, s2, s3⟩ := get4 HM.out.rs
      obtain ⟨e0, e1⟩ := get2 HR8.out
      by_cases hm : hasMay sm y
      · have HMY : Hid (hasMay sm y) := hm
        have d1 : (bits .and .i64 sm y != y) = false := by rw [show bits .and .i64 sm y = y from hm]; simp
        clear hm
        go_upto_region 17 with fail
        clear s0 s1 s2 s3 e0 e1 d1
        replace HM : Hid (MS lo zx 1 x g y w W14.drew w.heap.size zs zr ⟨v.b, some ⟨gb, 0, none⟩, c7⟩ ⟨D.B, k0, consK (x : Int) sp sm (dropK q D.F), hm1⟩) := HM.out.blw (Blw.refl _).drew
        replace HR8 : Hid (Row W14.drew z8 2 (fun i => if i = 0 then .int .i64 sp else .int .i64 sm)) := HR8.out.blw (Blw.refl _).drew
        have HWS : Hid (WSO D 1 (x : Int) g y ⟨D.B, k0, consK (x : Int) sp sm (dropK q D.F), hm1⟩ (1 + sp)) := wlk_m HSP.out.1 HSP.out.2 hat HS0.out HK0.out (by show _ = _; rw [if_pos hq]; exact HMN.out.symm) (Or.inl ⟨HMY.out, rfl⟩)
        refine wp_region_noPanic ?_
        refine wp_region_held_drew (S := (fun w' => w'.cell? ⟨w.heap.size, 0, none⟩ = some (.slice v.b.a1 D.B.n v.b.c1) ∧ w'.cell? ⟨w.heap.size, 1, none⟩ = some (.slice v.b.a2 D.B.D.n v.b.c2) ∧ w'.cell? ⟨w.heap.size, 2, none⟩ = some (.slice (some ⟨gb, 0, none⟩) k0 c7) ∧ w'.cell? ⟨w.heap.size, 3, none⟩ = some (.int .i64 (hm1)) ∧ w'.cell? ⟨z8, 0, none⟩ = some (.int .i64 sp))) (by kernel_rfl) (cs2 HM.out.r2 HR8.out) (fun hB => ?_)
        clear hB
        generalize W14.drew = wd at *
        refine wpAnyH_take (i := 0) (oi := { dst := some 81, op := Op.load 32 (Operand.tmp 2), type := 32, pos := _, after := #[], guard := none }) (v := (.agg #[.slice v.b.a1 D.B.n v.b.c1, .slice v.b.a2 D.B.D.n v.b.c2, .slice (some ⟨gb, 0, none⟩) k0 c7, .int .i64 (hm1)])) rfl (by kernel_rfl) (by kernel_rfl) (by kernel_rfl) (fun _ _ _ h => h) (Or.inl ⟨by rfl, fun w' hS => by (try dsimp only at hS); go_simp⟩) (cs2 HM.out.r2 HR8.out) ?_
        simp only [Act.put, List.setIfInBounds_toArray, List.set_cons_zero, List.set_cons_succ]
        refine wpAnyH_take (i := 1) (oi := { dst := some 82, op := Op.fieldAddr 189 (Operand.tmp 8) 0, type := 0, pos := _, after := #[{ on := 4, ground := Ground.gcOnly Departure.lateStores }], guard := none }) (v := (.pointer (some ⟨z8, 0, none⟩))) rfl (by kernel_rfl) (by kernel_rfl) (by kernel_rfl) (fun _ _ _ h => h) (Or.inl ⟨by rfl, fun w' hS => by (try dsimp only at hS); go_simp⟩) (cs2 HM.out.r2 HR8.out) ?_
        simp only [Act.put, List.setIfInBounds_toArray, List.set_cons_zero, List.set_cons_succ]
        refine wpAnyH_take (i := 2) (oi := { dst := some 83, op := Op.load 3 (Operand.tmp 82), type := 3, pos := _, after := #[{ on := 1, ground := Ground.data }, { on := 4, ground := Ground.gcOnly Departure.lateStores }], guard := none }) (v := (.int .i64 sp)) rfl (by kernel_rfl) (by kernel_rfl) (by kernel_rfl) (fun _ _ _ h => h) (Or.inl ⟨by rfl, fun w' hS => by (try dsimp only at hS); go_simp⟩) (cs2 HM.out.r2 HR8.out) ?_
        simp only [Act.put, List.setIfInBounds_toArray, List.set_cons_zero, List.set_cons_succ]
        refine wpAnyH_take (i := 3) (oi := { dst := some 84, op := Op.binOp BinOp.add 3 (Operand.const (Value.int IntKind.i64 1)) (Operand.tmp 83) 3, type := 3, pos := _, after := #[{ on := 2, ground := Ground.data }, { on := 4, ground := Ground.gcOnly Departure.lateStores }], guard := none }) (v := (.int .i64 (1 + sp))) rfl (by kernel_rfl) (by kernel_rfl) (by kernel_rfl) (fun _ _ _ h => h) (Or.inl ⟨by rfl, fun w' hS => by (try dsimp only at hS); go_simp⟩) (cs2 HM.out.r2 HR8.out) ?_
        simp only [Act.put, List.setIfInBounds_toArray, List.set_cons_zero, List.set_cons_succ]
        refine wpAnyH_ready (rs := [4]) (by kernel_rfl) (by simp) ?_
        refine AllReadyH.cons (o := { dst := none, op := Op.store 32 (Operand.tmp 4) (Operand.tmp 81), type := 0, pos := _, after := #[{ on := 0, ground := Ground.data }, { on := 0, ground := Ground.phase }, { on := 1, ground := Ground.textOnly Departure.lateStores }, { on := 2, ground := Ground.textOnly Departure.lateStores }, { on := 3, ground := Ground.textOnly Departure.lateStores }], guard := none }) rfl (fun K hK => ?_) AllReadyH.nil
        obtain ⟨t0, t1, t2, t3⟩ := get4 HM.out.r4
        have f0 := HM.out.r4.frozen 0
        have f1 := HM.out.r4.frozen 1
        have f2 := HM.out.r4.frozen 2
        have f3 := HM.out.r4.frozen 3
        have m9 := set4_mod (w := wd) (z := zr) (.slice v.b.a1 D.B.n v.b.c1) (.slice v.b.a2 D.B.D.n v.b.c2) (.slice (some ⟨gb, 0, none⟩) k0 c7) (.int .i64 (hm1))
        have hSn := cs2 (v := ⟨v.b, some ⟨gb, 0, none⟩, c7⟩) (D := ⟨D.B, k0, consK (x : Int) sp sm (dropK q D.F), hm1⟩) (HM.out.r2.mod m9 (by have := HM.out.od; omega)) (HR8.out.mod m9 (by have := HZ8.out; omega))
        have FIN : Hid _ := HM.out.fin
        clear m9 HM HR8
        go_simp
        refine hK.out _ _ hSn (fun hB => ?_)
        clear hK K hB
        try simp only [Act.put, List.setIfInBounds_toArray, List.set_cons_zero, List.set_cons_succ]
        refine wpAnyH_take (i := 5) (oi := { dst := some 5, op := Op.assign (Operand.tmp 84), type := 3, pos := _, after := #[{ on := 3, ground := Ground.data }, { on := 4, ground := Ground.chain }, { on := 0, ground := Ground.phase }, { on := 1, ground := Ground.phase }, { on := 2, ground := Ground.phase }, { on := 3, ground := Ground.phase }, { on := 4, ground := Ground.phase }], guard := none }) (v := (.int .i64 (1 + sp))) rfl (by kernel_rfl) (by kernel_rfl) (by kernel_rfl) (fun _ _ _ h => h) (Or.inl ⟨by rfl, fun w' hS => by (try dsimp only at hS); go_simp⟩) hSn ?_
        simp only [Act.put, List.setIfInBounds_toArray, List.set_cons_zero, List.set_cons_succ]
        refine wpAnyH_done (by kernel_rfl) ?_ _
        refine NoPanic.normal ?_
        go_wp2
        exact bodyPost_ret (v := .tuple #[KV.val ⟨v.b, some ⟨gb, 0, none⟩, c7⟩ ⟨D.B, k0, consK (x : Int) sp sm (dropK q D.F), hm1⟩, .int .i64 (1 + sp)]) (by simp [results, Try.results86, go_sem, t0, t1, t2, t3]) rfl ⟨_, _, _, rfl, HWS.out, FIN.out⟩
      · have HMY : Hid (¬ hasMay sm y) := hm
        have d1 : (bits .and .i64 sm y != y) = true := by simp; exact hm
        clear hm
        go_upto_region 16 with fail
        clear s0 s1 s2 s3 e0 e1 d1
        have HWS : Hid (WSO D 1 (x : Int) g y ⟨D.B, k0, consK (x : Int) sp sm (dropK q D.F), hm1⟩ 0) := wlk_m HSP.out.1 HSP.out.2 hat HS0.out HK0.out (by show _ = _; rw [if_pos hq]; exact HMN.out.symm) (Or.inr ⟨HMY.out, rfl⟩)
        obtain ⟨p0, p1, p2, p3⟩ := get4 HM.out.r2
        obtain ⟨t0, t1, t2, t3⟩ := get4 HM.out.r4
        have f0 := HM.out.r4.frozen 0
        have f1 := HM.out.r4.frozen 1
        have f2 := HM.out.r4.frozen 2
        have f3 := HM.out.r4.frozen 3
        have FIN : Hid _ := HM.out.fin
        clear HM HR8
        go_wp2
        exact bodyPost_ret (v := .tuple #[KV.val ⟨v.b, some ⟨gb, 0, none⟩, c7⟩ ⟨D.B, k0, consK (x : Int) sp sm (dropK q D.F), hm1⟩, .int .i64 0]) (by simp [results, Try.results86, go_sem, t0, t1, t2, t3]) rfl ⟨_, _, _, rfl, HWS.out, FIN.out⟩
  · obtain rfl : r = -1 := hr.no (fun j hj e => by have := (hat.2 j hj).1 e; have := hat.1; omega)
    clear hr HNZ hw1 hh0
    obtain ⟨e0, e1⟩ := get2 HR8.out
    by_cases h0 : sm = 0
    · have HS0 : Hid (sm = 0) := h0
      have hs1 : ¬ 0 < sm := by omega
      have HMY : Hid (¬ hasMay sm y) := by show ¬ _; rw [h0]; exact no_may HMY0.out
      clear h0
      have d1 : (bits .and .i64 sm y != y) = true := by simp; exact HMY.out
      obtain ⟨s0, s1, s2, s3⟩ := get4 HM.out.rs
      go_upto_region 16 with fail
      clear s0 s1 s2 s3 e0 e1 d1 hs1
      have HWS : Hid (WSO D 1 (x : Int) g y D 0) := wlk_0 HSP.out.1 HSP.out.2 hat HS0.out HMY0.out
      obtain ⟨p0, p1, p2, p3⟩ := get4 HM.out.r2
      obtain ⟨t0, t1, t2, t3⟩ := get4 HM.out.r4
      have f0 := HM.out.r4.frozen 0
      have f1 := HM.out.r4.frozen 1
      have f2 := HM.out.r4.frozen 2
      have f3 := HM.out.r4.frozen 3
      have FIN : Hid _ := HM.out.fin
      clear HM HR8
      go_wp2
      exact bodyPost_ret (v := .tuple #[KV.val v D, .int .i64 0]) (by simp [results, Try.results86, go_sem, t0, t1, t2, t3]) rfl ⟨_, _, _, rfl, HWS.out, FIN.out⟩
    · have HS0 : Hid (¬ sm = 0) := h0
      have hs1 : 0 < sm := by omega
      clear h0
      go_upto_region 13 with fail
      clear e0 e1
      replace HM : Hid (MS lo zx 1 x g y w w2.drew w.heap.size zs zr v ⟨D.B, D.n, D.F, D.h⟩) := HM.out.blw (Blw.refl _).drew
      replace HR8 : Hid (Row w2.drew z8 2 (fun i => if i = 0 then .int .i64 sp else .int .i64 sm)) := HR8.out.blw (Blw.refl _).drew
      have HBD : Hid (Blw w2.drew w2.drew) := Blw.refl _
      refine wp_region_noPanic ?_
      refine wp_region_held_drew (S := (fun w' => w'.cell? ⟨zs, 1, none⟩ = some (.int .i64 x) ∧ w'.cell? ⟨z8, 0, none⟩ = some (.int .i64 sp) ∧ w'.cell? ⟨z8, 1, none⟩ = some (.int .i64 sm) ∧ w'.cell? ⟨w.heap.size, 2, none⟩ = some (.slice v.a D.n v.q))) (by kernel_rfl) (cs1 (D := ⟨D.B, D.n, D.F, D.h⟩) (HM.out.blw HBD.out) (HR8.out.blw HBD.out)) (fun hB => ?_)
      clear hB
      generalize w2.drew = wd at *
      refine wpAnyH_take (i := 0) (oi := { dst := some 52, op := Op.fieldAddr 42 (Operand.tmp 3) 1, type := 0, pos := _, after := #[], guard := none }) (v := (.pointer (some ⟨zs, 1, none⟩))) rfl (by kernel_rfl) (by kernel_rfl) (by kernel_rfl) (fun _ _ _ h => h) (Or.inl ⟨by rfl, fun w' hS => by (try dsimp only at hS); go_simp⟩) (cs1 (D := ⟨D.B, D.n, D.F, D.h⟩) (HM.out.blw HBD.out) (HR8.out.blw HBD.out)) ?_
      simp only [Act.put, List.setIfInBounds_toArray, List.set_cons_zero, List.set_cons_succ]
      refine wpAnyH_take (i := 2) (oi := { dst := some 54, op := Op.fieldAddr 189 (Operand.tmp 8) 0, type := 0, pos := _, after := #[], guard := none }) (v := (.pointer (some ⟨z8, 0, none⟩))) rfl (by kernel_rfl) (by kernel_rfl) (by kernel_rfl) (fun _ _ _ h => h) (Or.inl ⟨by rfl, fun w' hS => by (try dsimp only at hS); go_simp⟩) (cs1 (D := ⟨D.B, D.n, D.F, D.h⟩) (HM.out.blw HBD.out) (HR8.out.blw HBD.out)) ?_
      simp only [Act.put, List.setIfInBounds_toArray, List.set_cons_zero, List.set_cons_succ]
      refine wpAnyH_take (i := 4) (oi := { dst := some 56, op := Op.fieldAddr 189 (Operand.tmp 8) 1, type := 0, pos := _, after := #[], guard := none }) (v := (.pointer (some ⟨z8, 1, none⟩))) rfl (by kernel_rfl) (by kernel_rfl) (by kernel_rfl) (fun _ _ _ h => h) (Or.inl ⟨by rfl, fun w' hS => by (try dsimp only at hS); go_simp⟩) (cs1 (D := ⟨D.B, D.n, D.F, D.h⟩) (HM.out.blw HBD.out) (HR8.out.blw HBD.out)) ?_
      simp only [Act.put, List.setIfInBounds_toArray, List.set_cons_zero, List.set_cons_succ]
      refine wpAnyH_take (i := 8) (oi := { dst := some 60, op := Op.fieldAddr 32 (Operand.tmp 2) 1, type := 0, pos := _, after := #[], guard := none }) (v := (.pointer (some ⟨w.heap.size, 2, none⟩))) rfl (by kernel_rfl) (by kernel_rfl) (by kernel_rfl) (fun _ _ _ h => h) (Or.inl ⟨by rfl, fun w' hS => by (try dsimp only at hS); go_simp⟩) (cs1 (D := ⟨D.B, D.n, D.F, D.h⟩) (HM.out.blw HBD.out) (HR8.out.blw HBD.out)) ?_
      simp only [Act.put, List.setIfInBounds_toArray, List.set_cons_zero, List.set_cons_succ]
      refine wpAnyH_take (i := 10) (oi := { dst := some 62, op := Op.fieldAddr 42 (Operand.tmp 3) 1, type := 0, pos := _, after := #[], guard := none }) (v := (.pointer (some ⟨zs, 1, none⟩))) rfl (by kernel_rfl) (by kernel_rfl) (by kernel_rfl) (fun _ _ _ h => h) (Or.inl ⟨by rfl, fun w' hS => by (try dsimp only at hS); go_simp⟩) (cs1 (D := ⟨D.B, D.n, D.F, D.h⟩) (HM.out.blw HBD.out) (HR8.out.blw HBD.out)) ?_
      simp only [Act.put, List.setIfInBounds_toArray, List.set_cons_zero, List.set_cons_succ]
      refine wpAnyH_take (i := 1) (oi := { dst := some 53, op := Op.load 3 (Operand.tmp 52), type := 3, pos := _, after := #[{ on := 0, ground := Ground.data }], guard := none }) (v := (.int .i64 x)) rfl (by kernel_rfl) (by kernel_rfl) (by kernel_rfl) (fun _ _ _ h => h) (Or.inl ⟨by rfl, fun w' hS => by (try dsimp only at hS); go_simp⟩) (cs1 (D := ⟨D.B, D.n, D.F, D.h⟩) (HM.out.blw HBD.out) (HR8.out.blw HBD.out)) ?_
      simp only [Act.put, List.setIfInBounds_toArray, List.set_cons_zero, List.set_cons_succ]
      refine wpAnyH_take (i := 3) (oi := { dst := some 55, op := Op.load 3 (Operand.tmp 54), type := 3, pos := _, after := #[{ on := 2, ground := Ground.data }], guard := none }) (v := (.int .i64 sp)) rfl (by kernel_rfl) (by kernel_rfl) (by kernel_rfl) (fun _ _ _ h => h) (Or.inl ⟨by rfl, fun w' hS => by (try dsimp only at hS); go_simp⟩) (cs1 (D := ⟨D.B, D.n, D.F, D.h⟩) (HM.out.blw HBD.out) (HR8.out.blw HBD.out)) ?_
      simp only [Act.put, List.setIfInBounds_toArray, List.set_cons_zero, List.set_cons_succ]
      refine wpAnyH_take (i := 5) (oi := { dst := some 57, op := Op.load 3 (Operand.tmp 56), type := 3, pos := _, after := #[{ on := 4, ground := Ground.data }], guard := none }) (v := (.int .i64 sm)) rfl (by kernel_rfl) (by kernel_rfl) (by kernel_rfl) (fun _ _ _ h => h) (Or.inl ⟨by rfl, fun w' hS => by (try dsimp only at hS); go_simp⟩) (cs1 (D := ⟨D.B, D.n, D.F, D.h⟩) (HM.out.blw HBD.out) (HR8.out.blw HBD.out)) ?_
      simp only [Act.put, List.setIfInBounds_toArray, List.set_cons_zero, List.set_cons_succ]
      refine wpAnyH_take (i := 9) (oi := { dst := some 61, op := Op.load 30 (Operand.tmp 60), type := 30, pos := _, after := #[{ on := 8, ground := Ground.data }], guard := none }) (v := (.slice v.a D.n v.q)) rfl (by kernel_rfl) (by kernel_rfl) (by kernel_rfl) (fun _ _ _ h => h) (Or.inl ⟨by rfl, fun w' hS => by (try dsimp only at hS); go_simp⟩) (cs1 (D := ⟨D.B, D.n, D.F, D.h⟩) (HM.out.blw HBD.out) (HR8.out.blw HBD.out)) ?_
      simp only [Act.put, List.setIfInBounds_toArray, List.set_cons_zero, List.set_cons_succ]
      refine wpAnyH_take (i := 11) (oi := { dst := some 63, op := Op.load 3 (Operand.tmp 62), type := 3, pos := _, after := #[{ on := 10, ground := Ground.data }], guard := none }) (v := (.int .i64 x)) rfl (by kernel_rfl) (by kernel_rfl) (by kernel_rfl) (fun _ _ _ h => h) (Or.inl ⟨by rfl, fun w' hS => by (try dsimp only at hS); go_simp⟩) (cs1 (D := ⟨D.B, D.n, D.F, D.h⟩) (HM.out.blw HBD.out) (HR8.out.blw HBD.out)) ?_
      simp only [Act.put, List.setIfInBounds_toArray, List.set_cons_zero, List.set_cons_succ]
      refine wpAnyH_take (i := 6) (oi := { dst := some 58, op := Op.build 129 #[(0, Operand.tmp 53), (1, Operand.tmp 55), (2, Operand.tmp 57)], type := 129, pos := _, after := #[{ on := 1, ground := Ground.data }, { on := 3, ground := Ground.data }, { on := 5, ground := Ground.data }], guard := none }) (v := (.agg #[.int .i64 x, .int .i64 sp, .int .i64 sm])) rfl (by kernel_rfl) (by kernel_rfl) (by kernel_rfl) (fun _ _ _ h => h) (Or.inl ⟨by rfl, fun w' hS => by (try dsimp only at hS); go_simp⟩) (cs1 (D := ⟨D.B, D.n, D.F, D.h⟩) (HM.out.blw HBD.out) (HR8.out.blw HBD.out)) ?_
      simp only [Act.put, List.setIfInBounds_toArray, List.set_cons_zero, List.set_cons_succ]
      refine wpAnyH_ready (rs := [7, 12]) (by kernel_rfl) (by simp) ?_
      refine AllReadyH.cons (o := { dst := some 59, op := Op.buildSlice 30 1 #[(0, Operand.tmp 58)], type := 30, pos := _, after := #[{ on := 6, ground := Ground.data }], guard := none }) rfl (fun K hK => ?_) (AllReadyH.cons (o := { dst := some 64, op := Op.call { callee := Callee.value (Operand.func 151), args := #[Operand.tmp 61, Operand.tmp 63], argTypes := #[30, 3] }, type := 30, pos := _, after := #[{ on := 9, ground := Ground.data }, { on := 11, ground := Ground.data }], guard := none }) rfl (fun K hK => ?_) AllReadyH.nil)
      · go_simp
        have hA : Blw wd (wd.alloc (.cells #[.int .i64 x, .int .i64 sp, .int .i64 sm] 129)) := (Blw.refl _).alloc _
        have HBU : Hid (Buf 129 3 (fun b => b = wd.heap.size) (wd.alloc (.cells #[.int .i64 x, .int .i64 sp, .int .i64 sm] 129)) (.slice (some ⟨wd.heap.size, 0, none⟩) 1 1) 1 (kc 3 (fun _ c => if c = 0 then (x : Int) else if c = 1 then sp else sm))) := Buf.one3 _ _ _
        have HZN : Hid (wd.heap.size ≤ wd.heap.size) := HBD.out.size
        replace HBD : Hid (Blw wd (wd.alloc (.cells #[.int .i64 x, .int .i64 sp, .int .i64 sm] 129))) := HBD.out.trans hA
        clear hA
        generalize (wd.alloc (.cells #[.int .i64 x, .int .i64 sp, .int .i64 sm] 129)) = x1 at *
        refine hK.out _ _ (cs1 (D := ⟨D.B, D.n, D.F, D.h⟩) (HM.out.blw HBD.out) (HR8.out.blw HBD.out)) (fun hB => ?_)
        clear hK K hB
        try simp only [Act.put, List.setIfInBounds_toArray, List.set_cons_zero, List.set_cons_succ]
        refine wpAnyH_ready (rs := [12]) (by kernel_rfl) (by simp) ?_
        refine AllReadyH.cons (o := { dst := some 64, op := Op.call { callee := Callee.value (Operand.func 151), args := #[Operand.tmp 61, Operand.tmp 63], argTypes := #[30, 3] }, type := 30, pos := _, after := #[{ on := 9, ground := Ground.data }, { on := 11, ground := Ground.data }], guard := none }) rfl (fun K hK => ?_) AllReadyH.nil
        go_simp
        refine (l7Drop_any v.a D.n v.q q D.F x _ _ (by omega) hat.2 (HM.out.blw HBD.out).hv.k).mono ?_
        rintro e x2 ⟨v6, rfl, hbf, hb⟩
        obtain ⟨a6, c6, rfl, -, -, hk6⟩ := Buf.ways hbf (by unfold cntK; split <;> omega)
        have HKD : Hid (KAt 3 (fun x => wd.heap.size ≤ x) x2 a6 (cntK q D.n) (dropK q D.F)) := hk6.at.mono (fun x hx => by have := HBD.out.size; omega)
        replace HBD : Hid (Blw wd x2) := HBD.out.trans hb
        replace HBU : Hid (Buf 129 3 (fun b => b = wd.heap.size) x2 (.slice (some ⟨wd.heap.size, 0, none⟩) 1 1) 1 (kc 3 (fun _ c => if c = 0 then (x : Int) else if c = 1 then sp else sm))) := Buf.blw HBU.out hb
        clear hbf hk6 hb
        refine hK.out _ _ (cs1 (D := ⟨D.B, D.n, D.F, D.h⟩) (HM.out.blw HBD.out) (HR8.out.blw HBD.out)) (fun hB => ?_)
        clear hK K hB
        try simp only [Act.put, List.setIfInBounds_toArray, List.set_cons_zero, List.set_cons_succ]
        refine wpAnyH_ready (rs := [13]) (by kernel_rfl) (by simp) ?_
        refine AllReadyH.cons (o := { dst := some 65, op := Op.call { callee := Callee.builtin Builtin.append, args := #[Operand.tmp 59, Operand.tmp 64], argTypes := #[30, 30] }, type := 30, pos := _, after := #[{ on := 7, ground := Ground.data }, { on := 12, ground := Ground.data }, { on := 12, ground := Ground.chain }], guard := none }) rfl (fun K hK => ?_) AllReadyH.nil
        obtain ⟨a7, c7, W13, hrun, hk7, hr7, hc7, hm7⟩ := consS (q := c6) (x : Int) sp sm HBU.out HKD.out (by unfold cntK; split <;> omega)
        have HRN : Hid _ := hrun
        have HK7 : Hid (KAt 3 (fun x => (x < W13.heap.size ∧ x ≠ w.heap.size ∧ x ≠ zr) ∧ (lo ≤ x ∧ x ≠ zx)) W13 a7 (1 + cntK q D.n) (consK (x : Int) sp sm (dropK q D.F))) := hk7.mono (fun x hx => by have := HZN.out; have := HBD.out.size; have := HM.out.r2.lt; have := HM.out.r4.lt; have := HM.out.hb.size; have := HM.out.l0; omega)
        have HR7 : Hid (Room a7 (1 + cntK q D.n) c7 ∧ c7 ≤ 9223372036854775807) := ⟨hr7, hc7⟩
        replace HBD : Hid (Blw wd W13) := Mod.blw HBD.out hm7 (fun i hi => by have := HZN.out; omega)
        clear hrun hk7 hr7 hc7 hm7 HBU HKD HZN
        refine step_app (.tmp 59) (.tmp 64) 30 (by rfl) ?_
        refine ⟨_, _, HRN.out, ?_⟩
        refine hK.out _ _ (cs1 (D := ⟨D.B, D.n, D.F, D.h⟩) (HM.out.blw HBD.out) (HR8.out.blw HBD.out)) (fun hB => ?_)
        clear hK K hB
        try simp only [Act.put, List.setIfInBounds_toArray, List.set_cons_zero, List.set_cons_succ]
        refine wpAnyH_take (i := 14) (oi := { dst := some 10, op := Op.assign (Operand.tmp 65), type := 30, pos := _, after := #[{ on := 13, ground := Ground.data }, { on := 13, ground := Ground.chain }, { on := 0, ground := Ground.phase }, { on := 1, ground := Ground.phase }, { on := 2, ground := Ground.phase }, { on := 3, ground := Ground.phase }, { on := 4, ground := Ground.phase }, { on := 5, ground := Ground.phase }, { on := 6, ground := Ground.phase }, { on := 7, ground := Ground.phase }, { on := 8, ground := Ground.phase }, { on := 9, ground := Ground.phase }, { on := 10, ground := Ground.phase }, { on := 11, ground := Ground.phase }, { on := 12, ground := Ground.phase }, { on := 13, ground := Ground.phase }], guard := none }) (v := (.slice a7 (1 + cntK q D.n) c7)) rfl (by kernel_rfl) (by kernel_rfl) (by kernel_rfl) (fun _ _ _ h => h) (Or.inl ⟨by rfl, fun w' hS => by (try dsimp only at hS); go_simp⟩) (cs1 (D := ⟨D.B, D.n, D.F, D.h⟩) (HM.out.blw HBD.out) (HR8.out.blw HBD.out)) ?_
        simp only [Act.put, List.setIfInBounds_toArray, List.set_cons_zero, List.set_cons_succ]
        refine wpAnyH_done (by kernel_rfl) ?_ _
        refine NoPanic.normal ?_
        replace HM : Hid (MS lo zx 1 x g y w W13 w.heap.size zs zr v ⟨D.B, D.n, D.F, D.h⟩) := HM.out.blw HBD.out
        replace HR8 : Hid (Row W13 z8 2 (fun i => if i = 0 then .int .i64 sp else .int .i64 sm)) := HR8.out.blw HBD.out
        clear HBD HRN
        obtain ⟨gb, rfl, hcap⟩ : ∃ gb, a7 = some ⟨gb, 0, none⟩ ∧ 1 + cntK q D.n ≤ c7 := by
          rcases HR7.out.1 with ⟨-, e, -⟩ | ⟨gb, e, e2⟩
          · omega
          · exact ⟨gb, e, e2⟩
        obtain ⟨k0, hk0⟩ : ∃ k0 : Nat, k0 = min (1 + cntK q D.n) 4 := ⟨_, rfl⟩
        have HK0 : Hid (k0 = min (1 + cntK q D.n) 4) := hk0
        have hkc : (k0 : Int) ≤ (c7 : Int) := by omega
        have hkz : (0 : Int) ≤ (k0 : Int) := by omega
        have hc9 := HR7.out.2
        go_wp2_with fail
        refine (least_any _ _ (k0 : Int) _ (by omega)).mono ?_
        rintro e w8 ⟨rfl, hw⟩
        replace hw := hw.symm
        subst hw
        have HKF : Hid (KAt 3 (fun x => (x < W13.heap.size ∧ x ≠ w.heap.size ∧ x ≠ zr) ∧ (lo ≤ x ∧ x ≠ zx)) W13 (some ⟨gb, 0, none⟩) k0 (consK (x : Int) sp sm (dropK q D.F))) := ⟨by omega, fun i hi => HK7.out.2 i (by omega)⟩
        clear hk0 HK7
        obtain ⟨-, -, p2, -⟩ := get4 HM.out.r2
        have f2 := HM.out.r2.frozen 2
        replace HM : Hid (MS lo zx 1 x g y w (W13.setCell ⟨w.heap.size, 2, none⟩ (.slice (some ⟨gb, 0, none⟩) k0 c7)) w.heap.size zs zr ⟨v.b, some ⟨gb, 0, none⟩, c7⟩ ⟨D.B, k0, consK (x : Int) sp sm (dropK q D.F), D.h⟩) := HM.out.list HKF.out
        have h8 : Row (W13.setCell ⟨w.heap.size, 2, none⟩ (.slice (some ⟨gb, 0, none⟩) k0 c7)) z8 2 (fun i => if i = 0 then .int .i64 sp else .int .i64 sm) := HR8.out.mod (set1_mod W13 w.heap.size 2 _) (by have := HZ8.out; omega)
        clear HR8
        have HR8 : Hid (Row (W13.setCell ⟨w.heap.size, 2, none⟩ (.slice (some ⟨gb, 0, none⟩) k0 c7)) z8 2 (fun i => if i = 0 then .int .i64 sp else .int .i64 sm)) := h8
        clear h8 HKF
        go_upto_region 15 with fail
        clear p2 f2 hkc hkz hc9 hcap HR7
        generalize (W13.setCell ⟨w.heap.size, 2, none⟩ (.slice (some ⟨gb, 0, none⟩) k0 c7)) = W14 at *
        obtain ⟨s0, s1, s2, s3⟩ := get4 HM.out.rs
        obtain ⟨e0, e1⟩ := get2 HR8.out
        by_cases hm : hasMay sm y
        · have HMY : Hid (hasMay sm y) := hm
          have d1 : (bits .and .i64 sm y != y) = false := by rw [show bits .and .i64 sm y = y from hm]; simp
          clear hm
          go_upto_region 17 with fail
          clear s0 s1 s2 s3 e0 e1 d1
          replace HM : Hid (MS lo zx 1 x g y w W14.drew w.heap.size zs zr ⟨v.b, some ⟨gb, 0, none⟩, c7⟩ ⟨D.B, k0, consK (x : Int) sp sm (dropK q D.F), D.h⟩) := HM.out.blw (Blw.refl _).drew
          replace HR8 : Hid (Row W14.drew z8 2 (fun i => if i = 0 then .int .i64 sp else .int .i64 sm)) := HR8.out.blw (Blw.refl _).drew
          have HWS : Hid (WSO D 1 (x : Int) g y ⟨D.B, k0, consK (x : Int) sp sm (dropK q D.F), D.h⟩ (1 + sp)) := wlk_m HSP.out.1 HSP.out.2 hat HS0.out HK0.out (by show _ = _; rw [if_neg hq]) (Or.inl ⟨HMY.out, rfl⟩)
          refine wp_region_noPanic ?_
          refine wp_region_held_drew (S := (fun w' => w'.cell? ⟨w.heap.size, 0, none⟩ = some (.slice v.b.a1 D.B.n v.b.c1) ∧ w'.cell? ⟨w.heap.size, 1, none⟩ = some (.slice v.b.a2 D.B.D.n v.b.c2) ∧ w'.cell? ⟨w.heap.size, 2, none⟩ = some (.slice (some ⟨gb, 0, none⟩) k0 c7) ∧ w'.cell? ⟨w.heap.size, 3, none⟩ = some (.int .i64 (D.h)) ∧ w'.cell? ⟨z8, 0, none⟩ = some (.int .i64 sp))) (by kernel_rfl) (cs2 HM.out.r2 HR8.out) (fun hB => ?_)
          clear hB
          generalize W14.drew = wd at *
          refine wpAnyH_take (i := 0) (oi := { dst := some 81, op := Op.load 32 (Operand.tmp 2), type := 32, pos := _, after := #[], guard := none }) (v := (.agg #[.slice v.b.a1 D.B.n v.b.c1, .slice v.b.a2 D.B.D.n v.b.c2, .slice (some ⟨gb, 0, none⟩) k0 c7, .int .i64 (D.h)])) rfl (by kernel_rfl) (by kernel_rfl) (by kernel_rfl) (fun _ _ _ h => h) (Or.inl ⟨by rfl, fun w' hS => by (try dsimp only at hS); go_simp⟩) (cs2 HM.out.r2 HR8.out) ?_
          simp only [Act.put, List.setIfInBounds_toArray, List.set_cons_zero, List.set_cons_succ]
          refine wpAnyH_take (i := 1) (oi := { dst := some 82, op := Op.fieldAddr 189 (Operand.tmp 8) 0, type := 0, pos := _, after := #[{ on := 4, ground := Ground.gcOnly Departure.lateStores }], guard := none }) (v := (.pointer (some ⟨z8, 0, none⟩))) rfl (by kernel_rfl) (by kernel_rfl) (by kernel_rfl) (fun _ _ _ h => h) (Or.inl ⟨by rfl, fun w' hS => by (try dsimp only at hS); go_simp⟩) (cs2 HM.out.r2 HR8.out) ?_
          simp only [Act.put, List.setIfInBounds_toArray, List.set_cons_zero, List.set_cons_succ]
          refine wpAnyH_take (i := 2) (oi := { dst := some 83, op := Op.load 3 (Operand.tmp 82), type := 3, pos := _, after := #[{ on := 1, ground := Ground.data }, { on := 4, ground := Ground.gcOnly Departure.lateStores }], guard := none }) (v := (.int .i64 sp)) rfl (by kernel_rfl) (by kernel_rfl) (by kernel_rfl) (fun _ _ _ h => h) (Or.inl ⟨by rfl, fun w' hS => by (try dsimp only at hS); go_simp⟩) (cs2 HM.out.r2 HR8.out) ?_
          simp only [Act.put, List.setIfInBounds_toArray, List.set_cons_zero, List.set_cons_succ]
          refine wpAnyH_take (i := 3) (oi := { dst := some 84, op := Op.binOp BinOp.add 3 (Operand.const (Value.int IntKind.i64 1)) (Operand.tmp 83) 3, type := 3, pos := _, after := #[{ on := 2, ground := Ground.data }, { on := 4, ground := Ground.gcOnly Departure.lateStores }], guard := none }) (v := (.int .i64 (1 + sp))) rfl (by kernel_rfl) (by kernel_rfl) (by kernel_rfl) (fun _ _ _ h => h) (Or.inl ⟨by rfl, fun w' hS => by (try dsimp only at hS); go_simp⟩) (cs2 HM.out.r2 HR8.out) ?_
          simp only [Act.put, List.setIfInBounds_toArray, List.set_cons_zero, List.set_cons_succ]
          refine wpAnyH_ready (rs := [4]) (by kernel_rfl) (by simp) ?_
          refine AllReadyH.cons (o := { dst := none, op := Op.store 32 (Operand.tmp 4) (Operand.tmp 81), type := 0, pos := _, after := #[{ on := 0, ground := Ground.data }, { on := 0, ground := Ground.phase }, { on := 1, ground := Ground.textOnly Departure.lateStores }, { on := 2, ground := Ground.textOnly Departure.lateStores }, { on := 3, ground := Ground.textOnly Departure.lateStores }], guard := none }) rfl (fun K hK => ?_) AllReadyH.nil
          obtain ⟨t0, t1, t2, t3⟩ := get4 HM.out.r4
          have f0 := HM.out.r4.frozen 0
          have f1 := HM.out.r4.frozen 1
          have f2 := HM.out.r4.frozen 2
          have f3 := HM.out.r4.frozen 3
          have m9 := set4_mod (w := wd) (z := zr) (.slice v.b.a1 D.B.n v.b.c1) (.slice v.b.a2 D.B.D.n v.b.c2) (.slice (some ⟨gb, 0, none⟩) k0 c7) (.int .i64 (D.h))
          have hSn := cs2 (v := ⟨v.b, some ⟨gb, 0, none⟩, c7⟩) (D := ⟨D.B, k0, consK (x : Int) sp sm (dropK q D.F), D.h⟩) (HM.out.r2.mod m9 (by have := HM.out.od; omega)) (HR8.out.mod m9 (by have := HZ8.out; omega))
          have FIN : Hid _ := HM.out.fin
          clear m9 HM HR8
          go_simp
          refine hK.out _ _ hSn (fun hB => ?_)
          clear hK K hB
          try simp only [Act.put, List.setIfInBounds_toArray, List.set_cons_zero, List.set_cons_succ]
          refine wpAnyH_take (i := 5) (oi := { dst := some 5, op := Op.assign (Operand.tmp 84), type := 3, pos := _, after := #[{ on := 3, ground := Ground.data }, { on := 4, ground := Ground.chain }, { on := 0, ground := Ground.phase }, { on := 1, ground := Ground.phase }, { on := 2, ground := Ground.phase }, { on := 3, ground := Ground.phase }, { on := 4, ground := Ground.phase }], guard := none }) (v := (.int .i64 (1 + sp))) rfl (by kernel_rfl) (by kernel_rfl) (by kernel_rfl) (fun _ _ _ h => h) (Or.inl ⟨by rfl, fun w' hS => by (try dsimp only at hS); go_simp⟩) hSn ?_
          simp only [Act.put, List.setIfInBounds_toArray, List.set_cons_zero, List.set_cons_succ]
          refine wpAnyH_done (by kernel_rfl) ?_ _
          refine NoPanic.normal ?_
          go_wp2
          exact bodyPost_ret (v := .tuple #[KV.val ⟨v.b, some ⟨gb, 0, none⟩, c7⟩ ⟨D.B, k0, consK (x : Int) sp sm (dropK q D.F), D.h⟩, .int .i64 (1 + sp)]) (by simp [results, Try.results86, go_sem, t0, t1, t2, t3]) rfl ⟨_, _, _, rfl, HWS.out, FIN.out⟩
        · have HMY : Hid (¬ hasMay sm y) := hm
          have d1 : (bits .and .i64 sm y != y) = true := by simp; exact hm
          clear hm
          go_upto_region 16 with fail
          clear s0 s1 s2 s3 e0 e1 d1
          have HWS : Hid (WSO D 1 (x : Int) g y ⟨D.B, k0, consK (x : Int) sp sm (dropK q D.F), D.h⟩ 0) := wlk_m HSP.out.1 HSP.out.2 hat HS0.out HK0.out (by show _ = _; rw [if_neg hq]) (Or.inr ⟨HMY.out, rfl⟩)
          obtain ⟨p0, p1, p2, p3⟩ := get4 HM.out.r2
          obtain ⟨t0, t1, t2, t3⟩ := get4 HM.out.r4
          have f0 := HM.out.r4.frozen 0
          have f1 := HM.out.r4.frozen 1
          have f2 := HM.out.r4.frozen 2
          have f3 := HM.out.r4.frozen 3
          have FIN : Hid _ := HM.out.fin
          clear HM HR8
          go_wp2
          exact bodyPost_ret (v := .tuple #[KV.val ⟨v.b, some ⟨gb, 0, none⟩, c7⟩ ⟨D.B, k0, consK (x : Int) sp sm (dropK q D.F), D.h⟩, .int .i64 0]) (by simp [results, Try.results86, go_sem, t0, t1, t2, t3]) rfl ⟨_, _, _, rfl, HWS.out, FIN.out⟩
      · go_simp
        refine (l7Drop_any v.a D.n v.q q D.F x _ _ (by omega) hat.2 (HM.out.blw HBD.out).hv.k).mono ?_
        rintro e x1 ⟨v6, rfl, hbf, hb⟩
        obtain ⟨a6, c6, rfl, -, -, hk6⟩ := Buf.ways hbf (by unfold cntK; split <;> omega)
        have HKD : Hid (KAt 3 (fun x => wd.heap.size ≤ x) x1 a6 (cntK q D.n) (dropK q D.F)) := hk6.at.mono (fun x hx => by have := HBD.out.size; omega)
        replace HBD : Hid (Blw wd x1) := HBD.out.trans hb
        clear hbf hk6 hb
        refine hK.out _ _ (cs1 (D := ⟨D.B, D.n, D.F, D.h⟩) (HM.out.blw HBD.out) (HR8.out.blw HBD.out)) (fun hB => ?_)
        clear hK K hB
        try simp only [Act.put, List.setIfInBounds_toArray, List.set_cons_zero, List.set_cons_succ]
        refine wpAnyH_ready (rs := [7]) (by kernel_rfl) (by simp) ?_
        refine AllReadyH.cons (o := { dst := some 59, op := Op.buildSlice 30 1 #[(0, Operand.tmp 58)], type := 30, pos := _, after := #[{ on := 6, ground := Ground.data }], guard := none }) rfl (fun K hK => ?_) AllReadyH.nil
        go_simp
        have hA : Blw x1 (x1.alloc (.cells #[.int .i64 x, .int .i64 sp, .int .i64 sm] 129)) := (Blw.refl _).alloc _
        have HBU : Hid (Buf 129 3 (fun b => b = x1.heap.size) (x1.alloc (.cells #[.int .i64 x, .int .i64 sp, .int .i64 sm] 129)) (.slice (some ⟨x1.heap.size, 0, none⟩) 1 1) 1 (kc 3 (fun _ c => if c = 0 then (x : Int) else if c = 1 then sp else sm))) := Buf.one3 _ _ _
        have HZN : Hid (wd.heap.size ≤ x1.heap.size) := HBD.out.size
        replace HBD : Hid (Blw wd (x1.alloc (.cells #[.int .i64 x, .int .i64 sp, .int .i64 sm] 129))) := HBD.out.trans hA
        replace HKD : Hid (KAt 3 (fun x => wd.heap.size ≤ x) (x1.alloc (.cells #[.int .i64 x, .int .i64 sp, .int .i64 sm] 129)) a6 (cntK q D.n) (dropK q D.F)) := HKD.out.blw hA
        clear hA
        generalize (x1.alloc (.cells #[.int .i64 x, .int .i64 sp, .int .i64 sm] 129)) = x2 at *
        refine hK.out _ _ (cs1 (D := ⟨D.B, D.n, D.F, D.h⟩) (HM.out.blw HBD.out) (HR8.out.blw HBD.out)) (fun hB => ?_)
        clear hK K hB
        try simp only [Act.put, List.setIfInBounds_toArray, List.set_cons_zero, List.set_cons_succ]
        refine wpAnyH_ready (rs := [13]) (by kernel_rfl) (by simp) ?_
        refine AllReadyH.cons (o := { dst := some 65, op := Op.call { callee := Callee.builtin Builtin.append, args := #[Operand.tmp 59, Operand.tmp 64], argTypes := #[30, 30] }, type := 30, pos := _, after := #[{ on := 7, ground := Ground.data }, { on := 12, ground := Ground.data }, { on := 12, ground := Ground.chain }], guard := none }) rfl (fun K hK => ?_) AllReadyH.nil
        obtain ⟨a7, c7, W13, hrun, hk7, hr7, hc7, hm7⟩ := consS (q := c6) (x : Int) sp sm HBU.out HKD.out (by unfold cntK; split <;> omega)
        have HRN : Hid _ := hrun
        have HK7 : Hid (KAt 3 (fun x => (x < W13.heap.size ∧ x ≠ w.heap.size ∧ x ≠ zr) ∧ (lo ≤ x ∧ x ≠ zx)) W13 a7 (1 + cntK q D.n) (consK (x : Int) sp sm (dropK q D.F))) := hk7.mono (fun x hx => by have := HZN.out; have := HBD.out.size; have := HM.out.r2.lt; have := HM.out.r4.lt; have := HM.out.hb.size; have := HM.out.l0; omega)
        have HR7 : Hid (Room a7 (1 + cntK q D.n) c7 ∧ c7 ≤ 9223372036854775807) := ⟨hr7, hc7⟩
        replace HBD : Hid (Blw wd W13) := Mod.blw HBD.out hm7 (fun i hi => by have := HZN.out; omega)
        clear hrun hk7 hr7 hc7 hm7 HBU HKD HZN
        refine step_app (.tmp 59) (.tmp 64) 30 (by rfl) ?_
        refine ⟨_, _, HRN.out, ?_⟩
        refine hK.out _ _ (cs1 (D := ⟨D.B, D.n, D.F, D.h⟩) (HM.out.blw HBD.out) (HR8.out.blw HBD.out)) (fun hB => ?_)
        clear hK K hB
        try simp only [Act.put, List.setIfInBounds_toArray, List.set_cons_zero, List.set_cons_succ]
        refine wpAnyH_take (i := 14) (oi := { dst := some 10, op := Op.assign (Operand.tmp 65), type := 30, pos := _, after := #[{ on := 13, ground := Ground.data }, { on := 13, ground := Ground.chain }, { on := 0, ground := Ground.phase }, { on := 1, ground := Ground.phase }, { on := 2, ground := Ground.phase }, { on := 3, ground := Ground.phase }, { on := 4, ground := Ground.phase }, { on := 5, ground := Ground.phase }, { on := 6, ground := Ground.phase }, { on := 7, ground := Ground.phase }, { on := 8, ground := Ground.phase }, { on := 9, ground := Ground.phase }, { on := 10, ground := Ground.phase }, { on := 11, ground := Ground.phase }, { on := 12, ground := Ground.phase }, { on := 13, ground := Ground.phase }], guard := none }) (v := (.slice a7 (1 + cntK q D.n) c7)) rfl (by kernel_rfl) (by kernel_rfl) (by kernel_rfl) (fun _ _ _ h => h) (Or.inl ⟨by rfl, fun w' hS => by (try dsimp only at hS); go_simp⟩) (cs1 (D := ⟨D.B, D.n, D.F, D.h⟩) (HM.out.blw HBD.out) (HR8.out.blw HBD.out)) ?_
        simp only [Act.put, List.setIfInBounds_toArray, List.set_cons_zero, List.set_cons_succ]
        refine wpAnyH_done (by kernel_rfl) ?_ _
        refine NoPanic.normal ?_
        replace HM : Hid (MS lo zx 1 x g y w W13 w.heap.size zs zr v ⟨D.B, D.n, D.F, D.h⟩) := HM.out.blw HBD.out
        replace HR8 : Hid (Row W13 z8 2 (fun i => if i = 0 then .int .i64 sp else .int .i64 sm)) := HR8.out.blw HBD.out
        clear HBD HRN
        obtain ⟨gb, rfl, hcap⟩ : ∃ gb, a7 = some ⟨gb, 0, none⟩ ∧ 1 + cntK q D.n ≤ c7 := by
          rcases HR7.out.1 with ⟨-, e, -⟩ | ⟨gb, e, e2⟩
          · omega
          · exact ⟨gb, e, e2⟩
        obtain ⟨k0, hk0⟩ : ∃ k0 : Nat, k0 = min (1 + cntK q D.n) 4 := ⟨_, rfl⟩
        have HK0 : Hid (k0 = min (1 + cntK q D.n) 4) := hk0
        have hkc : (k0 : Int) ≤ (c7 : Int) := by omega
        have hkz : (0 : Int) ≤ (k0 : Int) := by omega
        have hc9 := HR7.out.2
        go_wp2_with fail
        refine (least_any _ _ (k0 : Int) _ (by omega)).mono ?_
        rintro e w8 ⟨rfl, hw⟩
        replace hw := hw.symm
        subst hw
        have HKF : Hid (KAt 3 (fun x => (x < W13.heap.size ∧ x ≠ w.heap.size ∧ x ≠ zr) ∧ (lo ≤ x ∧ x ≠ zx)) W13 (some ⟨gb, 0, none⟩) k0 (consK (x : Int) sp sm (dropK q D.F))) := ⟨by omega, fun i hi => HK7.out.2 i (by omega)⟩
        clear hk0 HK7
        obtain ⟨-, -, p2, -⟩ := get4 HM.out.r2
        have f2 := HM.out.r2.frozen 2
        replace HM : Hid (MS lo zx 1 x g y w (W13.setCell ⟨w.heap.size, 2, none⟩ (.slice (some ⟨gb, 0, none⟩) k0 c7)) w.heap.size zs zr ⟨v.b, some ⟨gb, 0, none⟩, c7⟩ ⟨D.B, k0, consK (x : Int) sp sm (dropK q D.F), D.h⟩) := HM.out.list HKF.out
        have h8 : Row (W13.setCell ⟨w.heap.size, 2, none⟩ (.slice (some ⟨gb, 0, none⟩) k0 c7)) z8 2 (fun i => if i = 0 then .int .i64 sp else .int .i64 sm) := HR8.out.mod (set1_mod W13 w.heap.size 2 _) (by have := HZ8.out; omega)
        clear HR8
        have HR8 : Hid (Row (W13.setCell ⟨w.heap.size, 2, none⟩ (.slice (some ⟨gb, 0, none⟩) k0 c7)) z8 2 (fun i => if i = 0 then .int .i64 sp else .int .i64 sm)) := h8
        clear h8 HKF
        go_upto_region 15 with fail
        clear p2 f2 hkc hkz hc9 hcap HR7
        generalize (W13.setCell ⟨w.heap.size, 2, none⟩ (.slice (some ⟨gb, 0, none⟩) k0 c7)) = W14 at *
        obtain ⟨s0, s1, s2, s3⟩ := get4 HM.out.rs
        obtain ⟨e0, e1⟩ := get2 HR8.out
        by_cases hm : hasMay sm y
        · have HMY : Hid (hasMay sm y) := hm
          have d1 : (bits .and .i64 sm y != y) = false := by rw [show bits .and .i64 sm y = y from hm]; simp
          clear hm
          go_upto_region 17 with fail
          clear s0 s1 s2 s3 e0 e1 d1
          replace HM : Hid (MS lo zx 1 x g y w W14.drew w.heap.size zs zr ⟨v.b, some ⟨gb, 0, none⟩, c7⟩ ⟨D.B, k0, consK (x : Int) sp sm (dropK q D.F), D.h⟩) := HM.out.blw (Blw.refl _).drew
          replace HR8 : Hid (Row W14.drew z8 2 (fun i => if i = 0 then .int .i64 sp else .int .i64 sm)) := HR8.out.blw (Blw.refl _).drew
          have HWS : Hid (WSO D 1 (x : Int) g y ⟨D.B, k0, consK (x : Int) sp sm (dropK q D.F), D.h⟩ (1 + sp)) := wlk_m HSP.out.1 HSP.out.2 hat HS0.out HK0.out (by show _ = _; rw [if_neg hq]) (Or.inl ⟨HMY.out, rfl⟩)
          refine wp_region_noPanic ?_
          refine wp_region_held_drew (S := (fun w' => w'.cell? ⟨w.heap.size, 0, none⟩ = some (.slice v.b.a1 D.B.n v.b.c1) ∧ w'.cell? ⟨w.heap.size, 1, none⟩ = some (.slice v.b.a2 D.B.D.n v.b.c2) ∧ w'.cell? ⟨w.heap.size, 2, none⟩ = some (.slice (some ⟨gb, 0, none⟩) k0 c7) ∧ w'.cell? ⟨w.heap.size, 3, none⟩ = some (.int .i64 (D.h)) ∧ w'.cell? ⟨z8, 0, none⟩ = some (.int .i64 sp))) (by kernel_rfl) (cs2 HM.out.r2 HR8.out) (fun hB => ?_)
          clear hB
          generalize W14.drew = wd at *
          refine wpAnyH_take (i := 0) (oi := { dst := some 81, op := Op.load 32 (Operand.tmp 2), type := 32, pos := _, after := #[], guard := none }) (v := (.agg #[.slice v.b.a1 D.B.n v.b.c1, .slice v.b.a2 D.B.D.n v.b.c2, .slice (some ⟨gb, 0, none⟩) k0 c7, .int .i64 (D.h)])) rfl (by kernel_rfl) (by kernel_rfl) (by kernel_rfl) (fun _ _ _ h => h) (Or.inl ⟨by rfl, fun w' hS => by (try dsimp only at hS); go_simp⟩) (cs2 HM.out.r2 HR8.out) ?_
          simp only [Act.put, List.setIfInBounds_toArray, List.set_cons_zero, List.set_cons_succ]
          refine wpAnyH_take (i := 1) (oi := { dst := some 82, op := Op.fieldAddr 189 (Operand.tmp 8) 0, type := 0, pos := _, after := #[{ on := 4, ground := Ground.gcOnly Departure.lateStores }], guard := none }) (v := (.pointer (some ⟨z8, 0, none⟩))) rfl (by kernel_rfl) (by kernel_rfl) (by kernel_rfl) (fun _ _ _ h => h) (Or.inl ⟨by rfl, fun w' hS => by (try dsimp only at hS); go_simp⟩) (cs2 HM.out.r2 HR8.out) ?_
          simp only [Act.put, List.setIfInBounds_toArray, List.set_cons_zero, List.set_cons_succ]
          refine wpAnyH_take (i := 2) (oi := { dst := some 83, op := Op.load 3 (Operand.tmp 82), type := 3, pos := _, after := #[{ on := 1, ground := Ground.data }, { on := 4, ground := Ground.gcOnly Departure.lateStores }], guard := none }) (v := (.int .i64 sp)) rfl (by kernel_rfl) (by kernel_rfl) (by kernel_rfl) (fun _ _ _ h => h) (Or.inl ⟨by rfl, fun w' hS => by (try dsimp only at hS); go_simp⟩) (cs2 HM.out.r2 HR8.out) ?_
          simp only [Act.put, List.setIfInBounds_toArray, List.set_cons_zero, List.set_cons_succ]
          refine wpAnyH_take (i := 3) (oi := { dst := some 84, op := Op.binOp BinOp.add 3 (Operand.const (Value.int IntKind.i64 1)) (Operand.tmp 83) 3, type := 3, pos := _, after := #[{ on := 2, ground := Ground.data }, { on := 4, ground := Ground.gcOnly Departure.lateStores }], guard := none }) (v := (.int .i64 (1 + sp))) rfl (by kernel_rfl) (by kernel_rfl) (by kernel_rfl) (fun _ _ _ h => h) (Or.inl ⟨by rfl, fun w' hS => by (try dsimp only at hS); go_simp⟩) (cs2 HM.out.r2 HR8.out) ?_
          simp only [Act.put, List.setIfInBounds_toArray, List.set_cons_zero, List.set_cons_succ]
          refine wpAnyH_ready (rs := [4]) (by kernel_rfl) (by simp) ?_
          refine AllReadyH.cons (o := { dst := none, op := Op.store 32 (Operand.tmp 4) (Operand.tmp 81), type := 0, pos := _, after := #[{ on := 0, ground := Ground.data }, { on := 0, ground := Ground.phase }, { on := 1, ground := Ground.textOnly Departure.lateStores }, { on := 2, ground := Ground.textOnly Departure.lateStores }, { on := 3, ground := Ground.textOnly Departure.lateStores }], guard := none }) rfl (fun K hK => ?_) AllReadyH.nil
          obtain ⟨t0, t1, t2, t3⟩ := get4 HM.out.r4
          have f0 := HM.out.r4.frozen 0
          have f1 := HM.out.r4.frozen 1
          have f2 := HM.out.r4.frozen 2
          have f3 := HM.out.r4.frozen 3
          have m9 := set4_mod (w := wd) (z := zr) (.slice v.b.a1 D.B.n v.b.c1) (.slice v.b.a2 D.B.D.n v.b.c2) (.slice (some ⟨gb, 0, none⟩) k0 c7) (.int .i64 (D.h))
          have hSn := cs2 (v := ⟨v.b, some ⟨gb, 0, none⟩, c7⟩) (D := ⟨D.B, k0, consK (x : Int) sp sm (dropK q D.F), D.h⟩) (HM.out.r2.mod m9 (by have := HM.out.od; omega)) (HR8.out.mod m9 (by have := HZ8.out; omega))
          have FIN : Hid _ := HM.out.fin
          clear m9 HM HR8
          go_simp
          refine hK.out _ _ hSn (fun hB => ?_)
          clear hK K hB
          try simp only [Act.put, List.setIfInBounds_toArray, List.set_cons_zero, List.set_cons_succ]
          refine wpAnyH_take (i := 5) (oi := { dst := some 5, op := Op.assign (Operand.tmp 84), type := 3, pos := _, after := #[{ on := 3, ground := Ground.data }, { on := 4, ground := Ground.chain }, { on := 0, ground := Ground.phase }, { on := 1, ground := Ground.phase }, { on := 2, ground := Ground.phase }, { on := 3, ground := Ground.phase }, { on := 4, ground := Ground.phase }], guard := none }) (v := (.int .i64 (1 + sp))) rfl (by kernel_rfl) (by kernel_rfl) (by kernel_rfl) (fun _ _ _ h => h) (Or.inl ⟨by rfl, fun w' hS => by (try dsimp only at hS); go_simp⟩) hSn ?_
          simp only [Act.put, List.setIfInBounds_toArray, List.set_cons_zero, List.set_cons_succ]
          refine wpAnyH_done (by kernel_rfl) ?_ _
          refine NoPanic.normal ?_
          go_wp2
          exact bodyPost_ret (v := .tuple #[KV.val ⟨v.b, some ⟨gb, 0, none⟩, c7⟩ ⟨D.B, k0, consK (x : Int) sp sm (dropK q D.F), D.h⟩, .int .i64 (1 + sp)]) (by simp [results, Try.results86, go_sem, t0, t1, t2, t3]) rfl ⟨_, _, _, rfl, HWS.out, FIN.out⟩
        · have HMY : Hid (¬ hasMay sm y) := hm
          have d1 : (bits .and .i64 sm y != y) = true := by simp; exact hm
          clear hm
          go_upto_region 16 with fail
          clear s0 s1 s2 s3 e0 e1 d1
          have HWS : Hid (WSO D 1 (x : Int) g y ⟨D.B, k0, consK (x : Int) sp sm (dropK q D.F), D.h⟩ 0) := wlk_m HSP.out.1 HSP.out.2 hat HS0.out HK0.out (by show _ = _; rw [if_neg hq]) (Or.inr ⟨HMY.out, rfl⟩)
          obtain ⟨p0, p1, p2, p3⟩ := get4 HM.out.r2
          obtain ⟨t0, t1, t2, t3⟩ := get4 HM.out.r4
          have f0 := HM.out.r4.frozen 0
          have f1 := HM.out.r4.frozen 1
          have f2 := HM.out.r4.frozen 2
          have f3 := HM.out.r4.frozen 3
          have FIN : Hid _ := HM.out.fin
          clear HM HR8
          go_wp2
          exact bodyPost_ret (v := .tuple #[KV.val ⟨v.b, some ⟨gb, 0, none⟩, c7⟩ ⟨D.B, k0, consK (x : Int) sp sm (dropK q D.F), D.h⟩, .int .i64 0]) (by simp [results, Try.results86, go_sem, t0, t1, t2, t3]) rfl ⟨_, _, _, rfl, HWS.out, FIN.out⟩
theorem l7Step_any (lo zx : Nat) (v : KV) (D : KD) (k a g y : Int) (Y : Nat → Prop) (w : World) (hr : rightS k a g y) (hG : WG D) (hY : ∀ x, Y x → (lo ≤ x ∧ x ≠ zx) ∧ x < w.heap.size) (hlo : (lo ≤ w.heap.size ∧ zx < w.heap.size)) (h : WkAt Y w v D) :
    Calls Try.prog 86 #[v.val D, .agg #[.int .i64 k, .int .i64 a, .int .i64 g, .int .i64 y]] w fun e w' => ∃ v' R x, e = .returned (.tuple #[KV.val v' R, .int .i64 x]) ∧ WSO D k a g y R x ∧ WkAt (fun x => (lo ≤ x ∧ x ≠ zx) ∧ x < w'.heap.size) w' v' R ∧ Blw w w' := by
  by_cases hk : k = 1
  · subst hk
    obtain ⟨x, rfl, hx⟩ := pg_nat' hr.1
    exact l7Step_walk lo zx v D x g y Y w _ _ rfl rfl hr hG hY hlo h
  · exact l7Step_chg lo zx v D k a g y Y w hr hk hG hY hlo h
end Go.Proofs.Ytbpdopcdhnemfaa
/- PlayWalker, the model's. -/
namespace Go.Proofs.Ytbpdopcdhnemfaa
open Go.RowKit
set_option linter.unusedSimpArgs false
set_option linter.unusedVariables false

def GivesWA (out : KD → Nat → (Nat → Int) → Bool → Prop) (w : World) : Ending → World → Prop := fun e w' =>
  ∃ (v : KV) (D : KD) (u : Option Addr) (m q : Nat) (g : Nat → Int) (r : Bool), e = .returned (.tuple #[v.val D, .slice u m q, .bool r]) ∧ out D m g r ∧ (D.small ∧ m ≤ 1048576) ∧ WkAt (fun x => x < w'.heap.size) w' v D ∧ IntsAt (fun x => x < w'.heap.size) w' u m g ∧ Blw w w'
theorem GivesW.weak {out : KD → Nat → (Nat → Int) → Bool → Prop} {w w' : World} {e : Ending} (h : GivesW out w e w') : GivesWA out w e w' := by
  obtain ⟨v, D, u, m, q, g, r, he, ho, hs, ⟨X1, X2, h1, h2, hw, hi⟩, hb⟩ := h
  exact ⟨v, D, u, m, q, g, r, he, ho, hs, hw.at.mono (fun x hx => (h1 x hx).2), hi.at.mono (fun x hx => (h2 x hx).1.2), hb⟩
/-- A walker in a box at zt, an answer's box at w's end, and a list u of answers that grows, all behind w. -/
structure GW (w wr : World) (zt : Nat) (v : KV) (D : KD) (u : Value) (n : Nat) (f : Nat → Int) : Prop where
  box : Row wr zt 4 (kb v D)
  r0 : Row wr w.heap.size 4 (fun i => if i = 0 then .slice none 0 0 else if i = 1 then .slice none 0 0 else if i = 2 then .slice none 0 0 else .int .i64 0)
  at_ : WkAt (fun x => (¬ u.ownBlock = some x ∧ x < wr.heap.size ∧ x ≠ zt) ∧ w.heap.size < x) wr v D
  buf : BufI (fun x => (w.heap.size < x ∧ x < wr.heap.size) ∧ x ≠ zt) wr u n f
  blw : Blw w wr
  od : w.heap.size < zt
  g : WG D
theorem GW.go {w wr w' : World} {zt : Nat} {v : KV} {D : KD} {u : Value} {n : Nat} {f : Nat → Int} (h : GW w wr zt v D u n f) (hb : Blw wr w') : GW w w' zt v D u n f :=
  ⟨h.box.blw hb, h.r0.blw hb, (h.at_.blw hb).mono (fun x hx => ⟨⟨hx.1.1, Nat.lt_of_lt_of_le hx.1.2.1 hb.size, hx.1.2.2⟩, hx.2⟩), (Buf.blw h.buf hb).mono (fun x hx => ⟨⟨hx.1.1, Nat.lt_of_lt_of_le hx.1.2 hb.size⟩, hx.2⟩), h.blw.trans hb, h.od, h.g⟩
theorem GW.push {w wr : World} {zt : Nat} {v : KV} {D : KD} {u : Value} {n : Nat} {f : Nat → Int} (h : GW w wr zt v D u n f) (hn : n ≤ 1048576) (x : Int) :
    ∃ ao' cap w', (Builtin.append_ #[26, 26] 26 #[u, .slice (some ⟨wr.heap.size, 0, none⟩) 1 1]).run Try.prog (wr.alloc (.cells #[.int .i64 x] 3)) = .ok (.slice ao' (n + 1) cap) w' ∧ GW w w' zt v D (.slice ao' (n + 1) cap) (n + 1) (fun i => if i = n then x else f i) := by
  have hX : BufI (fun x => u.ownBlock = some x) wr u n f := ⟨h.buf.1, fun g hg => hg⟩
  obtain ⟨a, cap, w', h1, h2, h3⟩ := pushI hX hn x
  have hs := h.blw.size
  have hs3 := h3.size
  have hzt := h.box.lt
  have hr0 := h.r0.lt
  have hod := h.od
  have hx : ∀ b, u.ownBlock = some b → (w.heap.size < b ∧ b < wr.heap.size) ∧ b ≠ zt := fun b hb => h.buf.2 b hb
  refine ⟨a, cap, w', h1, ⟨h.box.mod h3 (fun e => (hx _ e).2 rfl), h.r0.mod h3 (fun e => by have := (hx _ e).1.1; omega), (h.at_.mod h3 (fun x hx e => hx.1.1 e)).mono (fun x hx2 => ⟨⟨fun e => ?_, by have := hx2.1.2.1; omega, hx2.1.2.2⟩, hx2.2⟩), (Buf.congr (Buf.mono h2 (fun b hb => ?_)) (fun i hi => ?_)), Mod.blw h.blw h3 (fun b hb => by have := (hx b hb).1.1; omega), hod, h.g⟩⟩
  · rcases (h2.2 x e).1 with q | q
    · exact hx2.1.1 q
    · have := hx2.1.2.1; omega
  · rcases hb.1 with q | q
    · have := hx b q; exact ⟨⟨this.1.1, hb.2⟩, this.2⟩
    · exact ⟨⟨by omega, hb.2⟩, by omega⟩
  · simp only [ic, snoc', Nat.mul_one] at *
theorem GW.put {w W : World} {zt lo : Nat} {v v2 : KV} {D R : KD} {u : Value} {n : Nat} {f : Nat → Int} (h : GW w W zt v D u n f) (hW : WkAt (fun x => lo ≤ x ∧ x < W.heap.size) W v2 R) (hlo : zt < lo) (hu : ∀ x, u.ownBlock = some x → x < lo) (hg : WG R) :
    GW w ((((W.setCell ⟨zt, 0, none⟩ (.slice v2.b.a1 R.B.n v2.b.c1)).setCell ⟨zt, 1, none⟩ (.slice v2.b.a2 R.B.D.n v2.b.c2)).setCell ⟨zt, 2, none⟩ (.slice v2.a R.n v2.q)).setCell ⟨zt, 3, none⟩ (.int .i64 R.h)) zt v2 R u n f := by
  have m := set4_mod (w := W) (z := zt) (.slice v2.b.a1 R.B.n v2.b.c1) (.slice v2.b.a2 R.B.D.n v2.b.c2) (.slice v2.a R.n v2.q) (.int .i64 R.h)
  have hs := m.size
  have hod := h.od
  exact ⟨row4_set h.box, h.r0.mod m (by omega), (hW.mod m (fun x hx e => by omega)).mono (fun x hx => ⟨⟨fun e => by have := hu x e; omega, by omega, by omega⟩, by omega⟩), (Buf.mod h.buf m (fun x hx e => hx.2 e)).mono (fun x hx => ⟨⟨hx.1.1, by omega⟩, hx.2⟩), Mod.blw h.blw m (fun x hx => by omega), hod, hg⟩
theorem cx8 {W : World} {x0 x1 x2 x3 : Int} {zt zs : Nat} {v : KV} {D : KD} (h : Row W zt 4 (kb v D)) (hs : Row W zs 4 (fun i => if i = 0 then .int .i64 x0 else if i = 1 then .int .i64 x1 else if i = 2 then .int .i64 x2 else .int .i64 x3)) : W.cell? ⟨zt, 0, none⟩ = some (.slice v.b.a1 D.B.n v.b.c1) ∧ W.cell? ⟨zt, 1, none⟩ = some (.slice v.b.a2 D.B.D.n v.b.c2) ∧ W.cell? ⟨zt, 2, none⟩ = some (.slice v.a D.n v.q) ∧ W.cell? ⟨zt, 3, none⟩ = some (.int .i64 D.h) ∧ W.cell? ⟨zs, 0, none⟩ = some (.int .i64 x0) ∧ W.cell? ⟨zs, 1, none⟩ = some (.int .i64 x1) ∧ W.cell? ⟨zs, 2, none⟩ = some (.int .i64 x2) ∧ W.cell? ⟨zs, 3, none⟩ = some (.int .i64 x3) :=
  ⟨(get4 h).1, (get4 h).2.1, (get4 h).2.2.1, (get4 h).2.2.2, get4 hs⟩
set_option maxRecDepth 10000 in
set_option maxHeartbeats 12800000 in
theorem specPW_any (k0 : Int) (ao : Option Addr) (n c : Nat) (F : Nat → Nat → Int) (w : World) (hn : n ≤ 1048576) (hl : KAt 4 (fun x => x < w.heap.size) w ao n F) :
    Calls Try.prog 17 #[.int .i64 k0, .slice ao n c] w (GivesWA (pwO k0 n F) w) := by
  have hA0 : Blw w (w.alloc (.cells #[.slice none 0 0, .slice none 0 0, .slice none 0 0, .int .i64 0] 32)) := (Blw.refl _).alloc _
  have HR0 : Hid (Row (w.alloc (.cells #[.slice none 0 0, .slice none 0 0, .slice none 0 0, .int .i64 0] 32)) w.heap.size 4 (fun i => if i = 0 then .slice none 0 0 else if i = 1 then .slice none 0 0 else if i = 2 then .slice none 0 0 else .int .i64 0)) := box4 w _ _ _ _ 32
  have HB : Hid (Blw w (w.alloc (.cells #[.slice none 0 0, .slice none 0 0, .slice none 0 0, .int .i64 0] 32))) := hA0
  have HZ0 : Hid (w.heap.size + 1 = (w.alloc (.cells #[.slice none 0 0, .slice none 0 0, .slice none 0 0, .int .i64 0] 32)).heap.size) := by show _ = _; simp
  have HL : Hid (KAt 4 (fun x => x < w.heap.size) w ao n F) := hl
  clear hl hA0
  go_enter Try.func17, Try.ntmps17
  go_wp2_with fail
  generalize (w.alloc (.cells #[.slice none 0 0, .slice none 0 0, .slice none 0 0, .int .i64 0] 32)) = W0 at *
  refine (specNew_any k0 _).mono ?_
  rintro e w1 ⟨bq, Rq, r, rfl, ho, hs, own, hb1⟩
  have HO : Hid (resT (cntOK k0) (newB k0) Rq r) := ho
  have hA : Blw w1 (w1.alloc (.cells #[.slice bq.a1 Rq.n bq.c1, .slice bq.a2 Rq.D.n bq.c2] 29)) := (Blw.refl _).alloc _
  replace HR0 : Hid (Row (w1.alloc (.cells #[.slice bq.a1 Rq.n bq.c1, .slice bq.a2 Rq.D.n bq.c2] 29)) w.heap.size 4 (fun i => if i = 0 then .slice none 0 0 else if i = 1 then .slice none 0 0 else if i = 2 then .slice none 0 0 else .int .i64 0)) := HR0.out.blw (hb1.trans hA)
  have HLT : Hid (w.heap.size < w1.heap.size) := by have := hb1.size; have := HZ0.out; show _ < _; omega
  have HOW : Hid (BookAt (fun x => w.heap.size < x ∧ x < w1.heap.size) (w1.alloc (.cells #[.slice bq.a1 Rq.n bq.c1, .slice bq.a2 Rq.D.n bq.c2] 29)) bq Rq) := (own.at.blw hA).mono (fun x hx => by have := HZ0.out; omega)
  replace HB : Hid (Blw w (w1.alloc (.cells #[.slice bq.a1 Rq.n bq.c1, .slice bq.a2 Rq.D.n bq.c2] 29))) := HB.out.trans (hb1.trans hA)
  clear ho hs own hb1 hA HZ0
  cases r
  · have HN : Hid (¬ (cntOK k0 ∧ n ≤ 60)) := HO.out.elim (fun g => by cases g.2.2) (fun g q => g.1 q.1)
    clear HO HL HOW HLT
    go_upto_region 3 with fail
    generalize (w1.alloc (.cells #[.slice bq.a1 Rq.n bq.c1, .slice bq.a2 Rq.D.n bq.c2] 29)) = W1 at *
    have HF : Hid (Blw w ((((W1.setCell ⟨w.heap.size, 0, none⟩ (.slice none 0 0)).setCell ⟨w.heap.size, 1, none⟩ (.slice none 0 0)).setCell ⟨w.heap.size, 2, none⟩ (.slice none 0 0)).setCell ⟨w.heap.size, 3, none⟩ (.int .i64 0))) := Mod.blw HB.out (set4_mod _ _ _ _) (fun i hi => by omega)
    obtain ⟨t0, t1, t2, t3⟩ := get4 HR0.out
    have f0 := HR0.out.frozen 0
    have f1 := HR0.out.frozen 1
    have f2 := HR0.out.frozen 2
    have f3 := HR0.out.frozen 3
    have FIN : Hid (GivesWA (pwO k0 n F) w _ _) := (zero_givesW (out := pwO k0 n F) (Or.inr ⟨HN.out, rfl, rfl, rfl⟩) HF.out).weak
    clear HF HB HN HR0
    go_wp2
    exact bodyPost_ret (v := .tuple #[KV.zero.val KD.zero, .slice none 0 0, .bool false]) (by simp [results, Try.results17, go_sem, t0, t1, t2, t3]) rfl FIN.out
  by_cases hle : n ≤ 60
  case neg =>
    have hle' : (n : Int) > 60 := by omega
    have HN : Hid (¬ (cntOK k0 ∧ n ≤ 60)) := fun q => hle q.2
    clear HO HL HOW HLT
    go_upto_region 3 with fail
    generalize (w1.alloc (.cells #[.slice bq.a1 Rq.n bq.c1, .slice bq.a2 Rq.D.n bq.c2] 29)) = W1 at *
    have HF : Hid (Blw w ((((W1.setCell ⟨w.heap.size, 0, none⟩ (.slice none 0 0)).setCell ⟨w.heap.size, 1, none⟩ (.slice none 0 0)).setCell ⟨w.heap.size, 2, none⟩ (.slice none 0 0)).setCell ⟨w.heap.size, 3, none⟩ (.int .i64 0))) := Mod.blw HB.out (set4_mod _ _ _ _) (fun i hi => by omega)
    obtain ⟨t0, t1, t2, t3⟩ := get4 HR0.out
    have f0 := HR0.out.frozen 0
    have f1 := HR0.out.frozen 1
    have f2 := HR0.out.frozen 2
    have f3 := HR0.out.frozen 3
    have FIN : Hid (GivesWA (pwO k0 n F) w _ _) := (zero_givesW (out := pwO k0 n F) (Or.inr ⟨HN.out, rfl, rfl, rfl⟩) HF.out).weak
    clear HF HB HN HR0
    go_wp2
    exact bodyPost_ret (v := .tuple #[KV.zero.val KD.zero, .slice none 0 0, .bool false]) (by simp [results, Try.results17, go_sem, t0, t1, t2, t3]) rfl FIN.out
  have hle' : ¬ (n : Int) > 60 := by omega
  have HY : Hid ((cntOK k0 ∧ n ≤ 60) ∧ Rq = newB k0) := HO.out.elim (fun g => ⟨⟨g.1, hle⟩, g.2.1⟩) (fun g => by cases g.2.2)
  clear HO
  have hA : Blw (w1.alloc (.cells #[.slice bq.a1 Rq.n bq.c1, .slice bq.a2 Rq.D.n bq.c2] 29)) ((w1.alloc (.cells #[.slice bq.a1 Rq.n bq.c1, .slice bq.a2 Rq.D.n bq.c2] 29)).alloc (.cells #[.slice bq.a1 Rq.n bq.c1, .slice bq.a2 Rq.D.n bq.c2, .slice none 0 0, .int .i64 0] 32)) := (Blw.refl _).alloc _
  have r4 := box4 (w1.alloc (.cells #[.slice bq.a1 Rq.n bq.c1, .slice bq.a2 Rq.D.n bq.c2] 29)) (.slice bq.a1 Rq.n bq.c1) (.slice bq.a2 Rq.D.n bq.c2) (.slice none 0 0) (.int .i64 0) 32
  rw [World.size_alloc] at r4
  have HG : Hid (GW w ((w1.alloc (.cells #[.slice bq.a1 Rq.n bq.c1, .slice bq.a2 Rq.D.n bq.c2] 29)).alloc (.cells #[.slice bq.a1 Rq.n bq.c1, .slice bq.a2 Rq.D.n bq.c2, .slice none 0 0, .int .i64 0] 32)) (w1.heap.size + 1) ⟨bq, none, 0⟩ (newK k0) (.slice none 0 0) 0 (fun _ => 0)) := by
    obtain ⟨hck, rfl⟩ := HY.out
    have hlt := HLT.out
    exact ⟨r4, HR0.out.blw hA, ⟨(HOW.out.blw hA).mono (fun x hx => ⟨⟨by simp [Value.ownBlock], by simp only [World.size_alloc]; omega, by omega⟩, by omega⟩), ⟨by show 0 ≤ _; omega, fun i hi => absurd hi (Nat.not_lt_zero _)⟩⟩, Buf.nil _ _ _ _ _, HB.out.trans hA, by omega, newK_good hck.1⟩
  clear r4 HOW HB HR0 HLT hA
  go_upto_region 6 with fail
  clear hle'
  generalize ((w1.alloc (.cells #[.slice bq.a1 Rq.n bq.c1, .slice bq.a2 Rq.D.n bq.c2] 29)).alloc (.cells #[.slice bq.a1 Rq.n bq.c1, .slice bq.a2 Rq.D.n bq.c2, .slice none 0 0, .int .i64 0] 32)) = W at *
  generalize w1.heap.size + 1 = zt at *
  go_wp2_with fail
  go_loopw [10, 32] (fun u i wr => ∃ j : Nat, j ≤ n ∧ i = .int .i64 j ∧ ∃ Ds A v D, WPlays (newK k0) F j Ds A ∧ Ds j = D ∧ GW w wr zt v D u j A) (fun _ i _ => n - (intOf i).toNat)
  case atStart => exact ⟨0, Nat.zero_le _, rfl, fun _ => newK k0, fun _ => 0, _, _, ⟨rfl, fun i hi => absurd hi (Nat.not_lt_zero _)⟩, rfl, HG.out⟩
  case round =>
    clear HG
    obtain ⟨j, hj, rfl, Ds, A, v, D, hP, hD, hG⟩ := hrel
    generalize u10 = u at *
    have HP : Hid (WPlays (newK k0) F j Ds A ∧ Ds j = D) := ⟨hP, hD⟩
    have HG : Hid (GW w wr zt v D u j A) := hG
    clear hP hG hD
    by_cases hlt : j < n
    · have hlt' : (j : Int) < (n : Int) := by omega
      have HNX : Hid (∀ (R : KD) (x : Int), WSF D (F j 0) (F j 1) (F j 2) (F j 3) R x → WPlays (newK k0) F (j + 1) (fun i => if i = j + 1 then R else Ds i) (fun i => if i = j then x else A i)) := fun R x h1 => HP.out.1.next (by rw [HP.out.2]; exact h1)
      obtain ⟨bl, o, rfl, -, g⟩ := (HL.out.blw HG.out.blw).2 j hlt
      have g0 := g 0 (by omega)
      have g1 := g 1 (by omega)
      have g2 := g 2 (by omega)
      have g3 := g 3 (by omega)
      rw [Nat.add_zero] at g0
      clear g HP
      generalize F j 0 = x0 at *
      generalize F j 1 = x1 at *
      generalize F j 2 = x2 at *
      generalize F j 3 = x3 at *
      have hA2 : Blw wr (wr.alloc (.cells #[.int .i64 x0, .int .i64 x1, .int .i64 x2, .int .i64 x3] 42)) := (Blw.refl _).alloc _
      replace HG : Hid (GW w (wr.alloc (.cells #[.int .i64 x0, .int .i64 x1, .int .i64 x2, .int .i64 x3] 42)) zt v D u j A) := HG.out.go hA2
      have HS : Hid (Row (wr.alloc (.cells #[.int .i64 x0, .int .i64 x1, .int .i64 x2, .int .i64 x3] 42)) wr.heap.size 4 (fun i => if i = 0 then .int .i64 x0 else if i = 1 then .int .i64 x1 else if i = 2 then .int .i64 x2 else .int .i64 x3)) := box4 wr _ _ _ _ 42
      clear hA2
      obtain ⟨s0, s1, s2, s3⟩ := get4 HS.out
      go_wp2_with fail
      clear g0 g1 g2 g3 s0 s1 s2 s3
      generalize wr.alloc (.cells #[.int .i64 x0, .int .i64 x1, .int .i64 x2, .int .i64 x3] 42) = wp at *
      generalize wr.heap.size = zs at *
      refine (l7Right_any x0 x1 x2 x3 _).mono ?_
      rintro e w2 ⟨r, rfl, hr, hb2⟩
      have HR : Hid (r = true ↔ rightS x0 x1 x2 x3) := hr
      replace HG : Hid (GW w w2 zt v D u j A) := HG.out.go hb2
      replace HS : Hid (Row w2 zs 4 (fun i => if i = 0 then .int .i64 x0 else if i = 1 then .int .i64 x1 else if i = 2 then .int .i64 x2 else .int .i64 x3)) := HS.out.blw hb2
      clear hr hb2
      cases r
      · have HNR : Hid (¬ rightS x0 x1 x2 x3) := fun q => by have := HR.out.2 q; simp at this
        clear HR
        obtain ⟨ao2, cap2, w5, hrun, hG2⟩ := GW.push HG.out (by omega) (-1)
        have HRN : Hid _ := hrun
        have HN : Hid (∃ Ds A v D, WPlays (newK k0) F (j + 1) Ds A ∧ Ds (j + 1) = D ∧ GW w w5 zt v D (.slice ao2 (j + 1) cap2) (j + 1) A) := ⟨_, _, _, _, HNX.out _ (-1) (Or.inl ⟨HNR.out, rfl, rfl⟩), by show (if j + 1 = j + 1 then _ else Ds (j + 1)) = _; exact if_pos rfl, hG2⟩
        clear hrun hG2 HG HS HNX HNR HL
        go_wp2_with (first | (at_builtin; refine wpList_app (.tmp 39) (.tmp 40) 26 (by rfl) ?_; refine ⟨_, _, HRN.out, ?_⟩) | fail)
        go_roundw
        case rel => exact ⟨j + 1, by omega, by go_num, HN.out⟩
        case measure => simp [intOf]; omega
      have HYR : Hid (rightS x0 x1 x2 x3) := HR.out.1 (by first | rfl | trivial)
      clear HR HL
      go_upto_region 11 with fail
      replace HG : Hid (GW w w2.drew zt v D u j A) := HG.out.go (Blw.refl _).drew
      replace HS : Hid (Row w2.drew zs 4 (fun i => if i = 0 then .int .i64 x0 else if i = 1 then .int .i64 x1 else if i = 2 then .int .i64 x2 else .int .i64 x3)) := HS.out.blw (Blw.refl _).drew
      have HBD : Hid (Blw w2.drew w2.drew) := Blw.refl _
      have HLO : Hid (zt < w2.drew.heap.size ∧ ∀ x, u.ownBlock = some x → x < w2.drew.heap.size) := ⟨HG.out.box.lt, fun x e => (HG.out.buf.2 x e).1.2⟩
      refine wp_region_noPanic ?_
      refine wp_region_held_drew (S := (fun w' => w'.cell? ⟨zt, 0, none⟩ = some (.slice v.b.a1 D.B.n v.b.c1) ∧ w'.cell? ⟨zt, 1, none⟩ = some (.slice v.b.a2 D.B.D.n v.b.c2) ∧ w'.cell? ⟨zt, 2, none⟩ = some (.slice v.a D.n v.q) ∧ w'.cell? ⟨zt, 3, none⟩ = some (.int .i64 D.h) ∧ w'.cell? ⟨zs, 0, none⟩ = some (.int .i64 x0) ∧ w'.cell? ⟨zs, 1, none⟩ = some (.int .i64 x1) ∧ w'.cell? ⟨zs, 2, none⟩ = some (.int .i64 x2) ∧ w'.cell? ⟨zs, 3, none⟩ = some (.int .i64 x3))) (by kernel_rfl) (cx8 (HG.out.box.blw HBD.out) (HS.out.blw HBD.out)) (fun hB => ?_)
      clear hB
      generalize w2.drew = wd at *
      refine wpAnyH_take (i := 0) (oi := { dst := some 43, op := Op.load 32 (Operand.tmp 9), type := 32, pos := _, after := #[], guard := none }) (v := (.agg #[.slice v.b.a1 D.B.n v.b.c1, .slice v.b.a2 D.B.D.n v.b.c2, .slice v.a D.n v.q, .int .i64 D.h])) rfl (by kernel_rfl) (by kernel_rfl) (by kernel_rfl) (fun _ _ _ h => h) (Or.inl ⟨by rfl, fun w' hS => by (try dsimp only at hS); go_simp⟩) (cx8 (HG.out.box.blw HBD.out) (HS.out.blw HBD.out)) ?_
      simp only [Act.put, List.setIfInBounds_toArray, List.set_cons_zero, List.set_cons_succ]
      refine wpAnyH_take (i := 2) (oi := { dst := some 45, op := Op.load 42 (Operand.tmp 12), type := 42, pos := _, after := #[], guard := none }) (v := (.agg #[.int .i64 x0, .int .i64 x1, .int .i64 x2, .int .i64 x3])) rfl (by kernel_rfl) (by kernel_rfl) (by kernel_rfl) (fun _ _ _ h => h) (Or.inl ⟨by rfl, fun w' hS => by (try dsimp only at hS); go_simp⟩) (cx8 (HG.out.box.blw HBD.out) (HS.out.blw HBD.out)) ?_
      simp only [Act.put, List.setIfInBounds_toArray, List.set_cons_zero, List.set_cons_succ]
      refine wpAnyH_ready (rs := [1, 7]) (by kernel_rfl) (by simp) ?_
      refine AllReadyH.cons (o := { dst := some 44, op := Op.call { callee := Callee.value (Operand.func 87), args := #[Operand.tmp 43], argTypes := #[32] }, type := 32, pos := _, after := #[{ on := 0, ground := Ground.data }], guard := none }) rfl (fun K hK => ?_) (AllReadyH.cons (o := { dst := some 13, op := Op.alloc 32, type := 0, pos := _, after := #[], guard := none }) rfl (fun K hK => ?_) AllReadyH.nil)
      · go_simp
        refine (l7Own_any v D _ _ HG.out.g (HG.out.at_.blw HBD.out)).mono ?_
        rintro e y1 ⟨v1, rfl, hw1, hb⟩
        have HZ1 : Hid (wd.heap.size ≤ y1.heap.size) := hb.size
        have HO1 : Hid (WkAt (fun x => wd.heap.size ≤ x ∧ x < y1.heap.size) y1 v1 D) := hw1
        replace HBD : Hid (Blw wd y1) := HBD.out.trans hb
        clear hw1 hb
        refine hK.out _ _ (cx8 (HG.out.box.blw HBD.out) (HS.out.blw HBD.out)) (fun hB => ?_)
        clear hK K hB
        try simp only [Act.put, List.setIfInBounds_toArray, List.set_cons_zero, List.set_cons_succ]
        refine wpAnyH_ready (rs := [3, 7]) (by kernel_rfl) (by simp) ?_
        refine AllReadyH.cons (o := { dst := some 46, op := Op.call { callee := Callee.value (Operand.func 86), args := #[Operand.tmp 44, Operand.tmp 45], argTypes := #[32, 42] }, type := 53, pos := _, after := #[{ on := 1, ground := Ground.data }, { on := 2, ground := Ground.data }, { on := 1, ground := Ground.chain }], guard := none }) rfl (fun K hK => ?_) (AllReadyH.cons (o := { dst := some 13, op := Op.alloc 32, type := 0, pos := _, after := #[], guard := none }) rfl (fun K hK => ?_) AllReadyH.nil)
        · go_simp
          have o1 := HZ1.out
          have hgb := HG.out.box.lt; have hgo := HG.out.od
          refine (l7Step_any wd.heap.size w.heap.size v1 D x0 x1 x2 x3 _ _ HYR.out HG.out.g (fun x hx => ⟨⟨by omega, by omega⟩, by omega⟩) ⟨by omega, by omega⟩ HO1.out).mono ?_
          rintro e y2 ⟨v2, R, xx, rfl, ho, hw2, hb⟩
          have HZ2 : Hid (y1.heap.size ≤ y2.heap.size) := hb.size
          have HO : Hid (WSO D x0 x1 x2 x3 R xx) := ho
          clear HO1
          have HO2 : Hid (WkAt (fun x => (wd.heap.size ≤ x ∧ x ≠ w.heap.size) ∧ x < y2.heap.size) y2 v2 R) := hw2
          replace HBD : Hid (Blw wd y2) := HBD.out.trans hb
          clear ho hw2 hb hgb hgo o1
          refine hK.out _ _ (cx8 (HG.out.box.blw HBD.out) (HS.out.blw HBD.out)) (fun hB => ?_)
          clear hK K hB
          try simp only [Act.put, List.setIfInBounds_toArray, List.set_cons_zero, List.set_cons_succ]
          refine wpAnyH_take (i := 4) (oi := { dst := some 42, op := Op.move (Operand.tmp 46), type := 53, pos := _, after := #[{ on := 3, ground := Ground.data }], guard := none }) (v := (.tuple #[KV.val v2 R, .int .i64 xx])) rfl (by kernel_rfl) (by kernel_rfl) (by kernel_rfl) (fun _ _ _ h => h) (Or.inl ⟨by rfl, fun w' hS => by (try dsimp only at hS); go_simp⟩) (cx8 (HG.out.box.blw HBD.out) (HS.out.blw HBD.out)) ?_
          simp only [Act.put, List.setIfInBounds_toArray, List.set_cons_zero, List.set_cons_succ]
          refine wpAnyH_take (i := 5) (oi := { dst := some 47, op := Op.extract (Operand.tmp 42) 0, type := 32, pos := _, after := #[{ on := 4, ground := Ground.data }], guard := none }) (v := (.agg #[.slice v2.b.a1 R.B.n v2.b.c1, .slice v2.b.a2 R.B.D.n v2.b.c2, .slice v2.a R.n v2.q, .int .i64 R.h])) rfl (by kernel_rfl) (by kernel_rfl) (by kernel_rfl) (fun _ _ _ h => h) (Or.inl ⟨by rfl, fun w' hS => by (try dsimp only at hS); go_simp⟩) (cx8 (HG.out.box.blw HBD.out) (HS.out.blw HBD.out)) ?_
          simp only [Act.put, List.setIfInBounds_toArray, List.set_cons_zero, List.set_cons_succ]
          refine wpAnyH_take (i := 6) (oi := { dst := some 48, op := Op.extract (Operand.tmp 42) 1, type := 3, pos := _, after := #[{ on := 4, ground := Ground.data }, { on := 8, ground := Ground.gcOnly Departure.lateStores }], guard := none }) (v := (.int .i64 xx)) rfl (by kernel_rfl) (by kernel_rfl) (by kernel_rfl) (fun _ _ _ h => h) (Or.inl ⟨by rfl, fun w' hS => by (try dsimp only at hS); go_simp⟩) (cx8 (HG.out.box.blw HBD.out) (HS.out.blw HBD.out)) ?_
          simp only [Act.put, List.setIfInBounds_toArray, List.set_cons_zero, List.set_cons_succ]
          refine wpAnyH_ready (rs := [7]) (by kernel_rfl) (by simp) ?_
          refine AllReadyH.cons (o := { dst := some 13, op := Op.alloc 32, type := 0, pos := _, after := #[], guard := none }) rfl (fun K hK => ?_) AllReadyH.nil
          go_simp
          have hA : Blw y2 (y2.alloc (.cells #[.slice none 0 0, .slice none 0 0, .slice none 0 0, .int .i64 0] 32)) := (Blw.refl _).alloc _
          have HX : Hid (Row (y2.alloc (.cells #[.slice none 0 0, .slice none 0 0, .slice none 0 0, .int .i64 0] 32)) y2.heap.size 4 (fun i => if i = 0 then .slice none 0 0 else if i = 1 then .slice none 0 0 else if i = 2 then .slice none 0 0 else .int .i64 0)) := box4 y2 _ _ _ _ 32
          have HZ3 : Hid (y2.heap.size < (y2.alloc (.cells #[.slice none 0 0, .slice none 0 0, .slice none 0 0, .int .i64 0] 32)).heap.size) := HX.out.lt
          replace HBD : Hid (Blw wd (y2.alloc (.cells #[.slice none 0 0, .slice none 0 0, .slice none 0 0, .int .i64 0] 32))) := HBD.out.trans hA
          replace HO2 : Hid (WkAt (fun x => (wd.heap.size ≤ x ∧ x ≠ y2.heap.size) ∧ x < (y2.alloc (.cells #[.slice none 0 0, .slice none 0 0, .slice none 0 0, .int .i64 0] 32)).heap.size) (y2.alloc (.cells #[.slice none 0 0, .slice none 0 0, .slice none 0 0, .int .i64 0] 32)) v2 R) := (HO2.out.blw hA).mono (fun x hx => by have := HZ3.out; omega)
          clear hA
          generalize (y2.alloc (.cells #[.slice none 0 0, .slice none 0 0, .slice none 0 0, .int .i64 0] 32)) = y3 at *
          refine hK.out _ _ (cx8 (HG.out.box.blw HBD.out) (HS.out.blw HBD.out)) (fun hB => ?_)
          clear hK K hB
          try simp only [Act.put, List.setIfInBounds_toArray, List.set_cons_zero, List.set_cons_succ]
          refine wpAnyH_ready (rs := [8]) (by kernel_rfl) (by simp) ?_
          refine AllReadyH.cons (o := { dst := none, op := Op.store 32 (Operand.tmp 13) (Operand.tmp 47), type := 0, pos := _, after := #[{ on := 7, ground := Ground.data }, { on := 5, ground := Ground.data }, { on := 3, ground := Ground.chain }, { on := 0, ground := Ground.phase }, { on := 1, ground := Ground.phase }, { on := 2, ground := Ground.phase }, { on := 3, ground := Ground.phase }, { on := 4, ground := Ground.phase }, { on := 5, ground := Ground.phase }, { on := 6, ground := Ground.textOnly Departure.lateStores }, { on := 7, ground := Ground.phase }], guard := none }) rfl (fun K hK => ?_) AllReadyH.nil
          have o1 := HZ1.out; have o2 := HZ2.out; have o3 := HZ3.out
          have HZX : Hid (wd.heap.size ≤ y2.heap.size) := by show _ ≤ _; omega
          clear o1 o2 o3 HZ1 HZ2 HZ3
          obtain ⟨t0, t1, t2, t3⟩ := get4 HX.out
          have f0 := HX.out.frozen 0
          have f1 := HX.out.frozen 1
          have f2 := HX.out.frozen 2
          have f3 := HX.out.frozen 3
          have m9 := set4_mod (w := y3) (z := y2.heap.size) (.slice v2.b.a1 R.B.n v2.b.c1) (.slice v2.b.a2 R.B.D.n v2.b.c2) (.slice v2.a R.n v2.q) (.int .i64 R.h)
          replace HX : Hid (Row ((((y3.setCell ⟨y2.heap.size, 0, none⟩ (.slice v2.b.a1 R.B.n v2.b.c1)).setCell ⟨y2.heap.size, 1, none⟩ (.slice v2.b.a2 R.B.D.n v2.b.c2)).setCell ⟨y2.heap.size, 2, none⟩ (.slice v2.a R.n v2.q)).setCell ⟨y2.heap.size, 3, none⟩ (.int .i64 R.h)) y2.heap.size 4 (kb v2 R)) := row4_set HX.out
          replace HO2 : Hid (WkAt (fun x => wd.heap.size ≤ x ∧ x < ((((y3.setCell ⟨y2.heap.size, 0, none⟩ (.slice v2.b.a1 R.B.n v2.b.c1)).setCell ⟨y2.heap.size, 1, none⟩ (.slice v2.b.a2 R.B.D.n v2.b.c2)).setCell ⟨y2.heap.size, 2, none⟩ (.slice v2.a R.n v2.q)).setCell ⟨y2.heap.size, 3, none⟩ (.int .i64 R.h)).heap.size) ((((y3.setCell ⟨y2.heap.size, 0, none⟩ (.slice v2.b.a1 R.B.n v2.b.c1)).setCell ⟨y2.heap.size, 1, none⟩ (.slice v2.b.a2 R.B.D.n v2.b.c2)).setCell ⟨y2.heap.size, 2, none⟩ (.slice v2.a R.n v2.q)).setCell ⟨y2.heap.size, 3, none⟩ (.int .i64 R.h)) v2 R) := (HO2.out.mod m9 (fun x hx e => hx.1.2 e)).mono (fun x hx => by have := m9.size; omega)
          replace HBD : Hid (Blw wd ((((y3.setCell ⟨y2.heap.size, 0, none⟩ (.slice v2.b.a1 R.B.n v2.b.c1)).setCell ⟨y2.heap.size, 1, none⟩ (.slice v2.b.a2 R.B.D.n v2.b.c2)).setCell ⟨y2.heap.size, 2, none⟩ (.slice v2.a R.n v2.q)).setCell ⟨y2.heap.size, 3, none⟩ (.int .i64 R.h))) := Mod.blw HBD.out m9 (fun i hi => by have := HZX.out; omega)
          clear m9
          go_simp
          refine hK.out _ _ (cx8 (HG.out.box.blw HBD.out) (HS.out.blw HBD.out)) (fun hB => ?_)
          clear hK K hB
          try simp only [Act.put, List.setIfInBounds_toArray, List.set_cons_zero, List.set_cons_succ]
          clear t0 t1 t2 t3 f0 f1 f2 f3
          generalize ((((y3.setCell ⟨y2.heap.size, 0, none⟩ (.slice v2.b.a1 R.B.n v2.b.c1)).setCell ⟨y2.heap.size, 1, none⟩ (.slice v2.b.a2 R.B.D.n v2.b.c2)).setCell ⟨y2.heap.size, 2, none⟩ (.slice v2.a R.n v2.q)).setCell ⟨y2.heap.size, 3, none⟩ (.int .i64 R.h)) = W12 at *
          refine wpAnyH_take (i := 9) (oi := { dst := some 14, op := Op.assign (Operand.tmp 48), type := 3, pos := _, after := #[{ on := 6, ground := Ground.data }, { on := 8, ground := Ground.chain }, { on := 0, ground := Ground.phase }, { on := 1, ground := Ground.phase }, { on := 2, ground := Ground.phase }, { on := 3, ground := Ground.phase }, { on := 4, ground := Ground.phase }, { on := 5, ground := Ground.phase }, { on := 6, ground := Ground.phase }, { on := 7, ground := Ground.phase }, { on := 8, ground := Ground.phase }], guard := none }) (v := (.int .i64 xx)) rfl (by kernel_rfl) (by kernel_rfl) (by kernel_rfl) (fun _ _ _ h => h) (Or.inl ⟨by rfl, fun w' hS => by (try dsimp only at hS); go_simp⟩) (cx8 (HG.out.box.blw HBD.out) (HS.out.blw HBD.out)) ?_
          simp only [Act.put, List.setIfInBounds_toArray, List.set_cons_zero, List.set_cons_succ]
          refine wpAnyH_done (by kernel_rfl) ?_ _
          refine NoPanic.normal ?_
          replace HG : Hid (GW w W12 zt v D u j A) := HG.out.go HBD.out
          have HGP : Hid (GW w ((((W12.setCell ⟨zt, 0, none⟩ (.slice v2.b.a1 R.B.n v2.b.c1)).setCell ⟨zt, 1, none⟩ (.slice v2.b.a2 R.B.D.n v2.b.c2)).setCell ⟨zt, 2, none⟩ (.slice v2.a R.n v2.q)).setCell ⟨zt, 3, none⟩ (.int .i64 R.h)) zt v2 R u j A) := HG.out.put HO2.out (by have := HLO.out.1; omega) HLO.out.2 (HG.out.g.step (Or.inr ⟨HYR.out, HO.out⟩))
          obtain ⟨p0, p1, p2, p3⟩ := get4 HX.out
          obtain ⟨t0, t1, t2, t3⟩ := get4 HG.out.box
          have f0 := HG.out.box.frozen 0
          have f1 := HG.out.box.frozen 1
          have f2 := HG.out.box.frozen 2
          have f3 := HG.out.box.frozen 3
          go_upto_region 13 with fail
          clear p0 p1 p2 p3 t0 t1 t2 t3 f0 f1 f2 f3 HG HX HO2 HBD HS
          generalize ((((W12.setCell ⟨zt, 0, none⟩ (.slice v2.b.a1 R.B.n v2.b.c1)).setCell ⟨zt, 1, none⟩ (.slice v2.b.a2 R.B.D.n v2.b.c2)).setCell ⟨zt, 2, none⟩ (.slice v2.a R.n v2.q)).setCell ⟨zt, 3, none⟩ (.int .i64 R.h)) = W13 at *
          have HG : Hid (GW w W13 zt v2 R u j A) := HGP.out
          clear HGP
          obtain ⟨ao2, cap2, w5, hrun, hG2⟩ := GW.push HG.out (by omega) xx
          have HRN : Hid _ := hrun
          have HN : Hid (∃ Ds A v D, WPlays (newK k0) F (j + 1) Ds A ∧ Ds (j + 1) = D ∧ GW w w5 zt v D (.slice ao2 (j + 1) cap2) (j + 1) A) := ⟨_, _, _, _, HNX.out _ xx (Or.inr ⟨HYR.out, HO.out⟩), by show (if j + 1 = j + 1 then _ else Ds (j + 1)) = _; exact if_pos rfl, hG2⟩
          clear hrun hG2 HG HNX HYR HO HLO HZX
          go_wp2_with (first | (at_builtin; refine wpList_app (.tmp 50) (.tmp 52) 26 (by rfl) ?_; refine ⟨_, _, HRN.out, ?_⟩) | fail)
          go_roundw
          case rel => exact ⟨j + 1, by omega, by go_num, HN.out⟩
          case measure => simp [intOf]; omega
        · go_simp
          have hA : Blw y1 (y1.alloc (.cells #[.slice none 0 0, .slice none 0 0, .slice none 0 0, .int .i64 0] 32)) := (Blw.refl _).alloc _
          have HX : Hid (Row (y1.alloc (.cells #[.slice none 0 0, .slice none 0 0, .slice none 0 0, .int .i64 0] 32)) y1.heap.size 4 (fun i => if i = 0 then .slice none 0 0 else if i = 1 then .slice none 0 0 else if i = 2 then .slice none 0 0 else .int .i64 0)) := box4 y1 _ _ _ _ 32
          have HZ2 : Hid (y1.heap.size < (y1.alloc (.cells #[.slice none 0 0, .slice none 0 0, .slice none 0 0, .int .i64 0] 32)).heap.size) := HX.out.lt
          replace HBD : Hid (Blw wd (y1.alloc (.cells #[.slice none 0 0, .slice none 0 0, .slice none 0 0, .int .i64 0] 32))) := HBD.out.trans hA
          replace HO1 : Hid (WkAt (fun x => wd.heap.size ≤ x ∧ x < y1.heap.size) (y1.alloc (.cells #[.slice none 0 0, .slice none 0 0, .slice none 0 0, .int .i64 0] 32)) v1 D) := HO1.out.blw hA
          clear hA
          generalize (y1.alloc (.cells #[.slice none 0 0, .slice none 0 0, .slice none 0 0, .int .i64 0] 32)) = y2 at *
          refine hK.out _ _ (cx8 (HG.out.box.blw HBD.out) (HS.out.blw HBD.out)) (fun hB => ?_)
          clear hK K hB
          try simp only [Act.put, List.setIfInBounds_toArray, List.set_cons_zero, List.set_cons_succ]
          refine wpAnyH_ready (rs := [3]) (by kernel_rfl) (by simp) ?_
          refine AllReadyH.cons (o := { dst := some 46, op := Op.call { callee := Callee.value (Operand.func 86), args := #[Operand.tmp 44, Operand.tmp 45], argTypes := #[32, 42] }, type := 53, pos := _, after := #[{ on := 1, ground := Ground.data }, { on := 2, ground := Ground.data }, { on := 1, ground := Ground.chain }], guard := none }) rfl (fun K hK => ?_) AllReadyH.nil
          go_simp
          have o1 := HZ1.out; have o2 := HZ2.out
          have hgb := HG.out.box.lt; have hgo := HG.out.od
          refine (l7Step_any wd.heap.size y1.heap.size v1 D x0 x1 x2 x3 _ _ HYR.out HG.out.g (fun x hx => ⟨⟨by omega, by omega⟩, by omega⟩) ⟨by omega, by omega⟩ HO1.out).mono ?_
          rintro e y3 ⟨v2, R, xx, rfl, ho, hw2, hb⟩
          have HZ3 : Hid (y2.heap.size ≤ y3.heap.size) := hb.size
          have HO : Hid (WSO D x0 x1 x2 x3 R xx) := ho
          clear HO1
          replace HX : Hid (Row y3 y1.heap.size 4 (fun i => if i = 0 then .slice none 0 0 else if i = 1 then .slice none 0 0 else if i = 2 then .slice none 0 0 else .int .i64 0)) := HX.out.blw hb
          have HO2 : Hid (WkAt (fun x => (wd.heap.size ≤ x ∧ x ≠ y1.heap.size) ∧ x < y3.heap.size) y3 v2 R) := hw2
          replace HBD : Hid (Blw wd y3) := HBD.out.trans hb
          clear ho hw2 hb hgb hgo o1 o2
          refine hK.out _ _ (cx8 (HG.out.box.blw HBD.out) (HS.out.blw HBD.out)) (fun hB => ?_)
          clear hK K hB
          try simp only [Act.put, List.setIfInBounds_toArray, List.set_cons_zero, List.set_cons_succ]
          refine wpAnyH_take (i := 4) (oi := { dst := some 42, op := Op.move (Operand.tmp 46), type := 53, pos := _, after := #[{ on := 3, ground := Ground.data }], guard := none }) (v := (.tuple #[KV.val v2 R, .int .i64 xx])) rfl (by kernel_rfl) (by kernel_rfl) (by kernel_rfl) (fun _ _ _ h => h) (Or.inl ⟨by rfl, fun w' hS => by (try dsimp only at hS); go_simp⟩) (cx8 (HG.out.box.blw HBD.out) (HS.out.blw HBD.out)) ?_
          simp only [Act.put, List.setIfInBounds_toArray, List.set_cons_zero, List.set_cons_succ]
          refine wpAnyH_take (i := 5) (oi := { dst := some 47, op := Op.extract (Operand.tmp 42) 0, type := 32, pos := _, after := #[{ on := 4, ground := Ground.data }], guard := none }) (v := (.agg #[.slice v2.b.a1 R.B.n v2.b.c1, .slice v2.b.a2 R.B.D.n v2.b.c2, .slice v2.a R.n v2.q, .int .i64 R.h])) rfl (by kernel_rfl) (by kernel_rfl) (by kernel_rfl) (fun _ _ _ h => h) (Or.inl ⟨by rfl, fun w' hS => by (try dsimp only at hS); go_simp⟩) (cx8 (HG.out.box.blw HBD.out) (HS.out.blw HBD.out)) ?_
          simp only [Act.put, List.setIfInBounds_toArray, List.set_cons_zero, List.set_cons_succ]
          refine wpAnyH_take (i := 6) (oi := { dst := some 48, op := Op.extract (Operand.tmp 42) 1, type := 3, pos := _, after := #[{ on := 4, ground := Ground.data }, { on := 8, ground := Ground.gcOnly Departure.lateStores }], guard := none }) (v := (.int .i64 xx)) rfl (by kernel_rfl) (by kernel_rfl) (by kernel_rfl) (fun _ _ _ h => h) (Or.inl ⟨by rfl, fun w' hS => by (try dsimp only at hS); go_simp⟩) (cx8 (HG.out.box.blw HBD.out) (HS.out.blw HBD.out)) ?_
          simp only [Act.put, List.setIfInBounds_toArray, List.set_cons_zero, List.set_cons_succ]
          refine wpAnyH_ready (rs := [8]) (by kernel_rfl) (by simp) ?_
          refine AllReadyH.cons (o := { dst := none, op := Op.store 32 (Operand.tmp 13) (Operand.tmp 47), type := 0, pos := _, after := #[{ on := 7, ground := Ground.data }, { on := 5, ground := Ground.data }, { on := 3, ground := Ground.chain }, { on := 0, ground := Ground.phase }, { on := 1, ground := Ground.phase }, { on := 2, ground := Ground.phase }, { on := 3, ground := Ground.phase }, { on := 4, ground := Ground.phase }, { on := 5, ground := Ground.phase }, { on := 6, ground := Ground.textOnly Departure.lateStores }, { on := 7, ground := Ground.phase }], guard := none }) rfl (fun K hK => ?_) AllReadyH.nil
          have o1 := HZ1.out; have o2 := HZ2.out; have o3 := HZ3.out
          have HZX : Hid (wd.heap.size ≤ y1.heap.size) := by show _ ≤ _; omega
          clear o1 o2 o3 HZ1 HZ2 HZ3
          obtain ⟨t0, t1, t2, t3⟩ := get4 HX.out
          have f0 := HX.out.frozen 0
          have f1 := HX.out.frozen 1
          have f2 := HX.out.frozen 2
          have f3 := HX.out.frozen 3
          have m9 := set4_mod (w := y3) (z := y1.heap.size) (.slice v2.b.a1 R.B.n v2.b.c1) (.slice v2.b.a2 R.B.D.n v2.b.c2) (.slice v2.a R.n v2.q) (.int .i64 R.h)
          replace HX : Hid (Row ((((y3.setCell ⟨y1.heap.size, 0, none⟩ (.slice v2.b.a1 R.B.n v2.b.c1)).setCell ⟨y1.heap.size, 1, none⟩ (.slice v2.b.a2 R.B.D.n v2.b.c2)).setCell ⟨y1.heap.size, 2, none⟩ (.slice v2.a R.n v2.q)).setCell ⟨y1.heap.size, 3, none⟩ (.int .i64 R.h)) y1.heap.size 4 (kb v2 R)) := row4_set HX.out
          replace HO2 : Hid (WkAt (fun x => wd.heap.size ≤ x ∧ x < ((((y3.setCell ⟨y1.heap.size, 0, none⟩ (.slice v2.b.a1 R.B.n v2.b.c1)).setCell ⟨y1.heap.size, 1, none⟩ (.slice v2.b.a2 R.B.D.n v2.b.c2)).setCell ⟨y1.heap.size, 2, none⟩ (.slice v2.a R.n v2.q)).setCell ⟨y1.heap.size, 3, none⟩ (.int .i64 R.h)).heap.size) ((((y3.setCell ⟨y1.heap.size, 0, none⟩ (.slice v2.b.a1 R.B.n v2.b.c1)).setCell ⟨y1.heap.size, 1, none⟩ (.slice v2.b.a2 R.B.D.n v2.b.c2)).setCell ⟨y1.heap.size, 2, none⟩ (.slice v2.a R.n v2.q)).setCell ⟨y1.heap.size, 3, none⟩ (.int .i64 R.h)) v2 R) := (HO2.out.mod m9 (fun x hx e => hx.1.2 e)).mono (fun x hx => by have := m9.size; omega)
          replace HBD : Hid (Blw wd ((((y3.setCell ⟨y1.heap.size, 0, none⟩ (.slice v2.b.a1 R.B.n v2.b.c1)).setCell ⟨y1.heap.size, 1, none⟩ (.slice v2.b.a2 R.B.D.n v2.b.c2)).setCell ⟨y1.heap.size, 2, none⟩ (.slice v2.a R.n v2.q)).setCell ⟨y1.heap.size, 3, none⟩ (.int .i64 R.h))) := Mod.blw HBD.out m9 (fun i hi => by have := HZX.out; omega)
          clear m9
          go_simp
          refine hK.out _ _ (cx8 (HG.out.box.blw HBD.out) (HS.out.blw HBD.out)) (fun hB => ?_)
          clear hK K hB
          try simp only [Act.put, List.setIfInBounds_toArray, List.set_cons_zero, List.set_cons_succ]
          clear t0 t1 t2 t3 f0 f1 f2 f3
          generalize ((((y3.setCell ⟨y1.heap.size, 0, none⟩ (.slice v2.b.a1 R.B.n v2.b.c1)).setCell ⟨y1.heap.size, 1, none⟩ (.slice v2.b.a2 R.B.D.n v2.b.c2)).setCell ⟨y1.heap.size, 2, none⟩ (.slice v2.a R.n v2.q)).setCell ⟨y1.heap.size, 3, none⟩ (.int .i64 R.h)) = W12 at *
          refine wpAnyH_take (i := 9) (oi := { dst := some 14, op := Op.assign (Operand.tmp 48), type := 3, pos := _, after := #[{ on := 6, ground := Ground.data }, { on := 8, ground := Ground.chain }, { on := 0, ground := Ground.phase }, { on := 1, ground := Ground.phase }, { on := 2, ground := Ground.phase }, { on := 3, ground := Ground.phase }, { on := 4, ground := Ground.phase }, { on := 5, ground := Ground.phase }, { on := 6, ground := Ground.phase }, { on := 7, ground := Ground.phase }, { on := 8, ground := Ground.phase }], guard := none }) (v := (.int .i64 xx)) rfl (by kernel_rfl) (by kernel_rfl) (by kernel_rfl) (fun _ _ _ h => h) (Or.inl ⟨by rfl, fun w' hS => by (try dsimp only at hS); go_simp⟩) (cx8 (HG.out.box.blw HBD.out) (HS.out.blw HBD.out)) ?_
          simp only [Act.put, List.setIfInBounds_toArray, List.set_cons_zero, List.set_cons_succ]
          refine wpAnyH_done (by kernel_rfl) ?_ _
          refine NoPanic.normal ?_
          replace HG : Hid (GW w W12 zt v D u j A) := HG.out.go HBD.out
          have HGP : Hid (GW w ((((W12.setCell ⟨zt, 0, none⟩ (.slice v2.b.a1 R.B.n v2.b.c1)).setCell ⟨zt, 1, none⟩ (.slice v2.b.a2 R.B.D.n v2.b.c2)).setCell ⟨zt, 2, none⟩ (.slice v2.a R.n v2.q)).setCell ⟨zt, 3, none⟩ (.int .i64 R.h)) zt v2 R u j A) := HG.out.put HO2.out (by have := HLO.out.1; omega) HLO.out.2 (HG.out.g.step (Or.inr ⟨HYR.out, HO.out⟩))
          obtain ⟨p0, p1, p2, p3⟩ := get4 HX.out
          obtain ⟨t0, t1, t2, t3⟩ := get4 HG.out.box
          have f0 := HG.out.box.frozen 0
          have f1 := HG.out.box.frozen 1
          have f2 := HG.out.box.frozen 2
          have f3 := HG.out.box.frozen 3
          go_upto_region 13 with fail
          clear p0 p1 p2 p3 t0 t1 t2 t3 f0 f1 f2 f3 HG HX HO2 HBD HS
          generalize ((((W12.setCell ⟨zt, 0, none⟩ (.slice v2.b.a1 R.B.n v2.b.c1)).setCell ⟨zt, 1, none⟩ (.slice v2.b.a2 R.B.D.n v2.b.c2)).setCell ⟨zt, 2, none⟩ (.slice v2.a R.n v2.q)).setCell ⟨zt, 3, none⟩ (.int .i64 R.h)) = W13 at *
          have HG : Hid (GW w W13 zt v2 R u j A) := HGP.out
          clear HGP
          obtain ⟨ao2, cap2, w5, hrun, hG2⟩ := GW.push HG.out (by omega) xx
          have HRN : Hid _ := hrun
          have HN : Hid (∃ Ds A v D, WPlays (newK k0) F (j + 1) Ds A ∧ Ds (j + 1) = D ∧ GW w w5 zt v D (.slice ao2 (j + 1) cap2) (j + 1) A) := ⟨_, _, _, _, HNX.out _ xx (Or.inr ⟨HYR.out, HO.out⟩), by show (if j + 1 = j + 1 then _ else Ds (j + 1)) = _; exact if_pos rfl, hG2⟩
          clear hrun hG2 HG HNX HYR HO HLO HZX
          go_wp2_with (first | (at_builtin; refine wpList_app (.tmp 50) (.tmp 52) 26 (by rfl) ?_; refine ⟨_, _, HRN.out, ?_⟩) | fail)
          go_roundw
          case rel => exact ⟨j + 1, by omega, by go_num, HN.out⟩
          case measure => simp [intOf]; omega
      · go_simp
        have hA : Blw wd (wd.alloc (.cells #[.slice none 0 0, .slice none 0 0, .slice none 0 0, .int .i64 0] 32)) := (Blw.refl _).alloc _
        have HX : Hid (Row (wd.alloc (.cells #[.slice none 0 0, .slice none 0 0, .slice none 0 0, .int .i64 0] 32)) wd.heap.size 4 (fun i => if i = 0 then .slice none 0 0 else if i = 1 then .slice none 0 0 else if i = 2 then .slice none 0 0 else .int .i64 0)) := box4 wd _ _ _ _ 32
        have HZ1 : Hid (wd.heap.size < (wd.alloc (.cells #[.slice none 0 0, .slice none 0 0, .slice none 0 0, .int .i64 0] 32)).heap.size) := HX.out.lt
        replace HBD : Hid (Blw wd (wd.alloc (.cells #[.slice none 0 0, .slice none 0 0, .slice none 0 0, .int .i64 0] 32))) := HBD.out.trans hA
        clear hA
        generalize (wd.alloc (.cells #[.slice none 0 0, .slice none 0 0, .slice none 0 0, .int .i64 0] 32)) = y1 at *
        refine hK.out _ _ (cx8 (HG.out.box.blw HBD.out) (HS.out.blw HBD.out)) (fun hB => ?_)
        clear hK K hB
        try simp only [Act.put, List.setIfInBounds_toArray, List.set_cons_zero, List.set_cons_succ]
        refine wpAnyH_ready (rs := [1]) (by kernel_rfl) (by simp) ?_
        refine AllReadyH.cons (o := { dst := some 44, op := Op.call { callee := Callee.value (Operand.func 87), args := #[Operand.tmp 43], argTypes := #[32] }, type := 32, pos := _, after := #[{ on := 0, ground := Ground.data }], guard := none }) rfl (fun K hK => ?_) AllReadyH.nil
        go_simp
        refine (l7Own_any v D _ _ HG.out.g (HG.out.at_.blw HBD.out)).mono ?_
        rintro e y2 ⟨v1, rfl, hw1, hb⟩
        have HZ2 : Hid (y1.heap.size ≤ y2.heap.size) := hb.size
        replace HX : Hid (Row y2 wd.heap.size 4 (fun i => if i = 0 then .slice none 0 0 else if i = 1 then .slice none 0 0 else if i = 2 then .slice none 0 0 else .int .i64 0)) := HX.out.blw hb
        have HO1 : Hid (WkAt (fun x => y1.heap.size ≤ x ∧ x < y2.heap.size) y2 v1 D) := hw1
        replace HBD : Hid (Blw wd y2) := HBD.out.trans hb
        clear hw1 hb
        refine hK.out _ _ (cx8 (HG.out.box.blw HBD.out) (HS.out.blw HBD.out)) (fun hB => ?_)
        clear hK K hB
        try simp only [Act.put, List.setIfInBounds_toArray, List.set_cons_zero, List.set_cons_succ]
        refine wpAnyH_ready (rs := [3]) (by kernel_rfl) (by simp) ?_
        refine AllReadyH.cons (o := { dst := some 46, op := Op.call { callee := Callee.value (Operand.func 86), args := #[Operand.tmp 44, Operand.tmp 45], argTypes := #[32, 42] }, type := 53, pos := _, after := #[{ on := 1, ground := Ground.data }, { on := 2, ground := Ground.data }, { on := 1, ground := Ground.chain }], guard := none }) rfl (fun K hK => ?_) AllReadyH.nil
        go_simp
        have o1 := HZ1.out; have o2 := HZ2.out
        have hgb := HG.out.box.lt; have hgo := HG.out.od
        refine (l7Step_any wd.heap.size wd.heap.size v1 D x0 x1 x2 x3 _ _ HYR.out HG.out.g (fun x hx => ⟨⟨by omega, by omega⟩, by omega⟩) ⟨by omega, by omega⟩ HO1.out).mono ?_
        rintro e y3 ⟨v2, R, xx, rfl, ho, hw2, hb⟩
        have HZ3 : Hid (y2.heap.size ≤ y3.heap.size) := hb.size
        have HO : Hid (WSO D x0 x1 x2 x3 R xx) := ho
        clear HO1
        replace HX : Hid (Row y3 wd.heap.size 4 (fun i => if i = 0 then .slice none 0 0 else if i = 1 then .slice none 0 0 else if i = 2 then .slice none 0 0 else .int .i64 0)) := HX.out.blw hb
        have HO2 : Hid (WkAt (fun x => (wd.heap.size ≤ x ∧ x ≠ wd.heap.size) ∧ x < y3.heap.size) y3 v2 R) := hw2
        replace HBD : Hid (Blw wd y3) := HBD.out.trans hb
        clear ho hw2 hb hgb hgo o1 o2
        refine hK.out _ _ (cx8 (HG.out.box.blw HBD.out) (HS.out.blw HBD.out)) (fun hB => ?_)
        clear hK K hB
        try simp only [Act.put, List.setIfInBounds_toArray, List.set_cons_zero, List.set_cons_succ]
        refine wpAnyH_take (i := 4) (oi := { dst := some 42, op := Op.move (Operand.tmp 46), type := 53, pos := _, after := #[{ on := 3, ground := Ground.data }], guard := none }) (v := (.tuple #[KV.val v2 R, .int .i64 xx])) rfl (by kernel_rfl) (by kernel_rfl) (by kernel_rfl) (fun _ _ _ h => h) (Or.inl ⟨by rfl, fun w' hS => by (try dsimp only at hS); go_simp⟩) (cx8 (HG.out.box.blw HBD.out) (HS.out.blw HBD.out)) ?_
        simp only [Act.put, List.setIfInBounds_toArray, List.set_cons_zero, List.set_cons_succ]
        refine wpAnyH_take (i := 5) (oi := { dst := some 47, op := Op.extract (Operand.tmp 42) 0, type := 32, pos := _, after := #[{ on := 4, ground := Ground.data }], guard := none }) (v := (.agg #[.slice v2.b.a1 R.B.n v2.b.c1, .slice v2.b.a2 R.B.D.n v2.b.c2, .slice v2.a R.n v2.q, .int .i64 R.h])) rfl (by kernel_rfl) (by kernel_rfl) (by kernel_rfl) (fun _ _ _ h => h) (Or.inl ⟨by rfl, fun w' hS => by (try dsimp only at hS); go_simp⟩) (cx8 (HG.out.box.blw HBD.out) (HS.out.blw HBD.out)) ?_
        simp only [Act.put, List.setIfInBounds_toArray, List.set_cons_zero, List.set_cons_succ]
        refine wpAnyH_take (i := 6) (oi := { dst := some 48, op := Op.extract (Operand.tmp 42) 1, type := 3, pos := _, after := #[{ on := 4, ground := Ground.data }, { on := 8, ground := Ground.gcOnly Departure.lateStores }], guard := none }) (v := (.int .i64 xx)) rfl (by kernel_rfl) (by kernel_rfl) (by kernel_rfl) (fun _ _ _ h => h) (Or.inl ⟨by rfl, fun w' hS => by (try dsimp only at hS); go_simp⟩) (cx8 (HG.out.box.blw HBD.out) (HS.out.blw HBD.out)) ?_
        simp only [Act.put, List.setIfInBounds_toArray, List.set_cons_zero, List.set_cons_succ]
        refine wpAnyH_ready (rs := [8]) (by kernel_rfl) (by simp) ?_
        refine AllReadyH.cons (o := { dst := none, op := Op.store 32 (Operand.tmp 13) (Operand.tmp 47), type := 0, pos := _, after := #[{ on := 7, ground := Ground.data }, { on := 5, ground := Ground.data }, { on := 3, ground := Ground.chain }, { on := 0, ground := Ground.phase }, { on := 1, ground := Ground.phase }, { on := 2, ground := Ground.phase }, { on := 3, ground := Ground.phase }, { on := 4, ground := Ground.phase }, { on := 5, ground := Ground.phase }, { on := 6, ground := Ground.textOnly Departure.lateStores }, { on := 7, ground := Ground.phase }], guard := none }) rfl (fun K hK => ?_) AllReadyH.nil
        have o1 := HZ1.out; have o2 := HZ2.out; have o3 := HZ3.out
        have HZX : Hid (wd.heap.size ≤ wd.heap.size) := by show _ ≤ _; omega
        clear o1 o2 o3 HZ1 HZ2 HZ3
        obtain ⟨t0, t1, t2, t3⟩ := get4 HX.out
        have f0 := HX.out.frozen 0
        have f1 := HX.out.frozen 1
        have f2 := HX.out.frozen 2
        have f3 := HX.out.frozen 3
        have m9 := set4_mod (w := y3) (z := wd.heap.size) (.slice v2.b.a1 R.B.n v2.b.c1) (.slice v2.b.a2 R.B.D.n v2.b.c2) (.slice v2.a R.n v2.q) (.int .i64 R.h)
        replace HX : Hid (Row ((((y3.setCell ⟨wd.heap.size, 0, none⟩ (.slice v2.b.a1 R.B.n v2.b.c1)).setCell ⟨wd.heap.size, 1, none⟩ (.slice v2.b.a2 R.B.D.n v2.b.c2)).setCell ⟨wd.heap.size, 2, none⟩ (.slice v2.a R.n v2.q)).setCell ⟨wd.heap.size, 3, none⟩ (.int .i64 R.h)) wd.heap.size 4 (kb v2 R)) := row4_set HX.out
        replace HO2 : Hid (WkAt (fun x => wd.heap.size ≤ x ∧ x < ((((y3.setCell ⟨wd.heap.size, 0, none⟩ (.slice v2.b.a1 R.B.n v2.b.c1)).setCell ⟨wd.heap.size, 1, none⟩ (.slice v2.b.a2 R.B.D.n v2.b.c2)).setCell ⟨wd.heap.size, 2, none⟩ (.slice v2.a R.n v2.q)).setCell ⟨wd.heap.size, 3, none⟩ (.int .i64 R.h)).heap.size) ((((y3.setCell ⟨wd.heap.size, 0, none⟩ (.slice v2.b.a1 R.B.n v2.b.c1)).setCell ⟨wd.heap.size, 1, none⟩ (.slice v2.b.a2 R.B.D.n v2.b.c2)).setCell ⟨wd.heap.size, 2, none⟩ (.slice v2.a R.n v2.q)).setCell ⟨wd.heap.size, 3, none⟩ (.int .i64 R.h)) v2 R) := (HO2.out.mod m9 (fun x hx e => hx.1.2 e)).mono (fun x hx => by have := m9.size; omega)
        replace HBD : Hid (Blw wd ((((y3.setCell ⟨wd.heap.size, 0, none⟩ (.slice v2.b.a1 R.B.n v2.b.c1)).setCell ⟨wd.heap.size, 1, none⟩ (.slice v2.b.a2 R.B.D.n v2.b.c2)).setCell ⟨wd.heap.size, 2, none⟩ (.slice v2.a R.n v2.q)).setCell ⟨wd.heap.size, 3, none⟩ (.int .i64 R.h))) := Mod.blw HBD.out m9 (fun i hi => by have := HZX.out; omega)
        clear m9
        go_simp
        refine hK.out _ _ (cx8 (HG.out.box.blw HBD.out) (HS.out.blw HBD.out)) (fun hB => ?_)
        clear hK K hB
        try simp only [Act.put, List.setIfInBounds_toArray, List.set_cons_zero, List.set_cons_succ]
        clear t0 t1 t2 t3 f0 f1 f2 f3
        generalize ((((y3.setCell ⟨wd.heap.size, 0, none⟩ (.slice v2.b.a1 R.B.n v2.b.c1)).setCell ⟨wd.heap.size, 1, none⟩ (.slice v2.b.a2 R.B.D.n v2.b.c2)).setCell ⟨wd.heap.size, 2, none⟩ (.slice v2.a R.n v2.q)).setCell ⟨wd.heap.size, 3, none⟩ (.int .i64 R.h)) = W12 at *
        refine wpAnyH_take (i := 9) (oi := { dst := some 14, op := Op.assign (Operand.tmp 48), type := 3, pos := _, after := #[{ on := 6, ground := Ground.data }, { on := 8, ground := Ground.chain }, { on := 0, ground := Ground.phase }, { on := 1, ground := Ground.phase }, { on := 2, ground := Ground.phase }, { on := 3, ground := Ground.phase }, { on := 4, ground := Ground.phase }, { on := 5, ground := Ground.phase }, { on := 6, ground := Ground.phase }, { on := 7, ground := Ground.phase }, { on := 8, ground := Ground.phase }], guard := none }) (v := (.int .i64 xx)) rfl (by kernel_rfl) (by kernel_rfl) (by kernel_rfl) (fun _ _ _ h => h) (Or.inl ⟨by rfl, fun w' hS => by (try dsimp only at hS); go_simp⟩) (cx8 (HG.out.box.blw HBD.out) (HS.out.blw HBD.out)) ?_
        simp only [Act.put, List.setIfInBounds_toArray, List.set_cons_zero, List.set_cons_succ]
        refine wpAnyH_done (by kernel_rfl) ?_ _
        refine NoPanic.normal ?_
        replace HG : Hid (GW w W12 zt v D u j A) := HG.out.go HBD.out
        have HGP : Hid (GW w ((((W12.setCell ⟨zt, 0, none⟩ (.slice v2.b.a1 R.B.n v2.b.c1)).setCell ⟨zt, 1, none⟩ (.slice v2.b.a2 R.B.D.n v2.b.c2)).setCell ⟨zt, 2, none⟩ (.slice v2.a R.n v2.q)).setCell ⟨zt, 3, none⟩ (.int .i64 R.h)) zt v2 R u j A) := HG.out.put HO2.out (by have := HLO.out.1; omega) HLO.out.2 (HG.out.g.step (Or.inr ⟨HYR.out, HO.out⟩))
        obtain ⟨p0, p1, p2, p3⟩ := get4 HX.out
        obtain ⟨t0, t1, t2, t3⟩ := get4 HG.out.box
        have f0 := HG.out.box.frozen 0
        have f1 := HG.out.box.frozen 1
        have f2 := HG.out.box.frozen 2
        have f3 := HG.out.box.frozen 3
        go_upto_region 13 with fail
        clear p0 p1 p2 p3 t0 t1 t2 t3 f0 f1 f2 f3 HG HX HO2 HBD HS
        generalize ((((W12.setCell ⟨zt, 0, none⟩ (.slice v2.b.a1 R.B.n v2.b.c1)).setCell ⟨zt, 1, none⟩ (.slice v2.b.a2 R.B.D.n v2.b.c2)).setCell ⟨zt, 2, none⟩ (.slice v2.a R.n v2.q)).setCell ⟨zt, 3, none⟩ (.int .i64 R.h)) = W13 at *
        have HG : Hid (GW w W13 zt v2 R u j A) := HGP.out
        clear HGP
        obtain ⟨ao2, cap2, w5, hrun, hG2⟩ := GW.push HG.out (by omega) xx
        have HRN : Hid _ := hrun
        have HN : Hid (∃ Ds A v D, WPlays (newK k0) F (j + 1) Ds A ∧ Ds (j + 1) = D ∧ GW w w5 zt v D (.slice ao2 (j + 1) cap2) (j + 1) A) := ⟨_, _, _, _, HNX.out _ xx (Or.inr ⟨HYR.out, HO.out⟩), by show (if j + 1 = j + 1 then _ else Ds (j + 1)) = _; exact if_pos rfl, hG2⟩
        clear hrun hG2 HG HNX HYR HO HLO HZX
        go_wp2_with (first | (at_builtin; refine wpList_app (.tmp 50) (.tmp 52) 26 (by rfl) ?_; refine ⟨_, _, HRN.out, ?_⟩) | fail)
        go_roundw
        case rel => exact ⟨j + 1, by omega, by go_num, HN.out⟩
        case measure => simp [intOf]; omega
    · obtain rfl : j = n := by omega
      clear HL
      obtain ⟨p0, p1, p2, p3⟩ := get4 HG.out.box
      go_wp2_with fail
      clear p0 p1 p2 p3
      refine (l7Own_any v D _ _ HG.out.g HG.out.at_).mono ?_
      rintro e w9 ⟨v9, rfl, hw9, hb9⟩
      have HW9 : Hid (WkAt (fun x => wr.heap.size ≤ x ∧ x < w9.heap.size) w9 v9 D) := hw9
      have HGG : Hid (WG D) := HG.out.g
      obtain ⟨ao3, cap3, hv, hown⟩ := BufI.own (Buf.blw HG.out.buf hb9) (by omega)
      subst hv
      have HI9 : Hid (IntsAt (fun x => w.heap.size < x ∧ x < wr.heap.size) w9 ao3 j A) := hown.at.mono (fun x hx => hx.1)
      have HR9 : Hid (Row w9 w.heap.size 4 (fun i => if i = 0 then .slice none 0 0 else if i = 1 then .slice none 0 0 else if i = 2 then .slice none 0 0 else .int .i64 0)) := HG.out.r0.blw hb9
      have HB9 : Hid (Blw w w9) := HG.out.blw.trans hb9
      have HS9 : Hid (w.heap.size < wr.heap.size ∧ wr.heap.size ≤ w9.heap.size) := ⟨HG.out.r0.lt, hb9.size⟩
      clear hw9 hb9 hown HG
      have HF : Hid (GivesWA (pwO k0 j F) w (.returned (.tuple #[v9.val D, .slice ao3 j cap3, .bool true])) ((((w9.setCell ⟨w.heap.size, 0, none⟩ (.slice v9.b.a1 D.B.n v9.b.c1)).setCell ⟨w.heap.size, 1, none⟩ (.slice v9.b.a2 D.B.D.n v9.b.c2)).setCell ⟨w.heap.size, 2, none⟩ (.slice v9.a D.n v9.q)).setCell ⟨w.heap.size, 3, none⟩ (.int .i64 D.h))) := by
        have m := set4_mod (w := w9) (z := w.heap.size) (.slice v9.b.a1 D.B.n v9.b.c1) (.slice v9.b.a2 D.B.D.n v9.b.c2) (.slice v9.a D.n v9.q) (.int .i64 D.h)
        have hs := m.size
        have hz := HS9.out
        exact ⟨v9, D, ao3, j, cap3, A, true, rfl, Or.inl ⟨HY.out.1, rfl, rfl, Ds, A, HP.out.1, HP.out.2.symm, fun i hi => rfl⟩, ⟨HGG.out.small, hn⟩, (HW9.out.mod m (fun x hx e => by omega)).mono (fun x hx => by omega), (HI9.out.mod m (fun x hx e => by omega)).mono (fun x hx => by omega), Mod.blw HB9.out m (fun i hi => by omega)⟩
      obtain ⟨t0, t1, t2, t3⟩ := get4 HR9.out
      have f0 := HR9.out.frozen 0
      have f1 := HR9.out.frozen 1
      have f2 := HR9.out.frozen 2
      have f3 := HR9.out.frozen 3
      clear HR9 HB9 HS9 HI9 HW9 HGG HP HY
      go_wp2
      exact bodyPost_ret (v := .tuple #[v9.val D, .slice ao3 j cap3, .bool true]) (by simp [results, Try.results17, go_sem, t0, t1, t2, t3]) rfl HF.out
end Go.Proofs.Ytbpdopcdhnemfaa
