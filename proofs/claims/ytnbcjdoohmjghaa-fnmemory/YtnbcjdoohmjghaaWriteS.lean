/- 'impl.WriteSlot' and 'spec.WriteSlot'. -/
import Derived.Test.YtnbcjdoohmjghaaStoreB
import Derived.Test.YtnbcjdoohmjghaaNext
import Derived.Test.YtnbcjdoohmjghaaLawSI
namespace Go.Proofs.Ytnbcjdoohmjghaa
open Go.RowKit
set_option linter.unusedSimpArgs false
/-- The words of a slot. -/
def slotF (e a b : Int) : Nat → Int := fun i => if i = 0 then e else if i = 1 then a else if i = 2 then b else sumOf e a b
/-- What WriteSlot answers. -/
def wsOut (M : MD) (e a b : Int) (M' : MD) (ok : Bool) : Prop := (slotOK e a b ∧ saOut M (e % 2 * 4) 4 (slotF e a b) M' ok) ∨ (¬ slotOK e a b ∧ M' = MZ ∧ ok = false)
theorem wsOut_same {M M1 M2 : MD} {e a b : Int} {x y : Bool} (h : wsOut M e a b M1 x) (k : wsOut M e a b M2 y) : M1 = M2 ∧ x = y := by
  rcases h with ⟨g, h⟩ | ⟨g, rfl, rfl⟩ <;> rcases k with ⟨g', k⟩ | ⟨g', rfl, rfl⟩
  · exact saOut_same h k
  · exact absurd g g'
  · exact absurd g' g
  · exact ⟨rfl, rfl⟩
theorem wsOut_total {M M1 : MD} {e a b : Int} {x : Bool} (h : wsOut M e a b M1 x) : M1.total ≤ 108 := by
  rcases h with ⟨g, h⟩ | ⟨g, rfl, rfl⟩
  · exact saOut_total h
  · rw [total_zero]; omega
theorem zero_givesR {out : MD → Bool → Prop} {w w1 : World} {R : Nat} (hR : w.heap.size ≤ R) (ho : out MZ false) (hb : Blw w w1) :
    Gives out w (.returned (.tuple #[.agg #[.slice none 0 0, .slice none 0 0, .slice none 0 0], .bool false])) (((w1.setCell ⟨R, 0, none⟩ (.slice none 0 0)).setCell ⟨R, 1, none⟩ (.slice none 0 0)).setCell ⟨R, 2, none⟩ (.slice none 0 0)) :=
  ⟨mz, MZ, false, rfl, ho, own_zero _ _, Mod.blw hb (mod_set3 w1 _ _ _ _) (fun i hi => by omega)⟩
theorem some_givesR {out : MD → Bool → Prop} {w w1 : World} {X : Nat → Prop} {m : MV} {M : MD} {ok : Bool} {R : Nat} (hR : w.heap.size ≤ R) (ho : out M ok) (hb : Blw w w1) (own : MemOwn X w1 m M) (hx : ∀ b, X b → R < b ∧ b < w1.heap.size) {a b c : Value} (ha : Value.agg #[a, b, c] = m.val M) :
    Gives out w (.returned (.tuple #[.agg #[a, b, c], .bool ok])) (((w1.setCell ⟨R, 0, none⟩ a).setCell ⟨R, 1, none⟩ b).setCell ⟨R, 2, none⟩ c) :=
  ⟨m, M, ok, by rw [ha], ho, own_out own hx (mod_set3 w1 _ _ _ _) hR, Mod.blw hb (mod_set3 w1 _ _ _ _) (fun i hi => by omega)⟩
theorem row4i (w : World) (a b c d : Int) (t : TypeId) : Row (w.alloc (.cells #[.int .i64 a, .int .i64 b, .int .i64 c, .int .i64 d] t)) w.heap.size 4 (fun i => .int .i64 (if i = 0 then a else if i = 1 then b else if i = 2 then c else d)) :=
  ⟨_, t, heap_alloc_new _ _, by simp, fun i hi => by
    match i, hi with
    | 0, _ => rfl
    | 1, _ => rfl
    | 2, _ => rfl
    | 3, _ => rfl⟩
/-- The boxes at a function's start: the memory, the slot, the result. -/
theorem boxes3 (w : World) (m : MV) (M : MD) (e a b : Int) :
    Blw w (((w.alloc (.cells #[.slice m.a1 M.n1 m.c1, .slice m.a2 M.n2 m.c2, .slice m.a3 M.n3 m.c3] 26)).alloc (.cells #[.int .i64 e, .int .i64 a, .int .i64 b] 56)).alloc (.cells #[.slice none 0 0, .slice none 0 0, .slice none 0 0] 26)) ∧
    Box (((w.alloc (.cells #[.slice m.a1 M.n1 m.c1, .slice m.a2 M.n2 m.c2, .slice m.a3 M.n3 m.c3] 26)).alloc (.cells #[.int .i64 e, .int .i64 a, .int .i64 b] 56)).alloc (.cells #[.slice none 0 0, .slice none 0 0, .slice none 0 0] 26)) w.heap.size m M ∧
    Row (((w.alloc (.cells #[.slice m.a1 M.n1 m.c1, .slice m.a2 M.n2 m.c2, .slice m.a3 M.n3 m.c3] 26)).alloc (.cells #[.int .i64 e, .int .i64 a, .int .i64 b] 56)).alloc (.cells #[.slice none 0 0, .slice none 0 0, .slice none 0 0] 26)) (w.heap.size + 1) 3 (fun i => if i = 0 then Value.int .i64 e else if i = 1 then .int .i64 a else .int .i64 b) ∧
    Row (((w.alloc (.cells #[.slice m.a1 M.n1 m.c1, .slice m.a2 M.n2 m.c2, .slice m.a3 M.n3 m.c3] 26)).alloc (.cells #[.int .i64 e, .int .i64 a, .int .i64 b] 56)).alloc (.cells #[.slice none 0 0, .slice none 0 0, .slice none 0 0] 26)) (w.heap.size + 1 + 1) 3 (fun _ => .slice none 0 0) := by
  refine ⟨(((Blw.refl _).alloc _).alloc _).alloc _, (box3 w _ _ _ 26).blw (((Blw.refl _).alloc _).alloc _), ?_, ?_⟩
  · have := (box3 (w.alloc (.cells #[.slice m.a1 M.n1 m.c1, .slice m.a2 M.n2 m.c2, .slice m.a3 M.n3 m.c3] 26)) (.int .i64 e) (.int .i64 a) (.int .i64 b) 56).blw ((Blw.refl _).alloc (.cells #[.slice none 0 0, .slice none 0 0, .slice none 0 0] 26))
    rw [World.size_alloc] at this
    exact this
  · have := row_box ((w.alloc (.cells #[.slice m.a1 M.n1 m.c1, .slice m.a2 M.n2 m.c2, .slice m.a3 M.n3 m.c3] 26)).alloc (.cells #[.int .i64 e, .int .i64 a, .int .i64 b] 56)) 26
    rw [World.size_alloc, World.size_alloc] at this
    exact this
set_option maxHeartbeats 1600000 in
theorem implWrite_any (m : MV) (M : MD) (Y : Nat → Prop) (w : World) (e a b : Int) (h : MemAt Y w m M) :
    Calls Try.prog 47 #[m.val M, slotV e a b] w (Gives (wsOut M e a b) w) := by
  go_enter Try.func47, Try.ntmps47
  go_wp2_with fail
  obtain ⟨hb0, rA, rS, rR⟩ := boxes3 w m M e a b
  by_cases hs : slotOK e a b
  · have HS : Hid (slotOK e a b) := hs
    refine (recordOf_yes e a b _ hs).mono ?_
    rintro r w1 ⟨rfl, hb1⟩
    clear hs
    have hA : Blw w1 (w1.alloc (.cells #[.int .i64 (e % 2), .int .i64 e, .int .i64 a, .int .i64 b, .int .i64 (sumOf e a b)] 120)) := (Blw.refl _).alloc _
    replace rA := (rA.blw hb1).blw hA
    replace rS := (rS.blw hb1).blw hA
    replace rR := (rR.blw hb1).blw hA
    replace hb1 := (hb0.trans hb1).trans hA
    clear hb0
    obtain ⟨p0, p1, p2⟩ := get3 rA
    obtain ⟨q0, q1, q2⟩ := get3 rS
    have e1 := HS.out.1.1
    have e2 := HS.out.1.2
    clear hA
    go_wp2_with fail
    have r4 := row4i (w1.alloc (.cells #[.int .i64 (e % 2), .int .i64 e, .int .i64 a, .int .i64 b, .int .i64 (sumOf e a b)] 120)) e a b (sumOf e a b) 3
    rw [World.size_alloc] at r4
    have hB : Blw (w1.alloc (.cells #[.int .i64 (e % 2), .int .i64 e, .int .i64 a, .int .i64 b, .int .i64 (sumOf e a b)] 120)) ((w1.alloc (.cells #[.int .i64 (e % 2), .int .i64 e, .int .i64 a, .int .i64 b, .int .i64 (sumOf e a b)] 120)).alloc (.cells #[.int .i64 e, .int .i64 a, .int .i64 b, .int .i64 (sumOf e a b)] 3)) := (Blw.refl _).alloc _
    refine (implStoreAll_any m M Y _ _ (e % 2 * 4) _ 4 4 (slotF e a b) ((h.blw hb1).blw hB) (ints_row r4 (by omega))).mono ?_
    rintro r w2 ⟨m2, M2, ok, rfl, hout, own, hb2⟩
    have rlt := rR.lt
    have zB := hB.size
    replace hb2 := hB.trans hb2
    obtain ⟨⟨x0, x1, x2⟩, f0, f1, f2⟩ := res6 (rR.blw hb2)
    replace hb2 := hb1.trans hb2
    have HO : Hid (saOut M (e % 2 * 4) 4 (slotF e a b) M2 ok) := hout
    clear p0 p1 p2 q0 q1 q2 e1 e2 r4 hB rA rS rR hb1 hout h
    go_wp2
    exact bodyPost_ret (v := .tuple #[m2.val M2, .bool ok]) (by simp [results, Try.results47, go_sem, x0, x1, x2]) rfl (some_givesR (by omega) (Or.inl ⟨HS.out, HO.out⟩) hb2 own (fun b hb => ⟨by have := hb.1; omega, hb.2⟩) rfl)
  · have HS : Hid (¬ slotOK e a b) := hs
    refine (recordOf_no e a b _ hs).mono ?_
    rintro r w1 ⟨rfl, hb1⟩
    have hA : Blw w1 (w1.alloc (.cells z5 120)) := (Blw.refl _).alloc _
    replace hb1 := hb1.trans hA
    obtain ⟨⟨x0, x1, x2⟩, f0, f1, f2⟩ := res6 (rR.blw hb1)
    replace hb1 := hb0.trans hb1
    clear hs hb0 rA rS rR h hA
    go_wp2
    exact bodyPost_ret (v := .tuple #[.agg #[.slice none 0 0, .slice none 0 0, .slice none 0 0], .bool false]) (by simp [results, Try.results47, go_sem, x0, x1, x2]) rfl (zero_givesR (by omega) (Or.inr ⟨HS.out, rfl, rfl⟩) hb1)
theorem Mod.drew {X : Nat → Prop} {a b : World} (h : Mod X a b) : Mod X a b.drew := ⟨h.os, h.tape, h.output, h.size, h.block⟩
theorem Mod.alloc {X : Nat → Prop} {a b : World} (h : Mod X a b) (o : Obj) : Mod X a (b.alloc o) := h.trans (((Blw.refl b).alloc o).mod X)
theorem Mod.setBlw {X : Nat → Prop} {a b c : World} (h : Mod X a b) (k : Blw b c) : Mod X a c := h.trans (k.mod X)
theorem box3_mod {w : World} {B R : Nat} {a b c : Value} (r : Row w B 3 (fun i => if i = 0 then a else if i = 1 then b else c)) (hR : B ≠ R) :
    (∀ w', Mod (fun x => x = R) w w' → w'.cell? ⟨B, 0, none⟩ = some a) ∧ (∀ w', Mod (fun x => x = R) w w' → w'.cell? ⟨B, 1, none⟩ = some b) ∧ (∀ w', Mod (fun x => x = R) w w' → w'.cell? ⟨B, 2, none⟩ = some c) :=
  ⟨fun _ h => (get3 (r.mod h hR)).1, fun _ h => (get3 (r.mod h hR)).2.1, fun _ h => (get3 (r.mod h hR)).2.2⟩
theorem ints4 (w : World) (e a b : Int) : IntsAt (fun x => x = w.heap.size) (w.alloc (.cells #[.int .i64 e, .int .i64 a, .int .i64 b, .int .i64 (sumOf e a b)] 3)) (some ⟨w.heap.size, 0, none⟩) 4 (slotF e a b) := ints_row (row4i w e a b (sumOf e a b) 3) (by omega)
set_option maxRecDepth 10000 in
set_option maxHeartbeats 6400000 in
theorem specWrite_any (m : MV) (M : MD) (Y : Nat → Prop) (w : World) (e a b : Int) (h : MemAt Y w m M) :
    Calls Try.prog 52 #[m.val M, slotV e a b] w (Gives (wsOut M e a b) w) := by
  go_enter Try.func52, Try.ntmps52
  go_wp2_with fail
  obtain ⟨hb0, rA, rS, rR⟩ := boxes3 w m M e a b
  by_cases hs : slotOK e a b
  · have HS : Hid (slotOK e a b) := hs
    refine (l2Slot_yes e a b _ hs).mono ?_
    rintro r w1 ⟨rfl, hb1⟩
    clear hs
    replace rA := rA.blw hb1
    replace rS := rS.blw hb1
    replace rR := rR.blw hb1
    replace hb1 := hb0.trans hb1
    clear hb0
    have e1 := HS.out.1.1
    have e2 := HS.out.1.2
    have hwr : IntKind.i64.wrap (e.tmod 2 * 4) = e % 2 * 4 := by
      rw [Int.tmod_eq_emod_of_nonneg (by omega)]
      have h2 : e % 2 = 0 ∨ e % 2 = 1 := by omega
      rcases h2 with h2 | h2 <;> rw [h2] <;> rfl
    have H1 : Hid (MemAt Y w1 m M) := h.blw hb1
    obtain ⟨A0, A1, A2⟩ := box3_mod (R := w.heap.size + 1 + 1) rA (by omega)
    obtain ⟨S0, S1, S2⟩ := box3_mod (R := w.heap.size + 1 + 1) rS (by omega)
    have HR : Hid (Row w1 (w.heap.size + 1 + 1) 3 (fun _ => .slice none 0 0)) := rR
    have zR := rR.lt
    clear rA rS rR h
    go_wp2_with fail
    go_region_held3 (fun w' => Mod (fun x => x = w.heap.size + 1 + 1) w1 w') ((first | exact (Mod.refl _ _).drew | assumption | exact Mod.setBlw (by assumption) (by assumption) | exact Mod.alloc (by assumption) _ | exact Mod.trans (Blw.mod (by assumption) _) (mod_set3 _ _ _ _ _))) (first
      | (go_at_call 109; refine (l2Sum_any e a b _ HS.out).mono ?_; rintro r w2 ⟨rfl, hb2⟩)
      | (go_at_call 36; have hb12 : Blw w1 w2 := Blw.trans (Blw.refl w1).drew hb2; refine (specStoreAll_any m M Y _ _ (e % 2 * 4) _ 4 4 (slotF e a b) (by exact H1.out.blw (hb12.alloc _)) (by exact ints4 _ e a b)).mono ?_; rintro r w3 ⟨m3, M3, ok, rfl, hout, own, hb3⟩; have hb13 : Blw w1 w3 := (hb12.alloc _).trans hb3; obtain ⟨⟨x0, x1, x2⟩, f0, f1, f2⟩ := res6 (HR.out.blw hb13)))
    all_goals go_wp2
    all_goals have zz := hb12.size
    all_goals exact bodyPost_ret (v := .tuple #[m3.val M3, .bool ok]) (by simp [results, Try.results52, go_sem, x0, x1, x2]) rfl (some_givesR (by omega) (Or.inl ⟨HS.out, hout⟩) (hb1.trans hb13) own (fun b hb => ⟨by have := hb.1; rw [World.size_alloc] at this; omega, hb.2⟩) rfl)
  · have HS : Hid (¬ slotOK e a b) := hs
    refine (l2Slot_no e a b _ hs).mono ?_
    rintro r w1 ⟨rfl, hb1⟩
    obtain ⟨⟨x0, x1, x2⟩, f0, f1, f2⟩ := res6 (rR.blw hb1)
    replace hb1 := hb0.trans hb1
    clear hs hb0 rA rS rR h
    go_wp2
    exact bodyPost_ret (v := .tuple #[.agg #[.slice none 0 0, .slice none 0 0, .slice none 0 0], .bool false]) (by simp [results, Try.results52, go_sem, x0, x1, x2]) rfl (zero_givesR (by omega) (Or.inr ⟨HS.out, rfl, rfl⟩) hb1)
end Go.Proofs.Ytnbcjdoohmjghaa
