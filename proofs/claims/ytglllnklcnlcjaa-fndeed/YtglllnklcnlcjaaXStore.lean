/- 'spec.Store' and 'impl.Store'. -/
import Derived.Test.YtglllnklcnlcjaaStoreW
namespace Go.Proofs.Ytglllnklcnlcjaa
open Go.RowKit
set_option linter.unusedSimpArgs false
/-- A function of a memory and true: what it answers, in new memory. -/
abbrev Gives (out : MD → Bool → Prop) (w : World) (e : Ending) (w' : World) : Prop :=
  ∃ (m : MV) (M : MD) (b : Bool), e = .returned (.tuple #[m.val M, .bool b]) ∧ out M b ∧ MemOwn (fun b => w.heap.size ≤ b ∧ b < w'.heap.size) w' m M ∧ Blw w w'
/-- What Store answers. -/
def stOut (M : MD) (at_ x : Int) (M' : MD) (b : Bool) : Prop :=
  (M.Good ∧ ∃ n : Nat, at_ = n ∧ n < 48 ∧ (0 ≤ x ∧ x ≤ 65535) ∧ M' = MD.full M.v1 (stC M.v2 n x) (stD M.d n) ∧ b = true) ∨ (¬ (M.Good ∧ (0 ≤ at_ ∧ at_ ≤ 47) ∧ (0 ≤ x ∧ x ≤ 65535)) ∧ M' = MZ ∧ b = false)
theorem total_full (s c : Nat → Nat → Int) (d : Nat → Bool) : (MD.full s c d).total = 108 := by rfl
theorem total_zero : MZ.total = 0 := by rfl
theorem stOut_same {M M1 M2 : MD} {at_ x : Int} {b c : Bool} (h : stOut M at_ x M1 b) (k : stOut M at_ x M2 c) : M1 = M2 ∧ b = c := by
  rcases h with ⟨g, n, rfl, hn, hx, rfl, rfl⟩ | ⟨g, rfl, rfl⟩
  · rcases k with ⟨_, n', e, hn', hx', rfl, rfl⟩ | ⟨g', rfl, rfl⟩
    · obtain rfl : n = n' := by omega
      exact ⟨rfl, rfl⟩
    · exact absurd ⟨g, by omega, hx⟩ g'
  · rcases k with ⟨g', n', e, hn', hx, rfl, rfl⟩ | ⟨g', rfl, rfl⟩
    · exact absurd ⟨g', by omega, hx⟩ g
    · exact ⟨rfl, rfl⟩
theorem stOut_total {M M1 : MD} {at_ x : Int} {b : Bool} (h : stOut M at_ x M1 b) : M1.total ≤ 108 := by
  rcases h with ⟨g, n, rfl, hn, hx, rfl, rfl⟩ | ⟨g, rfl, rfl⟩
  · rw [total_full]; omega
  · rw [total_zero]; omega
theorem res_row (w : World) (a b c : Value) : Row ((w.alloc (.cells #[a, b, c] 26)).alloc (.cells #[.slice none 0 0, .slice none 0 0, .slice none 0 0] 26)) (w.heap.size + 1) 3 (fun _ => .slice none 0 0) := by
  have := row_box (w.alloc (.cells #[a, b, c] 26)) 26
  rw [World.size_alloc] at this
  exact this
theorem res6 {w1 : World} {R : Nat} (r : Row w1 R 3 (fun _ => .slice none 0 0)) : (w1.cell? ⟨R, 0, none⟩ = some (.slice none 0 0) ∧ w1.cell? ⟨R, 1, none⟩ = some (.slice none 0 0) ∧ w1.cell? ⟨R, 2, none⟩ = some (.slice none 0 0)) ∧ (w1.frozen? ⟨R, 0, none⟩ = false ∧ w1.frozen? ⟨R, 1, none⟩ = false ∧ w1.frozen? ⟨R, 2, none⟩ = false) :=
  ⟨⟨r.cell (i := 0) (by omega), r.cell (i := 1) (by omega), r.cell (i := 2) (by omega)⟩, r.frozen 0, r.frozen 1, r.frozen 2⟩
/-- The zero answer, in the result's box. -/
theorem zero_gives {out : MD → Bool → Prop} {w w1 : World} (ho : out MZ false) (hb : Blw w w1) :
    Gives out w (.returned (.tuple #[.agg #[.slice none 0 0, .slice none 0 0, .slice none 0 0], .bool false])) (((w1.setCell ⟨w.heap.size + 1, 0, none⟩ (.slice none 0 0)).setCell ⟨w.heap.size + 1, 1, none⟩ (.slice none 0 0)).setCell ⟨w.heap.size + 1, 2, none⟩ (.slice none 0 0)) :=
  ⟨mz, MZ, false, rfl, ho, own_zero _ _, Mod.blw hb (mod_set3 w1 _ _ _ _) (fun i hi => by omega)⟩
theorem some_gives {out : MD → Bool → Prop} {w w1 : World} {X : Nat → Prop} {m : MV} {M : MD} (ho : out M true) (hb : Blw w w1) (own : MemOwn X w1 m M) (hx : ∀ b, X b → w.heap.size + 1 < b ∧ b < w1.heap.size) {a b c : Value} (ha : Value.agg #[a, b, c] = m.val M) :
    Gives out w (.returned (.tuple #[.agg #[a, b, c], .bool true])) (((w1.setCell ⟨w.heap.size + 1, 0, none⟩ a).setCell ⟨w.heap.size + 1, 1, none⟩ b).setCell ⟨w.heap.size + 1, 2, none⟩ c) :=
  ⟨m, M, true, by rw [ha], ho, own_out own hx (mod_set3 w1 _ _ _ _) (by omega), Mod.blw hb (mod_set3 w1 _ _ _ _) (fun i hi => by omega)⟩
set_option maxHeartbeats 1600000 in
theorem specStore_any (m : MV) (M : MD) (Y : Nat → Prop) (w : World) (at_ x : Int) (h : MemAt Y w m M) :
    Calls Try.prog 110 #[m.val M, .int .i64 at_, .int .i64 x] w (Gives (stOut M at_ x) w) := by
  go_enter Try.func110, Try.ntmps110
  go_wp2_with fail
  have hb0 : Blw w ((w.alloc (.cells #[.slice m.a1 M.n1 m.c1, .slice m.a2 M.n2 m.c2, .slice m.a3 M.n3 m.c3] 26)).alloc (.cells #[.slice none 0 0, .slice none 0 0, .slice none 0 0] 26)) := ((Blw.refl _).alloc _).alloc _
  have rA := (box3 w (.slice m.a1 M.n1 m.c1) (.slice m.a2 M.n2 m.c2) (.slice m.a3 M.n3 m.c3) 26).blw ((Blw.refl _).alloc (.cells #[.slice none 0 0, .slice none 0 0, .slice none 0 0] 26))
  have rR := res_row w (.slice m.a1 M.n1 m.c1) (.slice m.a2 M.n2 m.c2) (.slice m.a3 M.n3 m.c3)
  refine (goodS_any m M Y _ (h.blw hb0)).mono ?_
  rintro e w1 ⟨b, rfl, hgd, hb1⟩
  replace rA := rA.blw hb1
  replace rR := rR.blw hb1
  replace hb1 := hb0.trans hb1
  replace h := h.blw hb1
  clear hb0
  have HG : Hid (b = true ↔ M.Good) := hgd
  clear hgd
  cases b
  · have NG : Hid (¬ M.Good) := fun g => absurd (HG.out.2 g) (by decide)
    obtain ⟨⟨x0, x1, x2⟩, f0, f1, f2⟩ := res6 rR
    clear HG rA h rR
    go_wp2
    exact bodyPost_ret (v := .tuple #[.agg #[.slice none 0 0, .slice none 0 0, .slice none 0 0], .bool false]) (by simp [results, Try.results110, go_sem, x0, x1, x2]) rfl (zero_gives (Or.inr ⟨fun g => NG.out g.1, rfl, rfl⟩) hb1)
  · have GD : Hid M.Good := HG.out.1 rfl
    clear HG
    by_cases hat : 0 ≤ at_ ∧ at_ ≤ 47
    · obtain ⟨n, rfl⟩ := Int.eq_ofNat_of_zero_le hat.1
      have hn : n < 48 := by omega
      clear hat
      go_wp2_with fail
      refine (l1At_yes _ _ (by omega) (by omega)).mono ?_
      rintro e w1 ⟨rfl, rfl⟩
      by_cases hx : 0 ≤ x ∧ x ≤ 65535
      · obtain ⟨p0, p1, p2⟩ := get3 rA
        go_wp2_with fail
        refine (l1In_yes _ _ _ _ hx.1 hx.2).mono ?_
        rintro e w1 ⟨rfl, rfl⟩
        have HX : Hid (0 ≤ x ∧ x ≤ 65535) := hx
        clear hx
        go_wp2_with fail
        clear p0 p1 p2
        refine (l1Own_any m M Y _ GD.out h).mono ?_
        rintro e w2 ⟨m2, rfl, own, hb2⟩
        simp only [MV.val, MD.full]
        have rlt := rR.lt
        replace rR := rR.blw hb2
        have z1 := hb1.size
        replace hb2 := hb1.trans hb2
        clear rA h hb1
        go_wp2_with fail
        have hbA : Blw w2 (w2.alloc (.cells #[.slice m2.a1 12 m2.c1, .slice m2.a2 12 m2.c2, .slice m2.a3 12 m2.c3] 26)) := (Blw.refl _).alloc _
        have rM := box3 w2 (.slice m2.a1 12 m2.c1) (.slice m2.a2 12 m2.c2) (.slice m2.a3 12 m2.c3) 26
        refine (l1Store_any m2 M.v1 M.v2 M.d _ _ n x hn (own.blw hbA) (fun b hb => by have := hb.2; have := hbA.size; omega)).mono ?_
        rintro e w3 ⟨⟨v, rfl⟩, own3, hm3⟩
        obtain ⟨q0, q1, q2⟩ := get3 (rM.mod hm3 (fun hh => by have := hh.2; omega))
        obtain ⟨⟨x0, x1, x2⟩, f0, f1, f2⟩ := res6 ((rR.blw hbA).mod hm3 (fun hh => by have := hh.1; omega))
        have hb3 : Blw w w3 := Mod.blw (hb2.trans hbA) hm3 (fun i hi => by have := hi.1; omega)
        have zA := hbA.size
        have z3 := hm3.size
        clear hbA rM rR own hm3 hb2
        go_wp2
        exact bodyPost_ret (v := .tuple #[.agg #[.slice m2.a1 12 m2.c1, .slice m2.a2 12 m2.c2, .slice m2.a3 12 m2.c3], .bool true]) (by simp [results, Try.results110, go_sem, x0, x1, x2]) rfl (some_gives (Or.inl ⟨GD.out, n, rfl, hn, HX.out, rfl, rfl⟩) hb3 own3 (fun b hb => by have := hb.1; have := hb.2; exact ⟨by omega, by omega⟩) rfl)
      · have NX : Hid (¬ (0 ≤ x ∧ x ≤ 65535)) := hx
        obtain ⟨⟨x0, x1, x2⟩, f0, f1, f2⟩ := res6 rR
        clear hx rA h rR
        go_wp2_with fail
        refine (l1In_no _ _ _ _ NX.out).mono ?_
        rintro e w1 ⟨rfl, rfl⟩
        go_wp2
        exact bodyPost_ret (v := .tuple #[.agg #[.slice none 0 0, .slice none 0 0, .slice none 0 0], .bool false]) (by simp [results, Try.results110, go_sem, x0, x1, x2]) rfl (zero_gives (Or.inr ⟨fun g => NX.out g.2.2, rfl, rfl⟩) hb1)
    · have NX : Hid (¬ (0 ≤ at_ ∧ at_ ≤ 47)) := hat
      obtain ⟨⟨x0, x1, x2⟩, f0, f1, f2⟩ := res6 rR
      clear hat rA h rR
      go_wp2_with fail
      refine (l1At_no _ _ NX.out).mono ?_
      rintro e w1 ⟨rfl, rfl⟩
      go_wp2
      exact bodyPost_ret (v := .tuple #[.agg #[.slice none 0 0, .slice none 0 0, .slice none 0 0], .bool false]) (by simp [results, Try.results110, go_sem, x0, x1, x2]) rfl (zero_gives (Or.inr ⟨fun g => NX.out g.2.1, rfl, rfl⟩) hb1)
/-- Behind the store of a memory held as a value into its box. -/
theorem held_facts {w w1 wz : World} {cs : Array Value} {f g : Nat → Value} {o : Obj} (hb1 : Blw w w1) (rR : Row w1 (w.heap.size + 1) 3 (fun _ => .slice none 0 0)) (q1 : Row wz w1.heap.size 108 (fun i => if 0 ≤ i ∧ i < 0 + cs.size then g (i - 0) else f i)) (q2 : Mod (fun x => x = w1.heap.size) (w1.alloc o) wz) (z1 : cs.size = 108) :
    Row wz w1.heap.size 108 g ∧ Blw w wz ∧ Row wz (w.heap.size + 1) 3 (fun _ => .slice none 0 0) :=
  have h0 : Blw w1 (w1.alloc o) := (Blw.refl _).alloc _
  ⟨held_row q1 z1, Mod.blw (hb1.trans h0) q2 (fun i hi => by have := hb1.size; omega), (rR.blw h0).mod q2 (by have := rR.lt; omega)⟩
end Go.Proofs.Ytglllnklcnlcjaa
