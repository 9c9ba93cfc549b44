/- 'impl.StoreAll'. -/
import Derived.Test.YtnbcjdoohmjghaaStoreA
namespace Go.Proofs.Ytnbcjdoohmjghaa
open Go.RowKit
set_option linter.unusedSimpArgs false
set_option maxHeartbeats 800000 in
theorem isStretch_yes (a n : Int) (w : World) (h : stretch a n) : Calls Try.prog 100 #[.int .i64 a, .int .i64 n] w fun e w' => e = .returned (.bool true) ∧ w' = w := by
  obtain ⟨⟨h1, h2⟩, ⟨h3, h4⟩, h5⟩ := h
  go_enter Try.func100, Try.ntmps100
  go_wp2_with fail
  refine (isPlace_yes _ _ h1 h2).mono ?_
  rintro e w ⟨rfl, rfl⟩
  have e1 : decide (a + n ≤ 48) = true := decide_eq_true h5
  have e2 : decide (0 ≤ n) = true := decide_eq_true h3
  have e3 : decide (n ≤ 8) = true := decide_eq_true h4
  go_wp2
  go_ret
  exact ⟨rfl, rfl⟩
set_option maxHeartbeats 800000 in
theorem isStretch_no (a n : Int) (w : World) (h : ¬ stretch a n) : Calls Try.prog 100 #[.int .i64 a, .int .i64 n] w fun e w' => e = .returned (.bool false) ∧ w' = w := by
  have HH : Hid (¬ stretch a n) := h
  clear h
  go_enter Try.func100, Try.ntmps100
  go_wp2_with fail
  by_cases h1 : 0 ≤ a ∧ a ≤ 47
  · refine (isPlace_yes _ _ h1.1 h1.2).mono ?_
    rintro e w ⟨rfl, rfl⟩
    by_cases h2 : 0 ≤ n
    · have e2 : decide (0 ≤ n) = true := decide_eq_true h2
      by_cases h3 : n ≤ 8
      · have e3 : decide (n ≤ 8) = true := decide_eq_true h3
        have h4 : ¬ (a + n ≤ 48) := fun h => HH.out ⟨h1, ⟨h2, h3⟩, h⟩
        have e1 : decide (a + n ≤ 48) = false := decide_eq_false h4
        obtain ⟨h11, h12⟩ := h1
        go_wp2
        go_ret
        exact ⟨rfl, rfl⟩
      · have e3 : decide (n ≤ 8) = false := decide_eq_false h3
        clear h1
        go_wp2
        go_ret
        exact ⟨rfl, rfl⟩
    · have e2 : decide (0 ≤ n) = false := decide_eq_false h2
      clear h1
      go_wp2
      go_ret
      exact ⟨rfl, rfl⟩
  · have N1 : Hid (¬ (0 ≤ a ∧ a ≤ 47)) := h1
    clear h1
    refine (isPlace_no _ _ N1.out).mono ?_
    rintro e w ⟨rfl, rfl⟩
    go_wp2
    go_ret
    exact ⟨rfl, rfl⟩
set_option maxRecDepth 10000 in
set_option maxHeartbeats 1600000 in
theorem implStoreAll_any (m : MV) (M : MD) (Y Y2 : Nat → Prop) (w : World) (at_ : Int) (ao : Option Addr) (n c : Nat) (f : Nat → Int) (h : MemAt Y w m M) (hI : IntsAt Y2 w ao n f) :
    Calls Try.prog 35 #[m.val M, .int .i64 at_, .slice ao n c] w (Gives (saOut M at_ n f) w) := by
  go_enter Try.func35, Try.ntmps35
  go_wp2_with fail
  have hb0 : Blw w ((w.alloc (.cells #[.slice m.a1 M.n1 m.c1, .slice m.a2 M.n2 m.c2, .slice m.a3 M.n3 m.c3] 26)).alloc (.cells #[.slice none 0 0, .slice none 0 0, .slice none 0 0] 26)) := ((Blw.refl _).alloc _).alloc _
  have rR := res_row w (.slice m.a1 M.n1 m.c1) (.slice m.a2 M.n2 m.c2) (.slice m.a3 M.n3 m.c3)
  refine (holdMemory_any m M Y _ (h.blw hb0)).mono ?_
  rintro e w1 ⟨hr, hb1⟩
  replace rR := rR.blw hb1
  replace hb1 := hb0.trans hb1
  have r79 := row79 w1
  have zw := hb1.size
  have rlt := rR.lt
  clear h hb0
  rcases hr with ⟨good, cs, z1, z2, rfl⟩ | ⟨bad, rfl⟩
  · have hi : (Try.prog.info? 98).map (·.size) = some cs.size := by rw [z1]; exact info79
    have one := one_cells' z1 z2
    have GD : Hid M.Good := good
    clear good
    go_wp2_with (refine wpList_store_row rfl 98 (.tmp 8) (.tmp 15) rfl w1.heap.size 0 cs rfl rfl 108 _ (hcell M.v1 M.v2 M.d) r79 (by omega) hi one (fun j hj => z2 j (by omega)) ?_; intro wz qz1 qz2 qz3; have hz := held_facts hb1 rR qz1 qz2 z1; obtain ⟨rH, hbz, rZ⟩ := hz; clear qz1 qz2 qz3)
    have zlt := rH.lt
    clear r79 hi one z1 z2 rR hb1
    by_cases hst : stretch at_ n
    · have HT : Hid (stretch at_ n) := hst
      clear hst
      refine (isStretch_yes _ _ _ HT.out).mono ?_
      rintro e wz ⟨rfl, rfl⟩
      go_wp2_with fail
      obtain ⟨a, rfl⟩ := Int.eq_ofNat_of_zero_le HT.out.1.1
      have ha : a + n ≤ 48 := by have := HT.out.2.2; omega
      have hn8 : n ≤ 8 := by have := HT.out.2.1.2; omega
      have HZ : Hid _ := And.intro rH (And.intro rZ hbz)
      clear rH rZ hbz zlt
      generalize w1.heap.size = z at *
      go_loopw [29] (fun i wr => ∃ k : Nat, k ≤ n ∧ i = .int .i64 k ∧ (∀ t, t < k → 0 ≤ f t ∧ f t ≤ 65535) ∧ Row wr z 108 (hcell M.v1 (saC M.v2 a f k) (saD M.d a k)) ∧ Row wr (w.heap.size + 1) 3 (fun _ => .slice none 0 0) ∧ Blw w wr) (fun i _ => n - (intOf i).toNat)
      case atStart => exact ⟨0, by omega, rfl, fun t ht => absurd ht (Nat.not_lt_zero _), HZ.out.1, HZ.out.2.1, HZ.out.2.2⟩
      case round =>
        obtain ⟨k, hk, rfl, hok, rH, rZ, hbz⟩ := hrel
        have HO : Hid (∀ t, t < k → 0 ≤ f t ∧ f t ≤ 65535) := hok
        clear HZ hok
        by_cases hlt : k < n
        · obtain ⟨b0, o0, rfl, -, cell⟩ := (hI.blw hbz).2 k hlt
          have hlt' : (k : Int) < n := by omega
          go_wp2_with fail
          by_cases hx : wordOK (f k)
          · have HX : Hid (wordOK (f k)) := hx
            clear hx
            refine (isWord_yes _ _ HX.out).mono ?_
            rintro e wr ⟨rfl, rfl⟩
            go_wp2_with fail
            have ek : ((a : Int) + (k : Int)) = ((a + k : Nat) : Int) := by omega
            rw [ek]
            clear ek
            refine (storeWord_any _ _ _ _ (a + k) (f k) _ (by omega) rH).mono ?_
            rintro e w4 ⟨⟨v, rfl⟩, rH4, hm4⟩
            have J : Row w4 z 108 (hcell M.v1 (saC M.v2 a f (k + 1)) (saD M.d a (k + 1))) ∧ Row w4 (w.heap.size + 1) 3 (fun _ => .slice none 0 0) ∧ Blw w w4 := ⟨rH4, rZ.mod hm4 (by omega), Mod.blw hbz hm4 (fun i hi => by omega)⟩
            have HO' : Hid (∀ t, t < k + 1 → 0 ≤ f t ∧ f t ≤ 65535) := fun t ht => by
              by_cases e : t = k
              · subst e; exact HX.out
              · exact HO.out t (by omega)
            clear rH rZ hbz rH4 hm4 cell HO
            go_wp2
            go_roundw
            case rel => exact ⟨k + 1, by omega, by go_num, HO'.out, J⟩
            case measure => simp [intOf]; omega
          · have NX : Hid (¬ wordOK (f k)) := hx
            clear hx
            obtain ⟨⟨x0, x1, x2⟩, f0, f1, f2⟩ := res6 rZ
            refine (isWord_no _ _ NX.out).mono ?_
            rintro e wr ⟨rfl, rfl⟩
            clear rH rZ cell
            go_wp2
            exact bodyPost_ret (v := .tuple #[.agg #[.slice none 0 0, .slice none 0 0, .slice none 0 0], .bool false]) (by simp [results, Try.results35, go_sem, x0, x1, x2]) rfl (zero_gives (Or.inr ⟨fun g => NX.out (g.2.2 k hlt), rfl, rfl⟩) hbz)
        · obtain rfl : k = n := by omega
          have zr := rZ.lt
          go_wp2_with fail
          refine (giveOut_any _ _ _ _ _ rH).mono ?_
          rintro e w7 ⟨m4, rfl, own, hb4⟩
          simp only [MV.val, MD.full]
          obtain ⟨⟨x0, x1, x2⟩, f0, f1, f2⟩ := res6 (rZ.blw hb4)
          replace hbz := hbz.trans hb4
          clear rH rZ hb4
          go_wp2
          exact bodyPost_ret (v := .tuple #[.agg #[.slice m4.a1 12 m4.c1, .slice m4.a2 12 m4.c2, .slice m4.a3 12 m4.c3], .bool true]) (by simp [results, Try.results35, go_sem, x0, x1, x2]) rfl (some_gives (Or.inl ⟨GD.out, HT.out, HO.out, rfl, rfl⟩) hbz own (fun b hb => by have := hb.1; have := hb.2; exact ⟨by omega, by omega⟩) rfl)
    · have NX : Hid (¬ stretch at_ n) := hst
      obtain ⟨⟨x0, x1, x2⟩, f0, f1, f2⟩ := res6 rZ
      clear hst rH rZ
      refine (isStretch_no _ _ _ NX.out).mono ?_
      rintro e wz ⟨rfl, rfl⟩
      go_wp2
      exact bodyPost_ret (v := .tuple #[.agg #[.slice none 0 0, .slice none 0 0, .slice none 0 0], .bool false]) (by simp [results, Try.results35, go_sem, x0, x1, x2]) rfl (zero_gives (Or.inr ⟨fun g => NX.out g.2.1, rfl, rfl⟩) hbz)
  · have NG : Hid (¬ M.Good) := bad
    clear bad
    go_wp2_with (refine wpList_store_row rfl 98 (.tmp 8) (.tmp 15) rfl w1.heap.size 0 Try.zeroCells98 rfl rfl 108 _ (hcell zeros zeros (fun _ => false)) r79 (by rw [size79]; omega) (by rw [size79]; exact info79) one79 cell79 ?_; intro wz qz1 qz2 qz3; have hz := held_facts hb1 rR qz1 qz2 size79; obtain ⟨rH, hbz, rZ⟩ := hz; obtain ⟨⟨x0, x1, x2⟩, f0, f1, f2⟩ := res6 rZ; clear qz1 qz2 qz3 rH rZ)
    exact bodyPost_ret (v := .tuple #[.agg #[.slice none 0 0, .slice none 0 0, .slice none 0 0], .bool false]) (by simp [results, Try.results35, go_sem, x0, x1, x2]) rfl (zero_gives (Or.inr ⟨fun g => NG.out g.1, rfl, rfl⟩) hbz)
end Go.Proofs.Ytnbcjdoohmjghaa
