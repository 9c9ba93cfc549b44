/- 'spec.StoreAll' and 'impl.StoreAll'. -/
import Derived.Test.YtnbcjdoohmjghaaWhole
namespace Go.Proofs.Ytnbcjdoohmjghaa
open Go.RowKit
set_option linter.unusedSimpArgs false
/-- The first k words stored from a on. -/
def saC (c : Nat → Nat → Int) (a : Nat) (f : Nat → Int) : Nat → Nat → Nat → Int
  | 0 => c
  | k + 1 => stC (saC c a f k) (a + k) (f k)
def saD (d : Nat → Bool) (a : Nat) : Nat → Nat → Bool
  | 0 => d
  | k + 1 => stD (saD d a k) (a + k)
def stretch (at_ n : Int) : Prop := (0 ≤ at_ ∧ at_ ≤ 47) ∧ (0 ≤ n ∧ n ≤ 8) ∧ at_ + n ≤ 48
/-- What StoreAll answers. -/
def saOut (M : MD) (at_ : Int) (n : Nat) (f : Nat → Int) (M' : MD) (b : Bool) : Prop :=
  (M.Good ∧ stretch at_ n ∧ (∀ i, i < n → 0 ≤ f i ∧ f i ≤ 65535) ∧ M' = MD.full M.v1 (saC M.v2 at_.toNat f n) (saD M.d at_.toNat n) ∧ b = true) ∨ (¬ (M.Good ∧ stretch at_ n ∧ ∀ i, i < n → 0 ≤ f i ∧ f i ≤ 65535) ∧ M' = MZ ∧ b = false)
theorem saOut_same {M M1 M2 : MD} {at_ : Int} {n : Nat} {f : Nat → Int} {b c : Bool} (h : saOut M at_ n f M1 b) (k : saOut M at_ n f M2 c) : M1 = M2 ∧ b = c := by
  rcases h with ⟨g, s, x, rfl, rfl⟩ | ⟨g, rfl, rfl⟩
  · rcases k with ⟨_, _, _, rfl, rfl⟩ | ⟨g', rfl, rfl⟩
    · exact ⟨rfl, rfl⟩
    · exact absurd ⟨g, s, x⟩ g'
  · rcases k with ⟨g', s, x, rfl, rfl⟩ | ⟨g', rfl, rfl⟩
    · exact absurd ⟨g', s, x⟩ g
    · exact ⟨rfl, rfl⟩
theorem saOut_total {M M1 : MD} {at_ : Int} {n : Nat} {f : Nat → Int} {b : Bool} (h : saOut M at_ n f M1 b) : M1.total ≤ 108 := by
  rcases h with ⟨g, s, x, rfl, rfl⟩ | ⟨g, rfl, rfl⟩
  · rw [total_full]; omega
  · rw [total_zero]; omega
set_option maxHeartbeats 800000 in
theorem l1Place_yes (a n : Int) (w : World) (h : stretch a n) : Calls Try.prog 101 #[.int .i64 a, .int .i64 n] w fun e w' => e = .returned (.bool true) ∧ w' = w := by
  obtain ⟨h1, h2, h3⟩ := h
  go_enter Try.func101, Try.ntmps101
  go_wp2_with fail
  refine (l1At_yes _ _ h1.1 h1.2).mono ?_
  rintro e w ⟨rfl, rfl⟩
  go_wp2_with fail
  refine (l1In_yes _ _ _ _ h2.1 h2.2).mono ?_
  rintro e w ⟨rfl, rfl⟩
  obtain ⟨h11, h12⟩ := h1
  obtain ⟨h21, h22⟩ := h2
  have e1 : decide (a + n ≤ 48) = true := decide_eq_true h3
  go_wp2
  go_ret
  exact ⟨rfl, rfl⟩
set_option maxHeartbeats 800000 in
theorem l1Place_no (a n : Int) (w : World) (h : ¬ stretch a n) : Calls Try.prog 101 #[.int .i64 a, .int .i64 n] w fun e w' => e = .returned (.bool false) ∧ w' = w := by
  have HH : Hid (¬ stretch a n) := h
  clear h
  go_enter Try.func101, Try.ntmps101
  go_wp2_with fail
  by_cases h1 : 0 ≤ a ∧ a ≤ 47
  · refine (l1At_yes _ _ h1.1 h1.2).mono ?_
    rintro e w ⟨rfl, rfl⟩
    go_wp2_with fail
    by_cases h2 : 0 ≤ n ∧ n ≤ 8
    · refine (l1In_yes _ _ _ _ h2.1 h2.2).mono ?_
      rintro e w ⟨rfl, rfl⟩
      have h3 : ¬ (a + n ≤ 48) := fun h => HH.out ⟨h1, h2, h⟩
      obtain ⟨h11, h12⟩ := h1
      obtain ⟨h21, h22⟩ := h2
      have e1 : decide (a + n ≤ 48) = false := decide_eq_false h3
      go_wp2
      go_ret
      exact ⟨rfl, rfl⟩
    · have N2 : Hid (¬ (0 ≤ n ∧ n ≤ 8)) := h2
      clear h2 h1
      refine (l1In_no _ _ _ _ N2.out).mono ?_
      rintro e w ⟨rfl, rfl⟩
      go_wp2
      go_ret
      exact ⟨rfl, rfl⟩
  · have N1 : Hid (¬ (0 ≤ a ∧ a ≤ 47)) := h1
    clear h1
    refine (l1At_no _ _ N1.out).mono ?_
    rintro e w ⟨rfl, rfl⟩
    go_wp2
    go_ret
    exact ⟨rfl, rfl⟩
set_option maxHeartbeats 1600000 in
theorem specStoreAll_any (m : MV) (M : MD) (Y Y2 : Nat → Prop) (w : World) (at_ : Int) (ao : Option Addr) (n c : Nat) (f : Nat → Int) (h : MemAt Y w m M) (hI : IntsAt Y2 w ao n f) :
    Calls Try.prog 36 #[m.val M, .int .i64 at_, .slice ao n c] w (Gives (saOut M at_ n f) w) := by
  go_enter Try.func36, Try.ntmps36
  go_wp2_with fail
  have hb0 : Blw w ((w.alloc (.cells #[.slice m.a1 M.n1 m.c1, .slice m.a2 M.n2 m.c2, .slice m.a3 M.n3 m.c3] 26)).alloc (.cells #[.slice none 0 0, .slice none 0 0, .slice none 0 0] 26)) := ((Blw.refl _).alloc _).alloc _
  have rA := (box3 w (.slice m.a1 M.n1 m.c1) (.slice m.a2 M.n2 m.c2) (.slice m.a3 M.n3 m.c3) 26).blw ((Blw.refl _).alloc (.cells #[.slice none 0 0, .slice none 0 0, .slice none 0 0] 26))
  have rR := res_row w (.slice m.a1 M.n1 m.c1) (.slice m.a2 M.n2 m.c2) (.slice m.a3 M.n3 m.c3)
  refine (goodS_any m M Y _ (h.blw hb0)).mono ?_
  rintro e w1 ⟨b, rfl, hgd, hb1⟩
  replace rA := rA.blw hb1
  replace rR := rR.blw hb1
  replace hb1 := hb0.trans hb1
  replace h := h.blw hb1
  clear hb0
  have HG : Hid (b = true ↔ M.Good) := hgd
  clear hgd
  cases b
  · have NG : Hid (¬ M.Good) := fun g => absurd (HG.out.2 g) (by decide)
    obtain ⟨⟨x0, x1, x2⟩, f0, f1, f2⟩ := res6 rR
    clear HG rA h rR
    go_wp2
    exact bodyPost_ret (v := .tuple #[.agg #[.slice none 0 0, .slice none 0 0, .slice none 0 0], .bool false]) (by simp [results, Try.results36, go_sem, x0, x1, x2]) rfl (zero_gives (Or.inr ⟨fun g => NG.out g.1, rfl, rfl⟩) hb1)
  · have GD : Hid M.Good := HG.out.1 rfl
    clear HG
    by_cases hst : stretch at_ n
    · have HT : Hid (stretch at_ n) := hst
      clear hst
      go_wp2_with fail
      refine (l1Place_yes _ _ _ HT.out).mono ?_
      rintro e w1 ⟨rfl, rfl⟩
      go_wp2_with fail
      by_cases hx : ∀ i, i < n → 0 ≤ f i ∧ f i ≤ 65535
      · have HX : Hid (∀ i, i < n → 0 ≤ f i ∧ f i ≤ 65535) := hx
        clear hx
        refine (l1All_yes ao c n f 0 65535 _ _ (hI.blw hb1) HX.out).mono ?_
        rintro e w1 ⟨rfl, rfl⟩
        obtain ⟨p0, p1, p2⟩ := get3 rA
        go_wp2_with fail
        clear p0 p1 p2
        refine (l1Own_any m M Y _ GD.out h).mono ?_
        rintro e w2 ⟨m2, rfl, own, hb2⟩
        simp only [MV.val, MD.full]
        have rlt := rR.lt
        have HM : Hid _ := Mine.start (hb1.trans hb2) rlt (rR.blw hb2) own
        clear rA h hb1 own rR rlt hb2
        go_wp2_with fail
        obtain ⟨a, rfl⟩ := Int.eq_ofNat_of_zero_le HT.out.1.1
        have ha : a + n ≤ 48 := by have := HT.out.2.2; omega
        have hn8 : n ≤ 8 := by have := HT.out.2.1.2; omega
        revert HM
        generalize w2.heap.size = z
        generalize w2.alloc (.cells #[.slice m2.a1 12 m2.c1, .slice m2.a2 12 m2.c2, .slice m2.a3 12 m2.c3] 26) = w3
        intro HM
        go_loopw [31] (fun i wr => ∃ k : Nat, k ≤ n ∧ i = .int .i64 k ∧ Mine w wr z m2 M.v1 (saC M.v2 a f k) (saD M.d a k)) (fun i _ => n - (intOf i).toNat)
        case atStart => exact ⟨0, by omega, rfl, HM.out⟩
        case round =>
          obtain ⟨k, hk, rfl, I⟩ := hrel
          clear HM
          by_cases hlt : k < n
          · obtain ⟨b0, o0, rfl, -, cell⟩ := (hI.blw I.blw).2 k hlt
            obtain ⟨q0, q1, q2⟩ := get3 I.box
            obtain ⟨X, own, hx⟩ := I.own
            have HXX : Hid (∀ b, X b → w.heap.size + 1 < b ∧ b < wr.heap.size ∧ b ≠ z) := hx
            clear hx
            have hlt' : (k : Int) < n := by omega
            go_wp2_with fail
            have ek : ((a : Int) + (k : Int)) = ((a + k : Nat) : Int) := by omega
            rw [ek]
            clear ek
            refine (l1Store_any m2 _ _ _ X _ (a + k) (f k) (by omega) own (fun b hb => (HXX.out b hb).2.1)).mono ?_
            rintro e w4 ⟨⟨v, rfl⟩, own4, hm4⟩
            have I' : Mine w w4 z m2 M.v1 (saC M.v2 a f (k + 1)) (saD M.d a (k + 1)) := I.store HXX.out own4 hm4
            clear I own own4 hm4 q0 q1 q2 cell
            go_wp2
            go_roundw
            case rel => exact ⟨k + 1, by omega, by go_num, I'⟩
            case measure => simp [intOf]; omega
          · obtain rfl : k = n := by omega
            obtain ⟨q0, q1, q2⟩ := get3 I.box
            obtain ⟨⟨x0, x1, x2⟩, f0, f1, f2⟩ := res6 I.res
            obtain ⟨X, own, hx⟩ := I.own
            have HXX : Hid (∀ b, X b → w.heap.size + 1 < b ∧ b < wr.heap.size ∧ b ≠ z) := hx
            clear hx
            go_wp2
            exact bodyPost_ret (v := .tuple #[.agg #[.slice m2.a1 12 m2.c1, .slice m2.a2 12 m2.c2, .slice m2.a3 12 m2.c3], .bool true]) (by simp [results, Try.results36, go_sem, x0, x1, x2]) rfl (some_gives (Or.inl ⟨GD.out, HT.out, HX.out, rfl, rfl⟩) I.blw own (fun b hb => ⟨(HXX.out b hb).1, (HXX.out b hb).2.1⟩) rfl)
      · have NX : Hid (¬ ∀ i, i < n → 0 ≤ f i ∧ f i ≤ 65535) := hx
        have hx' : ∃ i, i < n ∧ ¬ (0 ≤ f i ∧ f i ≤ 65535) := Classical.byContradiction fun hh => NX.out fun i hi => Classical.byContradiction fun h3 => hh ⟨i, hi, h3⟩
        clear hx
        obtain ⟨i, hi, hx'⟩ := hx'
        have N3 : Hid _ := hx'
        clear hx'
        obtain ⟨⟨x0, x1, x2⟩, f0, f1, f2⟩ := res6 rR
        refine (l1All_no ao c n f 0 65535 _ _ (hI.blw hb1) i hi N3.out).mono ?_
        rintro e w1 ⟨rfl, rfl⟩
        clear rA h rR hi
        go_wp2
        exact bodyPost_ret (v := .tuple #[.agg #[.slice none 0 0, .slice none 0 0, .slice none 0 0], .bool false]) (by simp [results, Try.results36, go_sem, x0, x1, x2]) rfl (zero_gives (Or.inr ⟨fun g => NX.out g.2.2, rfl, rfl⟩) hb1)
    · have NX : Hid (¬ stretch at_ n) := hst
      obtain ⟨⟨x0, x1, x2⟩, f0, f1, f2⟩ := res6 rR
      clear hst rA h rR
      go_wp2_with fail
      refine (l1Place_no _ _ _ NX.out).mono ?_
      rintro e w1 ⟨rfl, rfl⟩
      go_wp2
      exact bodyPost_ret (v := .tuple #[.agg #[.slice none 0 0, .slice none 0 0, .slice none 0 0], .bool false]) (by simp [results, Try.results36, go_sem, x0, x1, x2]) rfl (zero_gives (Or.inr ⟨fun g => NX.out g.2.1, rfl, rfl⟩) hb1)
end Go.Proofs.Ytnbcjdoohmjghaa
