/- Merged by program, in this order: Gn, Lx, OpenB, OpenG. -/
import Derived.ProofKit
import Derived.OpenShut
import Derived.ChangeOld
import Derived.Lib.SmallJoins
import Derived.Deep.Slices
import Derived.Deep.SlicePairs
import Derived.Deep.MidRow
import Derived.Test.YtneafnfdemodnaaJoin1
/- GiveTurn, NextClient, LagOf: the program's and the model's. -/
namespace Go.Proofs.Ytneafnfdemodnaa
open Go.RowKit
set_option linter.unusedSimpArgs false
set_option linter.unusedVariables false
theorem IntsOwn.nil0 (X : Nat → Prop) (w : World) (a : Option Addr) (f : Nat → Int) : IntsOwn X w a 0 f := ⟨by omega, fun h => absurd h (by omega)⟩
def gtOut (n : Nat) (F : Nat → Nat → Int) (n1 : Nat) (F1 : Nat → Nat → Int) (x : Int) (r : Bool) : Prop :=
  ((GoodC n F ∧ GoodC n (giveC n F)) ∧ n1 = n ∧ F1 = giveC n F ∧ x = lst F n ∧ r = true) ∨ (¬ (GoodC n F ∧ GoodC n (giveC n F)) ∧ n1 = 0 ∧ F1 = (fun _ _ => 0) ∧ x = 0 ∧ r = false)
theorem gtOut_same {n : Nat} {F : Nat → Nat → Int} {n1 n1' : Nat} {F1 F1' : Nat → Nat → Int} {x x' : Int} {r r' : Bool} (h : gtOut n F n1 F1 x r) (k : gtOut n F n1' F1' x' r') : n1 = n1' ∧ F1 = F1' ∧ x = x' ∧ r = r' := by
  rcases h with ⟨q, rfl, rfl, rfl, rfl⟩ | ⟨q, rfl, rfl, rfl, rfl⟩ <;> rcases k with ⟨l, rfl, rfl, rfl, rfl⟩ | ⟨l, rfl, rfl, rfl, rfl⟩
  · exact ⟨rfl, rfl, rfl, rfl⟩
  · exact absurd q l
  · exact absurd l q
  · exact ⟨rfl, rfl, rfl, rfl⟩
theorem gtOut_small {n : Nat} {F : Nat → Nat → Int} {n1 : Nat} {F1 : Nat → Nat → Int} {x : Int} {r : Bool} (h : gtOut n F n1 F1 x r) : n1 ≤ 6 := by
  rcases h with ⟨q, rfl, rfl, rfl, rfl⟩ | ⟨q, rfl, rfl, rfl, rfl⟩
  · exact q.1.1.2
  · omega
def ncOut (n : Nat) (F : Nat → Nat → Int) (x : Int) (r : Bool) : Prop := (GoodC n F ∧ x = lst F n ∧ r = true) ∨ (¬ GoodC n F ∧ x = 0 ∧ r = false)
theorem ncOut_same {n : Nat} {F : Nat → Nat → Int} {x x' : Int} {r r' : Bool} (h : ncOut n F x r) (k : ncOut n F x' r') : x = x' ∧ r = r' := by
  rcases h with ⟨q, rfl, rfl⟩ | ⟨q, rfl, rfl⟩ <;> rcases k with ⟨l, rfl, rfl⟩ | ⟨l, rfl, rfl⟩
  · exact ⟨rfl, rfl⟩
  · exact absurd q l
  · exact absurd l q
  · exact ⟨rfl, rfl⟩
def lgOut (n : Nat) (F : Nat → Nat → Int) (n1 : Nat) (g : Nat → Int) (r : Bool) : Prop := (GoodC n F ∧ n1 = n ∧ g = lagC n F ∧ r = true) ∨ (¬ GoodC n F ∧ n1 = 0 ∧ g = (fun _ => 0) ∧ r = false)
theorem lgOut_same {n : Nat} {F : Nat → Nat → Int} {n1 n1' : Nat} {g g' : Nat → Int} {r r' : Bool} (h : lgOut n F n1 g r) (k : lgOut n F n1' g' r') : n1 = n1' ∧ g = g' ∧ r = r' := by
  rcases h with ⟨q, rfl, rfl, rfl⟩ | ⟨q, rfl, rfl, rfl⟩ <;> rcases k with ⟨l, rfl, rfl, rfl⟩ | ⟨l, rfl, rfl, rfl⟩
  · exact ⟨rfl, rfl, rfl⟩
  · exact absurd q l
  · exact absurd l q
  · exact ⟨rfl, rfl, rfl⟩
theorem lgOut_small {n : Nat} {F : Nat → Nat → Int} {n1 : Nat} {g : Nat → Int} {r : Bool} (h : lgOut n F n1 g r) : n1 ≤ 6 := by
  rcases h with ⟨q, rfl, rfl, rfl⟩ | ⟨q, rfl, rfl, rfl⟩
  · exact q.1.2
  · omega
set_option maxRecDepth 10000 in
set_option maxHeartbeats 1600000 in
theorem implNext_any (ao : Option Addr) (c n : Nat) (F : Nat → Nat → Int) (Y : Nat → Prop) (w : World) (h : KAt 3 Y w ao n F) :
    Calls Try.prog 12 #[.slice ao n c] w fun e w' => ∃ (x : Int) (r : Bool), e = .returned (.tuple #[.int .i64 x, .bool r]) ∧ ncOut n F x r ∧ Blw w w' := by
  have H : Hid (KAt 3 Y w ao n F) := h
  clear h
  go_enter Try.func12, Try.ntmps12
  go_wp2_with fail
  refine (implGood_any ao c n F Y _ H.out).mono ?_
  rintro e w1 ⟨r, rfl, hr, hb⟩
  have HR : Hid (r = true ↔ GoodC n F) := hr
  have HB : Hid (Blw w w1) := hb
  clear hr hb
  cases r
  · have HN : Hid (¬ GoodC n F) := fun g => by have := HR.out.2 g; cases this
    clear HR H
    go_wp2
    refine bodyPost_ret (v := .tuple #[.int .i64 0, .bool false]) (by simp [results, Try.results12, go_sem]) rfl ⟨0, false, rfl, Or.inr ⟨HN.out, rfl, rfl⟩, HB.out⟩
  have HG : Hid (GoodC n F) := HR.out.1 (by first | rfl | trivial)
  clear HR
  go_wp2_with fail
  refine (nextOf_any ao c n F Y _ (by have := HG.out.1; omega) (H.out.blw HB.out)).mono ?_
  rintro e w2 ⟨rfl, hb⟩
  have HB2 : Hid (Blw w w2) := HB.out.trans hb
  clear hb HB H
  go_wp2
  refine bodyPost_ret (v := .tuple #[.int .i64 (lst F n), .bool true]) (by simp [results, Try.results12, go_sem]) rfl ⟨_, true, rfl, Or.inl ⟨HG.out, rfl, rfl⟩, HB2.out⟩
set_option maxRecDepth 10000 in
set_option maxHeartbeats 1600000 in
theorem specNext_any (ao : Option Addr) (c n : Nat) (F : Nat → Nat → Int) (Y : Nat → Prop) (w : World) (h : KAt 3 Y w ao n F) :
    Calls Try.prog 11 #[.slice ao n c] w fun e w' => ∃ (x : Int) (r : Bool), e = .returned (.tuple #[.int .i64 x, .bool r]) ∧ ncOut n F x r ∧ Blw w w' := by
  have H : Hid (KAt 3 Y w ao n F) := h
  clear h
  go_enter Try.func11, Try.ntmps11
  go_wp2_with fail
  refine (specGood_any ao c n F Y _ H.out).mono ?_
  rintro e w1 ⟨r, rfl, hr, hb⟩
  have HR : Hid (r = true ↔ GoodC n F) := hr
  have HB : Hid (Blw w w1) := hb
  clear hr hb
  cases r
  · have HN : Hid (¬ GoodC n F) := fun g => by have := HR.out.2 g; cases this
    clear HR H
    go_wp2
    refine bodyPost_ret (v := .tuple #[.int .i64 0, .bool false]) (by simp [results, Try.results11, go_sem]) rfl ⟨0, false, rfl, Or.inr ⟨HN.out, rfl, rfl⟩, HB.out⟩
  have HG : Hid (GoodC n F) := HR.out.1 (by first | rfl | trivial)
  clear HR
  go_wp2_with fail
  refine (l10Next_any ao c n F Y _ (H.out.blw HB.out)).mono ?_
  rintro e w2 ⟨rfl, hb⟩
  have HB2 : Hid (Blw w w2) := HB.out.trans hb
  clear hb HB H
  go_wp2
  refine bodyPost_ret (v := .tuple #[.int .i64 (lst F n), .bool true]) (by simp [results, Try.results11, go_sem]) rfl ⟨_, true, rfl, Or.inl ⟨HG.out, rfl, rfl⟩, HB2.out⟩
theorem lag_rng {n : Nat} {F : Nat → Nat → Int} (h : GoodC n F) : (0 ≤ sm (fun i => F i 2) n ∧ sm (fun i => F i 2) n ≤ 600000) ∧ (0 ≤ sm (fun i => F i 0) n ∧ sm (fun i => F i 0) n ≤ 72) ∧ ∀ k, k < n → (0 ≤ F k 0 * sm (fun i => F i 2) n ∧ F k 0 * sm (fun i => F i 2) n ≤ 7200000) ∧ (0 ≤ F k 2 * sm (fun i => F i 0) n ∧ F k 2 * sm (fun i => F i 0) n ≤ 7200000) := by
  have h1 := sm_bound (f := fun i => F i 2) (n := n) (a := 0) (b := 100000) (fun i hi => (h.2 i hi).2.2)
  have h2 := sm_bound (f := fun i => F i 0) (n := n) (a := 0) (b := 12) (fun i hi => ⟨by have := (h.2 i hi).1.1; omega, (h.2 i hi).1.2⟩)
  have hn := h.1
  generalize sm (fun i => F i 2) n = u at *
  generalize sm (fun i => F i 0) n = t at *
  refine ⟨⟨by omega, by omega⟩, ⟨by omega, by omega⟩, fun k hk => ?_⟩
  obtain ⟨a1, a2, a3⟩ := h.2 k hk
  have c1 : F k 0 * u ≤ 12 * u := Int.mul_le_mul_of_nonneg_right a1.2 (by omega)
  have c2 : F k 2 * t ≤ 100000 * t := Int.mul_le_mul_of_nonneg_right a3.2 (by omega)
  exact ⟨⟨Int.mul_nonneg (by omega) (by omega), by omega⟩, ⟨Int.mul_nonneg a3.1 (by omega), by omega⟩⟩
theorem box1 (w : World) (a : Value) (t : TypeId) : Row (w.alloc (.cells #[a] t)) w.heap.size 1 (fun _ => a) :=
  ⟨_, t, heap_alloc_new _ _, by simp, fun i hi => by obtain rfl : i = 0 := by omega
                                                     rfl⟩
set_option maxRecDepth 10000 in
set_option maxHeartbeats 3200000 in
theorem implLag_any (ao : Option Addr) (c n : Nat) (F : Nat → Nat → Int) (Y : Nat → Prop) (w : World) (h : KAt 3 Y w ao n F) :
    Calls Try.prog 14 #[.slice ao n c] w fun e w' => ∃ (a1 : Option Addr) (n1 c1 : Nat) (g : Nat → Int) (r : Bool), e = .returned (.tuple #[.slice a1 n1 c1, .bool r]) ∧ lgOut n F n1 g r ∧ IntsOwn (fun x => w.heap.size ≤ x ∧ x < w'.heap.size) w' a1 n1 g ∧ Blw w w' := by
  have H : Hid (KAt 3 Y w ao n F) := h
  clear h
  go_enter Try.func14, Try.ntmps14
  go_wp2_with fail
  refine (implGood_any ao c n F Y _ H.out).mono ?_
  rintro e w1 ⟨r, rfl, hr, hb⟩
  have HR : Hid (r = true ↔ GoodC n F) := hr
  have HB : Hid (Blw w w1) := hb
  clear hr hb
  cases r
  · have HN : Hid (¬ GoodC n F) := fun g => by have := HR.out.2 g; cases this
    clear HR H
    go_wp2
    refine bodyPost_ret (v := .tuple #[.slice none 0 0, .bool false]) (by simp [results, Try.results14, go_sem]) rfl ⟨none, 0, 0, fun _ => 0, false, rfl, Or.inr ⟨HN.out, rfl, rfl, rfl⟩, IntsOwn.nil0 _ _ _ _, HB.out⟩
  have HG : Hid (GoodC n F) := HR.out.1 (by first | rfl | trivial)
  clear HR
  have hn6 : n ≤ 6 := HG.out.1.2
  go_wp2_with fail
  refine (eachTurns_any ao c n F Y _ (by omega) (H.out.blw HB.out)).mono ?_
  rintro e w2 ⟨rfl, hr, hb⟩
  have HI : Hid (IntsAt (fun x => x < w2.heap.size) w2 (some ⟨w1.heap.size, 0, none⟩) n (fun i => F i 2)) := (row_ints' hr (by omega) hr.lt).at
  replace HB : Hid (Blw w w2) := HB.out.trans hb
  clear hr hb
  go_wp2_with fail
  refine (sumOf_any _ _ n _ 100000 _ _ (by omega) (by omega) HI.out (fun k hk => (HG.out.2 k hk).2.2)).mono ?_
  rintro e w3 ⟨rfl, hw3⟩
  subst hw3
  clear HI
  have HZ1 : Hid (Row (w3.alloc (.cells #[.int .i64 (sm (fun i => F i 2) n)] 3)) w3.heap.size 1 (fun _ => .int .i64 (sm (fun i => F i 2) n))) := box1 w3 _ 3
  have HB3 : Hid (Blw w (w3.alloc (.cells #[.int .i64 (sm (fun i => F i 2) n)] 3))) := HB.out.trans ((Blw.refl _).alloc _)
  clear HB
  go_wp2_with fail
  generalize hw4 : w3.alloc (.cells #[.int .i64 (sm (fun i => F i 2) n)] 3) = w4 at *
  clear hw4
  refine (eachTick_any ao c n F Y _ (by omega) (H.out.blw HB3.out)).mono ?_
  rintro e w5 ⟨rfl, hr, hb⟩
  have HI : Hid (IntsAt (fun x => x < w5.heap.size) w5 (some ⟨w4.heap.size, 0, none⟩) n (fun i => F i 0)) := (row_ints' hr (by omega) hr.lt).at
  replace HB3 : Hid (Blw w w5) := HB3.out.trans hb
  replace HZ1 : Hid (Row w5 w3.heap.size 1 (fun _ => .int .i64 (sm (fun i => F i 2) n))) := HZ1.out.blw hb
  clear hr hb
  go_wp2_with fail
  refine (sumOf_any _ _ n _ 12 _ _ (by omega) (by omega) HI.out (fun k hk => ⟨by have := (HG.out.2 k hk).1; omega, (HG.out.2 k hk).1.2⟩)).mono ?_
  rintro e w6 ⟨rfl, hw6⟩
  subst hw6
  clear HI
  have HZ2 : Hid (Row (w6.alloc (.cells #[.int .i64 (sm (fun i => F i 0) n)] 3)) w6.heap.size 1 (fun _ => .int .i64 (sm (fun i => F i 0) n))) := box1 w6 _ 3
  have HB6 : Hid (Blw w (w6.alloc (.cells #[.int .i64 (sm (fun i => F i 0) n)] 3))) := HB3.out.trans ((Blw.refl _).alloc _)
  replace HZ1 : Hid (Row (w6.alloc (.cells #[.int .i64 (sm (fun i => F i 0) n)] 3)) w3.heap.size 1 (fun _ => .int .i64 (sm (fun i => F i 2) n))) := HZ1.out.blw ((Blw.refl _).alloc _)
  have HR : Hid (∀ k, k < n → (-9223372036854775808 ≤ F k 0 * sm (fun i => F i 2) n ∧ F k 0 * sm (fun i => F i 2) n ≤ 9223372036854775807) ∧ (-9223372036854775808 ≤ F k 2 * sm (fun i => F i 0) n ∧ F k 2 * sm (fun i => F i 0) n ≤ 9223372036854775807) ∧ (-9223372036854775808 ≤ F k 0 * sm (fun i => F i 2) n - F k 2 * sm (fun i => F i 0) n ∧ F k 0 * sm (fun i => F i 2) n - F k 2 * sm (fun i => F i 0) n ≤ 9223372036854775807)) := fun k hk => by have := (lag_rng HG.out).2.2 k hk; omega
  clear HB3
  go_wp2_with fail
  generalize hw7 : w6.alloc (.cells #[.int .i64 (sm (fun i => F i 0) n)] 3) = w7 at *
  clear hw7
  refine (eachLag_any ao c n F _ _ w3.heap.size w6.heap.size Y _ (by omega) (H.out.blw HB6.out) HZ1.out HZ2.out HR.out).mono ?_
  rintro e w8 ⟨rfl, hr, hb⟩
  have HF : Hid (IntsOwn (fun x => w.heap.size ≤ x ∧ x < w8.heap.size) w8 (some ⟨w7.heap.size, 0, none⟩) n (lagC n F) ∧ Blw w w8) := ⟨row_ints' hr (by omega) ⟨HB6.out.size, hr.lt⟩, HB6.out.trans hb⟩
  clear hr hb HZ1 HZ2 HB6 HR H
  go_wp2
  refine bodyPost_ret (v := .tuple #[.slice (some ⟨w7.heap.size, 0, none⟩) n n, .bool true]) (by simp [results, Try.results14, go_sem]) rfl ⟨_, n, n, _, true, rfl, Or.inl ⟨HG.out, rfl, rfl, rfl⟩, HF.out.1, HF.out.2⟩
set_option maxRecDepth 10000 in
set_option maxHeartbeats 3200000 in
theorem specLag_any (ao : Option Addr) (c n : Nat) (F : Nat → Nat → Int) (Y : Nat → Prop) (w : World) (h : KAt 3 Y w ao n F) :
    Calls Try.prog 13 #[.slice ao n c] w fun e w' => ∃ (a1 : Option Addr) (n1 c1 : Nat) (g : Nat → Int) (r : Bool), e = .returned (.tuple #[.slice a1 n1 c1, .bool r]) ∧ lgOut n F n1 g r ∧ IntsOwn (fun x => w.heap.size ≤ x ∧ x < w'.heap.size) w' a1 n1 g ∧ Blw w w' := by
  have H : Hid (KAt 3 Y w ao n F) := h
  clear h
  go_enter Try.func13, Try.ntmps13
  go_wp2_with fail
  refine (specGood_any ao c n F Y _ H.out).mono ?_
  rintro e w1 ⟨r, rfl, hr, hb⟩
  have HR : Hid (r = true ↔ GoodC n F) := hr
  have HB : Hid (Blw w w1) := hb
  clear hr hb
  cases r
  · have HN : Hid (¬ GoodC n F) := fun g => by have := HR.out.2 g; cases this
    clear HR H
    go_wp2
    refine bodyPost_ret (v := .tuple #[.slice none 0 0, .bool false]) (by simp [results, Try.results13, go_sem]) rfl ⟨none, 0, 0, fun _ => 0, false, rfl, Or.inr ⟨HN.out, rfl, rfl, rfl⟩, IntsOwn.nil0 _ _ _ _, HB.out⟩
  have HG : Hid (GoodC n F) := HR.out.1 (by first | rfl | trivial)
  clear HR
  have hn6 : n ≤ 6 := HG.out.1.2
  go_wp2_with fail
  go_loopw [4, 5, 16] (fun t u i wr => ∃ k : Nat, k ≤ n ∧ t = .int .i64 (sm (fun i => F i 0) k) ∧ u = .int .i64 (sm (fun i => F i 2) k) ∧ i = .int .i64 k ∧ Blw w wr) (fun _ _ i _ => n - (intOf i).toNat)
  case atStart => exact ⟨0, Nat.zero_le _, rfl, rfl, rfl, HB.out⟩
  case round =>
    obtain ⟨k, hk, rfl, rfl, rfl, hb⟩ := hrel
    clear HB
    have HB : Hid (Blw w wr) := hb
    clear hb
    by_cases hlt : k < n
    · have hlt' : (k : Int) < n := by omega
      have b1 := sm_bound (f := fun i => F i 0) (n := k) (a := 0) (b := 12) (fun i hi => ⟨by have := (HG.out.2 i (by omega)).1.1; omega, (HG.out.2 i (by omega)).1.2⟩)
      have b2 := sm_bound (f := fun i => F i 2) (n := k) (a := 0) (b := 100000) (fun i hi => (HG.out.2 i (by omega)).2.2)
      have b3 := (HG.out.2 k hlt).1
      have b4 := (HG.out.2 k hlt).2.2
      have e1 : IntKind.i64.wrap (sm (fun i => F i 0) k + F k 0) = sm (fun i => F i 0) k + F k 0 := by rw [IntKind.wrap_i64] <;> omega
      have e2 : IntKind.i64.wrap (sm (fun i => F i 2) k + F k 2) = sm (fun i => F i 2) k + F k 2 := by rw [IntKind.wrap_i64] <;> omega
      have E1 : Hid (sm (fun i => F i 0) k + F k 0 = sm (fun i => F i 0) (k + 1)) := rfl
      have E2 : Hid (sm (fun i => F i 2) k + F k 2 = sm (fun i => F i 2) (k + 1)) := rfl
      clear b1 b2 b3 b4
      obtain ⟨b, o, rfl, -, g⟩ := (H.out.blw HB.out).2 k hlt
      have g0 := g 0 (by omega)
      have g1 := g 1 (by omega)
      have g2 := g 2 (by omega)
      clear g
      rw [Nat.add_zero] at g0
      have HB2 : Hid (Blw w (wr.alloc (.cells #[.int .i64 (F k 0), .int .i64 (F k 1), .int .i64 (F k 2)] 38))) := HB.out.trans ((Blw.refl _).alloc _)
      clear H HB
      generalize sm (fun i => F i 0) k = s1 at *
      generalize sm (fun i => F i 2) k = s2 at *
      go_wp2
      go_roundw
      case rel => exact ⟨k + 1, by omega, by rw [E1.out], by rw [E2.out], by go_num, HB2.out⟩
      case measure => simp [intOf]; omega
    · obtain rfl : k = n := by omega
      have HR : Hid _ := lag_rng HG.out
      go_wp2_with fail
      go_loopw [8, 31] (fun v i wr => ∃ j : Nat, j ≤ k ∧ i = .int .i64 j ∧ Blw w wr ∧ BufI (fun x => w.heap.size ≤ x ∧ x < wr.heap.size) wr v j (lagC k F)) (fun _ i _ => k - (intOf i).toNat)
      case atStart => exact ⟨0, Nat.zero_le _, rfl, HB.out, Buf.nil _ _ _ _ _⟩
      case round =>
        obtain ⟨j, hj, rfl, hb, hv⟩ := hrel
        clear HB
        have HB : Hid (Blw w wr) := hb
        have HV : Hid (BufI (fun x => w.heap.size ≤ x ∧ x < wr.heap.size) wr u8 j (lagC k F)) := hv
        clear hb hv
        by_cases hlt : j < k
        · have hlt' : (j : Int) < k := by omega
          obtain ⟨b, o, rfl, -, g⟩ := (H.out.blw HB.out).2 j hlt
          have g0 := g 0 (by omega)
          have g1 := g 1 (by omega)
          have g2 := g 2 (by omega)
          clear g
          rw [Nat.add_zero] at g0
          have hb3 := HR.out.2.2 j hlt
          have e1 : IntKind.i64.wrap (F j 0 * sm (fun i => F i 2) k) = F j 0 * sm (fun i => F i 2) k := by rw [IntKind.wrap_i64] <;> omega
          have e2 : IntKind.i64.wrap (F j 2 * sm (fun i => F i 0) k) = F j 2 * sm (fun i => F i 0) k := by rw [IntKind.wrap_i64] <;> omega
          have e3 : IntKind.i64.wrap (F j 0 * sm (fun i => F i 2) k - F j 2 * sm (fun i => F i 0) k) = F j 0 * sm (fun i => F i 2) k - F j 2 * sm (fun i => F i 0) k := by rw [IntKind.wrap_i64] <;> omega
          have HL : Hid (F j 0 * sm (fun i => F i 2) k - F j 2 * sm (fun i => F i 0) k = lagC k F j) := rfl
          have hA : Blw wr (wr.alloc (.cells #[.int .i64 (F j 0), .int .i64 (F j 1), .int .i64 (F j 2)] 38)) := (Blw.refl _).alloc _
          obtain ⟨a2, q2, w4, r2, hv4, hm4⟩ := BufI.push (Buf.blw HV.out hA) (by omega) (F j 0 * sm (fun i => F i 2) k - F j 2 * sm (fun i => F i 0) k)
          rw [World.size_alloc] at r2
          have hob : ∀ b, (u8).ownBlock = some b → w.heap.size ≤ b := fun b hb => (HV.out.2 b hb).1
          have HB4 : Hid (Blw w w4) := Mod.blw (HB.out.trans hA) hm4 (fun i hi => hob i hi)
          have HV4 : Hid (BufI (fun x => w.heap.size ≤ x ∧ x < w4.heap.size) w4 (.slice a2 (j + 1) q2) (j + 1) (lagC k F)) := Buf.congr (Buf.mono hv4 (fun b hb => ⟨hb.1.elim (fun h1 => h1.1) (fun h1 => Nat.le_trans (Nat.le_trans HB.out.size hA.size) h1), hb.2⟩)) (fun i hi => by
            rw [Nat.mul_one] at hi
            simp only [ic, icat]
            by_cases h1 : i < j
            · rw [if_pos h1]
            · rw [if_neg h1, show i = j by omega]; exact congrArg _ HL.out)
          have HR2 : Hid _ := r2
          clear hb3 hv4 hm4 hob HB HV hA HR H r2 HL
          generalize sm (fun i => F i 2) k = s2 at *
          generalize sm (fun i => F i 0) k = s1 at *
          go_wp2_with (first | (at_builtin; refine wpList_append_at rfl (.tmp 35) (.tmp 45) 31 rfl ?_; refine ⟨_, _, HR2.out, ?_⟩) | fail)
          go_roundw
          case rel => exact ⟨j + 1, by omega, by go_num, HB4.out, HV4.out⟩
          case measure => simp [intOf]; omega
        · obtain rfl : j = k := by omega
          obtain ⟨a2, q2, ev, hI⟩ := BufI.own HV.out (by omega)
          subst ev
          have HF : Hid (IntsOwn (fun x => w.heap.size ≤ x ∧ x < wr.heap.size) wr a2 j (lagC j F) ∧ Blw w wr) := ⟨hI, HB.out⟩
          clear HV hI HB H HR
          go_wp2
          refine bodyPost_ret (v := .tuple #[.slice a2 j q2, .bool true]) (by simp [results, Try.results13, go_sem]) rfl ⟨_, j, q2, _, true, rfl, Or.inl ⟨HG.out, rfl, rfl, rfl⟩, HF.out.1, HF.out.2⟩
end Go.Proofs.Ytneafnfdemodnaa
/- What the laws on clients want. -/
namespace Go.Proofs.Ytneafnfdemodnaa
open Go.RowKit
set_option linter.unusedSimpArgs false
set_option linter.unusedVariables false
theorem IntsAt.st9 {Y : Nat → Prop} {W : World} {ao : Option Addr} {n : Nat} {f : Nat → Int} (h : IntsAt Y W ao n f) (hY : ∀ b, Y b → b < W.heap.size) : St Y (fun W => IntsAt Y W ao n f) W := ⟨hY, fun Z w' hm hx => h.mod hm hx⟩
theorem IntsOwn.st9 {Y : Nat → Prop} {W : World} {ao : Option Addr} {n : Nat} {f : Nat → Int} (h : IntsOwn Y W ao n f) (hY : ∀ b, Y b → b < W.heap.size) : St Y (fun W => IntsOwn Y W ao n f) W :=
  ⟨hY, fun Z w' hm hx => ⟨h.1, fun hn => let ⟨b, hb, e, hr⟩ := h.2 hn; ⟨b, hb, e, hr.mod hm (hx _ hb)⟩⟩⟩
theorem KAt.st {K : Nat} {Y : Nat → Prop} {W : World} {ao : Option Addr} {n : Nat} {F : Nat → Nat → Int} (h : KAt K Y W ao n F) (hY : ∀ b, Y b → b < W.heap.size) : St Y (fun W => KAt K Y W ao n F) W :=
  ⟨hY, fun Z w' hm hx => h.mod hm hx⟩
theorem KOwn.st {K : Nat} {Y : Nat → Prop} {W : World} {ao : Option Addr} {n : Nat} {F : Nat → Nat → Int} (h : KOwn K Y W ao n F) (hY : ∀ b, Y b → b < W.heap.size) : St Y (fun W => KOwn K Y W ao n F) W :=
  ⟨hY, fun Z w' hm hx => h.mod hm hx⟩
theorem eqIntS_blw (a1 a2 : Option Addr) (c1 c2 : Nat) (n0 : Nat) (f : Nat → Int) {Y Z : Nat → Prop} (w : World) (h1 : IntsAt Y w a1 n0 f) (h2 : IntsAt Z w a2 n0 f) :
    Calls Try.prog 15 #[.slice a1 n0 c1, .slice a2 n0 c2] w fun e w' => e = .returned (.bool true) ∧ Blw w w' :=
  (eqIntS_same a1 a2 c1 c2 n0 f w h1 h2).mono (fun e w' h => ⟨h.1, by obtain ⟨n, hn⟩ := h.2; rw [hn]; exact Blw.drewN (Blw.refl w) n⟩)
end Go.Proofs.Ytneafnfdemodnaa
/- What comes in, opened: numbers, bytes, pairs, books. -/
namespace Go.Proofs.Ytneafnfdemodnaa
open Go.ChangeShapes Go.WideShapes Go.ChangeAt Go.RowKit Go.Joins Go.Deep
theorem cells3 : Try.prog.cellsOf 3 = 1 := by kernel_rfl
theorem cells5 : Try.prog.cellsOf 5 = 1 := by kernel_rfl
/-- The slice at 'ao' reads as the n bytes f. -/
def BytesAt (Y : Nat → Prop) (w : World) (ao : Option Addr) (n : Nat) (f : Nat → Int) : Prop :=
  n ≤ 9223372036854775807 ∧ ∀ i, i < n → ∃ b o, ao = some ⟨b, o, none⟩ ∧ Y b ∧ w.cell? ⟨b, o + i, none⟩ = some (.int .u8 (f i)) ∧ 0 ≤ f i ∧ f i ≤ 255
theorem BytesAt.blw {Y : Nat → Prop} {w w' : World} {ao : Option Addr} {n : Nat} {f : Nat → Int} (h : BytesAt Y w ao n f) (hb : Blw w w') : BytesAt Y w' ao n f := by
  refine ⟨h.1, fun i hi => ?_⟩
  obtain ⟨b, o, h1, hY, h2, h3⟩ := h.2 i hi
  exact ⟨b, o, h1, hY, hb.cell h2, h3⟩
theorem BytesAt.mod {X Y : Nat → Prop} {w w' : World} {ao : Option Addr} {n : Nat} {f : Nat → Int} (h : BytesAt Y w ao n f) (hb : Mod X w w') (hxy : ∀ k, Y k → ¬ X k) : BytesAt Y w' ao n f := by
  refine ⟨h.1, fun i hi => ?_⟩
  obtain ⟨b, o, h1, hY, h2, h3⟩ := h.2 i hi
  exact ⟨b, o, h1, hY, hb.cell h2 (hxy _ hY), h3⟩
section
variable {H : Type} {enc : TypeId × Value → H} {w : World} {base : Nat} {spare : Nat → Bool} {held : Bool}
theorem addr_of_cell {w : World} {a : Addr} {v : Value} (h : w.cell? a = some v) : a = ⟨a.block, a.off, none⟩ := by
  obtain ⟨b, o, s⟩ := a
  cases s with
  | none => rfl
  | some x =>
    unfold World.cell? at h
    split at h
    · simp at h
    · cases h
theorem open_intsAt {fuel : Nat} {v : Value} {x : DataW H × List MemPlace} (h : DataW.trod enc Try.prog w base spare held fuel 31 [v] = some x) :
    ∃ ao n c f, v = .slice ao n c ∧ IntsAt (fun b => b < w.heap.size) w ao n f := by
  rcases open_ints Try.underlying31 Try.underlying3 cells3 h with ⟨hcs, _⟩ | ⟨a, len, cap, zs, hcs, _, hl, hm, hz, _, hcell, _⟩
  · simp only [List.cons.injEq, and_true] at hcs
    exact ⟨none, 0, 0, fun _ => 0, hcs, by omega, fun i hi => absurd hi (Nat.not_lt_zero _)⟩
  · simp only [List.cons.injEq, and_true] at hcs
    have hzl : len ≤ zs.length := by rw [hz]; split <;> omega
    unfold maxLen at hm
    refine ⟨some a, len, cap, fun i => zs.getD i 0, hcs, by omega, fun i hi => ?_⟩
    have ha := addr_of_cell (by simpa [Addr.add] using hcell 0 (by omega))
    have hc := hcell i (by omega)
    rw [ha, Addr.add_mid] at hc
    exact ⟨a.block, a.off, by rw [← ha], World.block_lt_of_cell? w ⟨a.block, a.off + i, none⟩ hc, hc⟩
theorem choose_lt {α : Type} [Inhabited α] {n : Nat} {p : Nat → α → Prop} (h : ∀ i, i < n → ∃ t, p i t) : ∃ T : Nat → α, ∀ i, i < n → p i (T i) :=
  ⟨fun i => if hi : i < n then Classical.choose (h i hi) else default, fun i hi => by show p i (if hi : i < n then Classical.choose (h i hi) else default); rw [dif_pos hi]; exact Classical.choose_spec (h i hi)⟩
end
end Go.Proofs.Ytneafnfdemodnaa
/- Programs and guests that come in: opened. -/
namespace Go.Proofs.Ytneafnfdemodnaa
open Go.ChangeShapes Go.WideShapes Go.ChangeAt Go.RowKit Go.Joins Go.Deep
set_option linter.unusedVariables false
set_option linter.unusedSimpArgs false
section
variable {H : Type} {enc : TypeId × Value → H} {w : World} {base : Nat} {spare : Nat → Bool} {held : Bool}
theorem cellsIL : Try.prog.cellsOf 42 = 3 := by kernel_rfl
theorem cells_26 : Try.prog.cellsOf 31 = 1 := by kernel_rfl
theorem cells_4 : Try.prog.cellsOf 4 = 1 := by kernel_rfl
set_option maxRecDepth 10000 in
theorem open_insAt {fuel : Nat} {v : Value} {x : DataW H × List MemPlace} (h : DataW.trod enc Try.prog w base spare held fuel 22 [v] = some x) :
    ∃ ao n c F, v = .slice ao n c ∧ KAt 3 (fun b => b < w.heap.size) w ao n F := by
  rcases open_slice Try.underlying22 h with ⟨hcs, _⟩ | ⟨a, len, cap, m, nn, D, Pl, hcs, hb, hl, hm, hmm, -, hx⟩
  · simp only [List.cons.injEq, and_true] at hcs
    exact ⟨none, 0, 0, fun _ _ => 0, hcs, by omega, fun i hi => absurd hi (Nat.not_lt_zero _)⟩
  · simp only [List.cons.injEq, and_true] at hcs
    have hml : len ≤ m := by rw [hmm]; split <;> omega
    unfold maxLen at hm
    have each : ∀ i, i < len → ∃ q : Int × Int × Int, w.cell? (a.add (i * 3)) = some (.int .i64 q.1) ∧ w.cell? (a.add (i * 3 + 1)) = some (.int .i64 q.2.1) ∧ w.cell? (a.add (i * 3 + 2)) = some (.int .i64 q.2.2) := fun i hi => by
      obtain ⟨cs', h1, h2⟩ := hx i (by omega)
      rw [cellsIL] at h1
      obtain ⟨_, hlen, hcell⟩ := World.cells?_some h1
      obtain ⟨xs, k, hk, hxy, _, hxl, hf⟩ := DataW.trod_struct Try.underlying42 h2
      match xs, hxl, cs', hlen with
      | [y0, y1, y2], _, [v0, v1, v2], _ =>
        have g0 := hf 0 _ rfl
        have g1 := hf 1 _ rfl
        have g2 := hf 2 _ rfl
        simp [cells3] at g0 g1 g2
        have e0 := hcell 0 (by omega)
        have e1 := hcell 1 (by omega)
        have e2 := hcell 2 (by omega)
        rw [add_add] at e0 e1 e2
        obtain ⟨a0, q0, _⟩ := DataW.trod_int Try.underlying3 g0
        obtain ⟨a1, q1, _⟩ := DataW.trod_int Try.underlying3 g1
        obtain ⟨a2, q2, _⟩ := DataW.trod_int Try.underlying3 g2
        simp only [List.cons.injEq, and_true] at q0 q1 q2
        subst q0 q1 q2
        exact ⟨(a0, a1, a2), by simpa using e0, by simpa using e1, by simpa using e2⟩
    obtain ⟨T, hT⟩ := Go.Deep.choose_lt each
    refine ⟨some a, len, cap, fun i c => if c = 0 then (T i).1 else if c = 1 then (T i).2.1 else (T i).2.2, hcs, by omega, fun i hi => ?_⟩
    have ha := addr_of_cell (by simpa [Addr.add] using (hT 0 (by omega)).1)
    obtain ⟨c0, c1, c2⟩ := hT i hi
    rw [ha, Addr.add_mid] at c0 c1 c2
    refine ⟨a.block, a.off, by rw [← ha], World.block_lt_of_cell? w ⟨a.block, a.off + i * 3, none⟩ c0, fun c hc => ?_⟩
    match c, hc with
    | 0, _ => simpa using c0
    | 1, _ => simpa [Nat.add_assoc] using c1
    | 2, _ => simpa [Nat.add_assoc] using c2
end
end Go.Proofs.Ytneafnfdemodnaa
