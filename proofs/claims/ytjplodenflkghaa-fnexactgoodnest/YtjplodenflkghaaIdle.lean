/- The first list at no top: the program's. -/
import Derived.Test.YtjplodenflkghaaNewI
namespace Go.Proofs.Ytjplodenflkghaa
open Go.RowKit
set_option linter.unusedSimpArgs false
set_option linter.unusedVariables false
set_option maxHeartbeats 1600000 in
theorem index_any (ao : Option Addr) (c0 n : Nat) (f : Nat → Int) (x : Int) (Y : Nat → Prop) (w : World) (h : IntsAt Y w ao n f) :
    Calls Try.prog 207 #[.slice ao n c0, .int .i64 x] w fun e w' => ∃ r : Int, e = .returned (.int .i64 r) ∧ (0 ≤ r ↔ hasLine n f x) ∧ w' = w := by
  have hn := h.1
  have H : Hid (IntsAt Y w ao n f) := h
  clear h
  go_enter Try.func207, Try.ntmps207
  go_wp2_with fail
  go_loopw [8] (fun i wr => ∃ j : Nat, j ≤ n ∧ i = .int .i64 j ∧ (∀ t, t < j → ¬ f t = x) ∧ wr = w) (fun i _ => n - (intOf i).toNat)
  case atStart => exact ⟨0, Nat.zero_le _, rfl, fun t ht => absurd ht (Nat.not_lt_zero _), rfl⟩
  case round =>
    obtain ⟨j, hj, rfl, hno, rfl⟩ := hrel
    have HO : Hid (∀ t, t < j → ¬ f t = x) := hno
    clear hno
    by_cases hlt : j < n
    · obtain ⟨b, o, e, -, q0⟩ := H.out.2 j hlt
      subst e
      by_cases hx : f j = x
      · have HN : Hid (0 ≤ (j : Int) ↔ hasLine n f x) := ⟨fun _ => ⟨j, hlt, hx⟩, fun _ => by omega⟩
        have d1 : (x == f j) = true := by simp [hx]
        clear hx HO
        go_wp2
        go_ret
        exact ⟨_, rfl, HN.out, rfl⟩
      · have d1 : (x == f j) = false := by simp; exact fun e => hx e.symm
        have HN : Hid (∀ t, t < j + 1 → ¬ f t = x) := fun t ht => by
          by_cases e : t = j
          · subst e; exact hx
          · exact HO.out t (by omega)
        clear hx HO
        go_wp2
        go_roundw
        case rel => exact ⟨j + 1, by omega, by go_num, HN.out, by first | trivial | rfl⟩
        case measure => simp [intOf]; omega
    · obtain rfl : j = n := by omega
      have HN : Hid (0 ≤ (-1 : Int) ↔ hasLine j f x) := ⟨fun h => by omega, fun ⟨t, ht, e⟩ => absurd e (HO.out t ht)⟩
      clear HO
      go_wp2
      go_ret
      exact ⟨_, rfl, HN.out, rfl⟩
set_option maxHeartbeats 800000 in
theorem contains_any (ao : Option Addr) (c0 n : Nat) (f : Nat → Int) (x : Int) (Y : Nat → Prop) (w : World) (h : IntsAt Y w ao n f) :
    Calls Try.prog 201 #[.slice ao n c0, .int .i64 x] w fun e w' => ∃ r, e = .returned (.bool r) ∧ (r = true ↔ hasLine n f x) ∧ w' = w := by
  have H : Hid (IntsAt Y w ao n f) := h
  clear h
  go_enter Try.func201, Try.ntmps201
  go_wp2_with fail
  refine (index_any ao c0 n f x Y _ H.out).mono ?_
  rintro e w1 ⟨r, rfl, hr, rfl⟩
  have HR : Hid (decide (r ≥ 0) = true ↔ hasLine n f x) := by rw [decide_eq_true_iff]; exact hr
  clear hr H
  go_wp2
  go_ret
  exact ⟨_, rfl, HR.out, rfl⟩
/-- The first list that stands at no top. -/
def isIdle (c : Nat → Int) (kn q : Nat) : Prop := q < kn ∧ ¬ hasLine 4 c (q : Int) ∧ ∀ k, k < q → hasLine 4 c (k : Int)
theorem idle_uniq {c : Nat → Int} {kn q q' : Nat} (h : isIdle c kn q) (h' : isIdle c kn q') : q = q' := by
  rcases Nat.lt_trichotomy q q' with e | e | e
  · exact absurd (h'.2.2 q e) h.2.1
  · exact e
  · exact absurd (h.2.2 q' e) h'.2.1
theorem no_idle {c : Nat → Int} {kn : Nat} (h : ∀ k, k < kn → hasLine 4 c (k : Int)) : ¬ ∃ q, isIdle c kn q := fun ⟨q, h1, h2, _⟩ => h2 (h q h1)
set_option maxRecDepth 10000 in
set_option maxHeartbeats 1600000 in
theorem idle_any (c : Nat → Int) (zl kn : Nat) (w : World) (hk : kn ≤ 4) :
    Calls Try.prog 193 #[.agg (held5 c zl kn)] w fun e w' => (∃ q : Nat, isIdle c kn q ∧ e = .returned (.tuple #[.int .i64 q, .bool true]) ∨ (¬ ∃ q, isIdle c kn q) ∧ e = .returned (.tuple #[.int .i64 0, .bool false])) ∧ Blw w w' := by
  have hA : Blw w (w.alloc (.cells (held5 c zl kn) 129)) := (Blw.refl _).alloc _
  have hr5 : Row (w.alloc (.cells (held5 c zl kn) 129)) w.heap.size 5 (row5f c (.slice (some ⟨zl, 0, none⟩) kn kn)) := row5 w (.int .i64 (c 0)) (.int .i64 (c 1)) (.int .i64 (c 2)) (.int .i64 (c 3)) (.slice (some ⟨zl, 0, none⟩) kn kn) 129
  go_enter Try.func193, Try.ntmps193
  obtain ⟨p0, p1, p2, p3, p4⟩ := get5 hr5
  go_wp2_with fail
  clear p0 p1 p2 p3 p4
  have HA : Hid (Blw w (w.alloc (.cells (held5 c zl kn) 129))) := hA
  have H5 : Hid (Row (w.alloc (.cells (held5 c zl kn) 129)) w.heap.size 5 (row5f c (.slice (some ⟨zl, 0, none⟩) kn kn))) := hr5
  have HI : Hid (IntsAt (fun x => x = w.heap.size) (w.alloc (.cells (held5 c zl kn) 129)) (some ⟨w.heap.size, 0, none⟩) 4 c) := ⟨by omega, fun i hi => ⟨_, 0, rfl, rfl, by rw [Nat.zero_add]; exact row5_top hr5 hi⟩⟩
  clear hA hr5
  generalize w.alloc (.cells (held5 c zl kn) 129) = w0 at *
  go_loopw [8] (fun i wr => ∃ j : Nat, j ≤ kn ∧ i = .int .i64 j ∧ (∀ k, k < j → hasLine 4 c (k : Int)) ∧ wr = w0) (fun i _ => kn - (intOf i).toNat)
  case atStart => exact ⟨0, Nat.zero_le _, rfl, fun t ht => absurd ht (Nat.not_lt_zero _), rfl⟩
  case round =>
    obtain ⟨j, hj, rfl, hno, rfl⟩ := hrel
    have HO : Hid (∀ k, k < j → hasLine 4 c (k : Int)) := hno
    clear hno
    by_cases hlt : j < kn
    · have hlt' : (j : Int) < (kn : Int) := by omega
      go_wp2_with fail
      refine (contains_any _ 4 4 c (j : Int) _ _ HI.out).mono ?_
      rintro e w1 ⟨r, rfl, hr, rfl⟩
      have HR : Hid (r = true ↔ hasLine 4 c (j : Int)) := hr
      clear hr
      cases r
      · have HN : Hid (isIdle c kn j) := ⟨hlt, fun g => by have := HR.out.2 g; simp at this, HO.out⟩
        clear HR HO
        go_wp2
        exact bodyPost_ret (v := .tuple #[.int .i64 (j : Int), .bool true]) (by simp [results, Try.results193, go_sem]) rfl ⟨⟨j, Or.inl ⟨HN.out, rfl⟩⟩, HA.out⟩
      · have HN : Hid (∀ k, k < j + 1 → hasLine 4 c (k : Int)) := fun k hk => by
          by_cases e : k = j
          · subst e; exact HR.out.1 (by first | rfl | trivial)
          · exact HO.out k (by omega)
        clear HR HO
        go_wp2
        go_roundw
        case rel => exact ⟨j + 1, by omega, by go_num, HN.out, by first | trivial | rfl⟩
        case measure => simp [intOf]; omega
    · obtain rfl : j = kn := by omega
      have HN : Hid (¬ ∃ q, isIdle c j q) := no_idle HO.out
      clear HO
      go_wp2
      exact bodyPost_ret (v := .tuple #[.int .i64 0, .bool false]) (by simp [results, Try.results193, go_sem]) rfl ⟨⟨0, Or.inr ⟨HN.out, rfl⟩⟩, HA.out⟩
end Go.Proofs.Ytjplodenflkghaa
