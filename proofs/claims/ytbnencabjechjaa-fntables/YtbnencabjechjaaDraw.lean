/- The cursor that draws. -/
import Derived.Test.YtbnencabjechjaaOpenB
import Derived.Test.YtbnencabjechjaaTabL
import Derived.Laws.BitsAllLaws
namespace Go.Proofs.Ytbnencabjechjaa
open Go.RowKit
set_option linter.unusedSimpArgs false
set_option linter.unusedVariables false
theorem box3 (w : World) (a b c : Value) (t : TypeId) : Row (w.alloc (.cells #[a, b, c] t)) w.heap.size 3 (fun i => if i = 0 then a else if i = 1 then b else c) :=
  ⟨_, t, heap_alloc_new _ _, by simp, fun i hi => by
    match i, hi with
    | 0, _ => rfl
    | 1, _ => rfl
    | 2, _ => rfl⟩
/-- The three blocks that a function over a memory lays first: its argument, its result, a local one. -/
theorem set3_0 {w : World} {B : Nat} {a b c : Value} (r : Row w B 3 (fun i => if i = 0 then a else if i = 1 then b else c)) (u : Value) : Row (w.setCell ⟨B, 0, none⟩ u) B 3 (fun i => if i = 0 then u else if i = 1 then b else c) :=
  (r.set 0 u).congr fun i _ => by by_cases e : i = 0 <;> simp [e]
theorem set3_1 {w : World} {B : Nat} {a b c : Value} (r : Row w B 3 (fun i => if i = 0 then a else if i = 1 then b else c)) (u : Value) : Row (w.setCell ⟨B, 1, none⟩ u) B 3 (fun i => if i = 0 then a else if i = 1 then u else c) :=
  (r.set 1 u).congr fun i _ => by by_cases e : i = 1 <;> simp [e]
theorem set3_2 {w : World} {B : Nat} {a b c : Value} (r : Row w B 3 (fun i => if i = 0 then a else if i = 1 then b else c)) (u : Value) : Row (w.setCell ⟨B, 2, none⟩ u) B 3 (fun i => if i = 0 then a else if i = 1 then b else u) :=
  (r.set 2 u).congr fun i hi => by
    match i, hi with
    | 0, _ => rfl
    | 1, _ => rfl
    | 2, _ => rfl
theorem get3 {w : World} {B : Nat} {a b c : Value} (r : Row w B 3 (fun i => if i = 0 then a else if i = 1 then b else c)) : w.cell? ⟨B, 0, none⟩ = some a ∧ w.cell? ⟨B, 1, none⟩ = some b ∧ w.cell? ⟨B, 2, none⟩ = some c :=
  ⟨r.cell (i := 0) (by omega), r.cell (i := 1) (by omega), r.cell (i := 2) (by omega)⟩
/-- A cursor at block C that has read at most k times, its bytes in blocks of Y. -/
def Cur (Y : Nat → Prop) (w : World) (C k : Nat) : Prop :=
  ∃ (ao : Option Addr) (n c at_ : Nat) (f : Nat → Int) (s : Int), Row w C 3 (fun i => if i = 0 then Value.slice ao n c else if i = 1 then .int .i64 at_ else .int .u64 s) ∧ BytesAt Y w ao n f ∧ at_ ≤ k ∧ (∀ b, Y b → b ≠ C)
theorem low8 (n : Int) : ∃ x : Nat, x ≤ 255 ∧ wrap64 (bits .and .u64 (IntKind.u64.wrap n / 1099511627776) 255) = x := by
  have h : IntKind.u64.wrap n = n % 18446744073709551616 := by simp [IntKind.wrap, IntKind.bits, IntKind.signed]
  rw [h, u64_and _ _ (by omega) (by omega) (by omega) (by omega)]
  have hle : (n % 18446744073709551616 / 1099511627776).toNat &&& (255 : Int).toNat ≤ 255 := Nat.and_le_right
  refine ⟨_, hle, ?_⟩
  unfold wrap64
  omega
/-- A read: the cursor goes on. -/
theorem cur_step {Y : Nat → Prop} {w : World} {C k n c at_ : Nat} {ao : Option Addr} {f : Nat → Int} {s : Int} (r : Row w C 3 (fun i => if i = 0 then Value.slice ao n c else if i = 1 then .int .i64 at_ else .int .u64 s)) (hB : BytesAt Y w ao n f) (hat : at_ ≤ k) (hY : ∀ b, Y b → b ≠ C) (a b : Nat) (s' : Int) :
    Cur Y ((((w.drewN a).setCell ⟨C, 1, none⟩ (.int .i64 ((at_ : Int) + 1))).setCell ⟨C, 2, none⟩ (.int .u64 s')).drewN b) C (k + 1) ∧ Mod (fun b => b = C) w ((((w.drewN a).setCell ⟨C, 1, none⟩ (.int .i64 ((at_ : Int) + 1))).setCell ⟨C, 2, none⟩ (.int .u64 s')).drewN b) := by
  have m1 : Mod (fun b => b = C) w (w.drewN a) := ((Blw.refl w).drewN a).mod _
  have m2 := (m1.trans (Mod.setCell (X := fun b => b = C) _ (p := ⟨C, 1, none⟩) rfl (.int .i64 ((at_ : Int) + 1)))).trans (Mod.setCell (X := fun b => b = C) _ (p := ⟨C, 2, none⟩) rfl (.int .u64 s'))
  have m3 := m2.trans (((Blw.refl _).drewN b).mod (fun b => b = C))
  refine ⟨⟨ao, n, c, at_ + 1, f, s', ?_, hB.mod m3 (fun x hx => hY x hx), by omega, hY⟩, m3⟩
  refine ((((r.blw ((Blw.refl w).drewN a)).set 1 _).set 2 _).blw ((Blw.refl _).drewN b)).congr (fun i hi => ?_)
  match i, hi with
  | 0, _ => rfl
  | 1, _ => simp
  | 2, _ => rfl
set_option maxRecDepth 10000 in
set_option maxHeartbeats 1600000 in
theorem next_any (Y : Nat → Prop) (C k : Nat) (w : World) (hk : k ≤ 1000000) (h : Cur Y w C k) :
    Calls Try.prog 83 #[.pointer (some ⟨C, 0, none⟩)] w fun e w' => ∃ x : Nat, e = .returned (.int .i64 x) ∧ x ≤ 255 ∧ Cur Y w' C (k + 1) ∧ Mod (fun b => b = C) w w' := by
  obtain ⟨ao, n, c, at_, f, s, r, hB, hat, hY⟩ := h
  have hn := hB.1
  have HB : Hid (BytesAt Y w ao n f) := hB
  obtain ⟨p0, p1, p2⟩ := get3 r
  have f0 := r.frozen 0
  have f1 := r.frozen 1
  have f2 := r.frozen 2
  have HN : Hid _ := fun a b s' => cur_step r hB hat hY a b s'
  clear hB r
  go_enter Try.func83, Try.ntmps83
  by_cases hlt : at_ < n
  · have hlt' : (at_ : Int) < n := by omega
    have d1 : decide ((at_ : Int) < n) = true := by simp; omega
    obtain ⟨b, o, rfl, -, q, x0, x1⟩ := HB.out.2 at_ hlt
    go_wp2_with fail
    go_quiet (fail)
    go_wp2_with fail
    go_quiet (fail)
    have d2 : decide ((at_ : Int) + 1 ≤ n) = true := by simp; omega
    go_wp2_with fail
    go_quiet (fail)
    go_wp2
    go_ret
    obtain ⟨x, hx⟩ := Int.eq_ofNat_of_zero_le x0
    exact ⟨x, by rw [← hx]; rfl, by omega, HN.out _ _ _⟩
  · have d1 : decide ((at_ : Int) < n) = false := by simp; omega
    have d2 : decide ((at_ : Int) + 1 ≤ n) = false := by simp; omega
    go_wp2_with fail
    go_quiet (fail)
    go_wp2_with fail
    go_quiet (fail)
    go_wp2
    go_ret
    obtain ⟨x, hx, e⟩ := low8 (IntKind.u64.wrap (IntKind.u64.wrap (s * 6364136223846793005)) + 1442695040888963407)
    exact ⟨x, by rw [← e]; rfl, hx, HN.out _ _ _⟩
theorem Cur.le {Y : Nat → Prop} {w : World} {C k k' : Nat} (h : Cur Y w C k) (hk : k ≤ k') : Cur Y w C k' := by
  obtain ⟨ao, n, c, at_, f, s, r, hB, hat, hY⟩ := h
  exact ⟨ao, n, c, at_, f, s, r, hB, by omega, hY⟩
theorem Cur.blw {Y : Nat → Prop} {w w' : World} {C k : Nat} (h : Cur Y w C k) (hb : Blw w w') : Cur Y w' C k := by
  obtain ⟨ao, n, c, at_, f, s, r, hB, hat, hY⟩ := h
  exact ⟨ao, n, c, at_, f, s, r.blw hb, hB.blw hb, hat, hY⟩
theorem Cur.mod {X Y : Nat → Prop} {w w' : World} {C k : Nat} (h : Cur Y w C k) (hb : Mod X w w') (hC : ¬ X C) (hx : ∀ b, Y b → ¬ X b) : Cur Y w' C k := by
  obtain ⟨ao, n, c, at_, f, s, r, hB, hat, hY⟩ := h
  exact ⟨ao, n, c, at_, f, s, r.mod hb hC, hB.mod hb hx, hat, hY⟩
theorem Cur.lt {Y : Nat → Prop} {w : World} {C k : Nat} (h : Cur Y w C k) : C < w.heap.size := by
  obtain ⟨ao, n, c, at_, f, s, r, _⟩ := h
  exact r.lt
set_option maxHeartbeats 1600000 in
theorem pick_any (Y : Nat → Prop) (C k : Nat) (N : Int) (w : World) (hk : k ≤ 900000) (hN : 1 < N) (h : Cur Y w C k) :
    Calls Try.prog 49 #[.pointer (some ⟨C, 0, none⟩), .int .i64 N] w fun e w' => ∃ x : Nat, e = .returned (.int .i64 x) ∧ (x : Int) < N ∧ Cur Y w' C (k + 2) ∧ Mod (fun b => b = C) w w' := by
  have d1 : decide (N ≤ 1) = false := by simp; omega
  have hN0 : ¬ N = 0 := by omega
  have hm : ∀ x : Nat, ∃ y : Nat, (x : Int).tmod N = y ∧ (y : Int) < N := fun x => by
    rw [Int.tmod_eq_emod_of_nonneg (by omega)]
    obtain ⟨y, hy⟩ := Int.eq_ofNat_of_zero_le (Int.emod_nonneg x hN0)
    exact ⟨y, hy, by rw [← hy]; exact Int.emod_lt_of_pos _ (by omega)⟩
  have HM : Hid _ := hm
  clear hm
  go_enter Try.func49, Try.ntmps49
  go_wp2_with fail
  refine (next_any Y C k _ (by omega) h).mono ?_
  rintro e w1 ⟨x, rfl, hx, c1, m1⟩
  by_cases hg : N > 200
  · have d2 : decide (N > 200) = true := by simp; omega
    go_wp2_with fail
    refine (next_any Y C (k + 1) _ (by omega) c1).mono ?_
    rintro e w2 ⟨x2, rfl, hx2, c2, m2⟩
    obtain ⟨y, e1, e2⟩ := HM.out (x * 256 + x2)
    have e1' : ((x : Int) * 256 + x2).tmod N = y := by rw [← e1]; congr 1
    clear h c1
    go_wp2
    go_ret
    exact ⟨y, rfl, e2, c2, m1.trans m2⟩
  · have d2 : decide (N > 200) = false := by simp; omega
    obtain ⟨y, e1, e2⟩ := HM.out x
    clear h
    go_wp2
    go_ret
    exact ⟨y, rfl, e2, c1.le (by omega), m1⟩
set_option maxHeartbeats 1600000 in
theorem among_any (Y Y2 : Nat → Prop) (C k : Nat) (ao : Option Addr) (n c : Nat) (f : Nat → Int) (w : World) (hk : k ≤ 900000) (hn : 1 < n) (hI : IntsAt Y2 w ao n f) (hY2 : ∀ b, Y2 b → b ≠ C) (h : Cur Y w C k) :
    Calls Try.prog 50 #[.pointer (some ⟨C, 0, none⟩), .slice ao n c] w fun e w' => ∃ x : Int, e = .returned (.int .i64 x) ∧ Cur Y w' C (k + 2) ∧ Mod (fun b => b = C) w w' := by
  have HI : Hid (IntsAt Y2 w ao n f) := hI
  clear hI
  go_enter Try.func50, Try.ntmps50
  go_wp2_with fail
  refine (pick_any Y C k n _ hk (by omega) h).mono ?_
  rintro e w1 ⟨x, rfl, hx, c1, m1⟩
  obtain ⟨b, o, rfl, -, q⟩ := (HI.out.mod m1 (fun b hb => hY2 b hb)).2 x (by omega)
  clear h
  go_wp2
  go_ret
  exact ⟨f x, rfl, c1, m1⟩
end Go.Proofs.Ytbnencabjechjaa
