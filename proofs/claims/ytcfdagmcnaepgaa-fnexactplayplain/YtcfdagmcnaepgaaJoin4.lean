/- Merged by program, in this order: OpenB, Draw, Idle, Put, Mapped, MappedI. -/
import Derived.ProofKit
import Derived.OpenShut
import Derived.ChangeOld
import Derived.Lib.SmallJoins
import Derived.Deep.Slices
import Derived.Deep.SlicePairs
import Derived.Deep.MidRow
import Derived.Laws.BitsAllLaws
import Derived.Test.YtcfdagmcnaepgaaJoin3
/- What comes in, opened: numbers, bytes, pairs, books. -/
namespace Go.Proofs.Ytcfdagmcnaepgaa
open Go.ChangeShapes Go.WideShapes Go.ChangeAt Go.RowKit Go.Joins Go.Deep
theorem cells86 : Try.prog.cellsOf 142 = 2 := by kernel_rfl
theorem cells3 : Try.prog.cellsOf 3 = 1 := by kernel_rfl
theorem cells5 : Try.prog.cellsOf 5 = 1 := by kernel_rfl
/-- The slice at 'ao' reads as the n bytes f. -/
def BytesAt (Y : Nat → Prop) (w : World) (ao : Option Addr) (n : Nat) (f : Nat → Int) : Prop :=
  n ≤ 9223372036854775807 ∧ ∀ i, i < n → ∃ b o, ao = some ⟨b, o, none⟩ ∧ Y b ∧ w.cell? ⟨b, o + i, none⟩ = some (.int .u8 (f i)) ∧ 0 ≤ f i ∧ f i ≤ 255
theorem BytesAt.blw {Y : Nat → Prop} {w w' : World} {ao : Option Addr} {n : Nat} {f : Nat → Int} (h : BytesAt Y w ao n f) (hb : Blw w w') : BytesAt Y w' ao n f := by
  refine ⟨h.1, fun i hi => ?_⟩
  obtain ⟨b, o, h1, hY, h2, h3⟩ := h.2 i hi
  exact ⟨b, o, h1, hY, hb.cell h2, h3⟩
theorem BytesAt.mod {X Y : Nat → Prop} {w w' : World} {ao : Option Addr} {n : Nat} {f : Nat → Int} (h : BytesAt Y w ao n f) (hb : Mod X w w') (hxy : ∀ k, Y k → ¬ X k) : BytesAt Y w' ao n f := by
  refine ⟨h.1, fun i hi => ?_⟩
  obtain ⟨b, o, h1, hY, h2, h3⟩ := h.2 i hi
  exact ⟨b, o, h1, hY, hb.cell h2 (hxy _ hY), h3⟩
section
variable {H : Type} {enc : TypeId × Value → H} {w : World} {base : Nat} {spare : Nat → Bool} {held : Bool}
theorem addr_of_cell {w : World} {a : Addr} {v : Value} (h : w.cell? a = some v) : a = ⟨a.block, a.off, none⟩ := by
  obtain ⟨b, o, s⟩ := a
  cases s with
  | none => rfl
  | some x =>
    unfold World.cell? at h
    split at h
    · simp at h
    · cases h
theorem open_intsAt {fuel : Nat} {v : Value} {x : DataW H × List MemPlace} (h : DataW.trod enc Try.prog w base spare held fuel 23 [v] = some x) :
    ∃ ao n c f, v = .slice ao n c ∧ IntsAt (fun b => b < w.heap.size) w ao n f := by
  rcases open_ints Try.underlying23 Try.underlying3 cells3 h with ⟨hcs, _⟩ | ⟨a, len, cap, zs, hcs, _, hl, hm, hz, _, hcell, _⟩
  · simp only [List.cons.injEq, and_true] at hcs
    exact ⟨none, 0, 0, fun _ => 0, hcs, by omega, fun i hi => absurd hi (Nat.not_lt_zero _)⟩
  · simp only [List.cons.injEq, and_true] at hcs
    have hzl : len ≤ zs.length := by rw [hz]; split <;> omega
    unfold maxLen at hm
    refine ⟨some a, len, cap, fun i => zs.getD i 0, hcs, by omega, fun i hi => ?_⟩
    have ha := addr_of_cell (by simpa [Addr.add] using hcell 0 (by omega))
    have hc := hcell i (by omega)
    rw [ha, Addr.add_mid] at hc
    exact ⟨a.block, a.off, by rw [← ha], World.block_lt_of_cell? w ⟨a.block, a.off + i, none⟩ hc, hc⟩
theorem open_bytesAt {fuel : Nat} {v : Value} {x : DataW H × List MemPlace} (h : DataW.trod enc Try.prog w base spare held fuel 22 [v] = some x) :
    ∃ ao n c f, v = .slice ao n c ∧ BytesAt (fun b => b < w.heap.size) w ao n f := by
  rcases open_ints Try.underlying22 Try.underlying5 cells5 h with ⟨hcs, _⟩ | ⟨a, len, cap, zs, hcs, _, hl, hm, hz, _, hcell, hwf⟩
  · simp only [List.cons.injEq, and_true] at hcs
    exact ⟨none, 0, 0, fun _ => 0, hcs, by omega, fun i hi => absurd hi (Nat.not_lt_zero _)⟩
  · simp only [List.cons.injEq, and_true] at hcs
    have hzl : len ≤ zs.length := by rw [hz]; split <;> omega
    unfold maxLen at hm
    refine ⟨some a, len, cap, fun i => zs.getD i 0, hcs, by omega, fun i hi => ?_⟩
    have ha := addr_of_cell (by simpa [Addr.add] using hcell 0 (by omega))
    have hc := hcell i (by omega)
    rw [ha, Addr.add_mid] at hc
    have hw := hwf (zs.getD i 0) (by rw [List.getD_eq_getElem?_getD, List.getElem?_eq_getElem (show i < zs.length by omega)]; exact List.getElem_mem _)
    have hw' : ∀ n : Int, (Lit.int .u8 n).wf = true → 0 ≤ n ∧ n ≤ 255 := fun n h => by
      have h1 : (decide ((0 : Int) ≤ n) && decide (n ≤ 255)) = true := h
      simpa using h1
    refine ⟨a.block, a.off, by rw [← ha], World.block_lt_of_cell? w ⟨a.block, a.off + i, none⟩ hc, hc, ?_⟩
    exact hw' _ hw
theorem open_undosAt {fuel : Nat} {v : Value} {x : DataW H × List MemPlace} (h : DataW.trod enc Try.prog w base spare held fuel 130 [v] = some x) :
    ∃ ao n c f g, v = .slice ao n c ∧ UndosAt (fun b => b < w.heap.size) w ao n f g := by
  rcases open_slice_pairs Try.underlying130 Try.underlying142 cells86 rfl rfl cells3 cells3 h with ⟨hcs, _⟩ | ⟨a, len, cap, m, n, V0, V1, D0, D1, P0, P1, hcs, _, hl, hm, hmm, _, hx⟩
  · simp only [List.cons.injEq, and_true] at hcs
    exact ⟨none, 0, 0, fun _ => 0, fun _ => 0, hcs, by omega, fun i hi => absurd hi (Nat.not_lt_zero _)⟩
  · simp only [List.cons.injEq, and_true] at hcs
    have hml : len ≤ m := by rw [hmm]; split <;> omega
    unfold maxLen at hm
    have hb : ∀ i, i < len → ∃ t : Int × Int, V0 i = .int .i64 t.1 ∧ V1 i = .int .i64 t.2 := fun i hi => by
      obtain ⟨_, _, h2, h3⟩ := hx i (by omega)
      obtain ⟨a0, e0, _⟩ := DataW.trod_int Try.underlying3 h2
      obtain ⟨a1, e1, _⟩ := DataW.trod_int Try.underlying3 h3
      exact ⟨(a0, a1), by simpa using e0, by simpa using e1⟩
    obtain ⟨T, hT⟩ := choose_lt (α := Int × Int) (n := len) (p := fun i t => V0 i = .int .i64 t.1 ∧ V1 i = .int .i64 t.2) hb
    refine ⟨some a, len, cap, fun i => (T i).1, fun i => (T i).2, hcs, by omega, fun i hi => ?_⟩
    have ha := addr_of_cell (by simpa [Addr.add] using (hx 0 (by omega)).1)
    obtain ⟨hc0, hc1, -⟩ := hx i (by omega)
    rw [ha, Addr.add_mid] at hc0 hc1
    exact ⟨a.block, a.off, by rw [← ha], World.block_lt_of_cell? w ⟨a.block, a.off + i * 2, none⟩ hc0, by rw [hc0, (hT i hi).1], by rw [Nat.add_assoc, hc1, (hT i hi).2]⟩
theorem cells111 : Try.prog.cellsOf 130 = 1 := by kernel_rfl
theorem cells56 : Try.prog.cellsOf 56 = 2 := by kernel_rfl
theorem choose_lt {α : Type} [Inhabited α] {n : Nat} {p : Nat → α → Prop} (h : ∀ i, i < n → ∃ t, p i t) : ∃ T : Nat → α, ∀ i, i < n → p i (T i) :=
  ⟨fun i => if hi : i < n then Classical.choose (h i hi) else default, fun i hi => by show p i (if hi : i < n then Classical.choose (h i hi) else default); rw [dif_pos hi]; exact Classical.choose_spec (h i hi)⟩
theorem open_leafSS {fuel : Nat} {v : Value} {x : DataW H × List MemPlace} (h : DataW.trod enc Try.prog w base spare held fuel 54 [v] = some x) :
    ∃ ao c D, v = .slice ao D.n c ∧ PSAt (fun b => b < w.heap.size) w ao D := by
  rcases open_slice1 Try.underlying54 cells111 h with ⟨hcs, _⟩ | ⟨a, len, cap, m, n, V, D, Pl, hcs, _, hl, hm, hmm, _, hx⟩
  · simp only [List.cons.injEq, and_true] at hcs
    exact ⟨none, 0, PD.zero, hcs, by show 0 ≤ _; omega, fun i hi => absurd hi (Nat.not_lt_zero _)⟩
  · simp only [List.cons.injEq, and_true] at hcs
    have hml : len ≤ m := by rw [hmm]; split <;> omega
    unfold maxLen at hm
    have hline : ∀ i, i < len → ∃ t : Option Addr × Nat × Nat × (Nat → Int) × (Nat → Int), V i = .slice t.1 t.2.1 t.2.2.1 ∧ UndosAt (fun b => b < w.heap.size) w t.1 t.2.1 t.2.2.2.1 t.2.2.2.2 := fun i hi => by
      obtain ⟨_, h2⟩ := hx i (by omega)
      obtain ⟨ao, n, c, f, g, e, hI⟩ := open_undosAt h2
      exact ⟨(ao, n, c, f, g), e, hI⟩
    obtain ⟨T, hT⟩ := choose_lt (α := Option Addr × Nat × Nat × (Nat → Int) × (Nat → Int)) (n := len) (p := fun i t => V i = .slice t.1 t.2.1 t.2.2.1 ∧ UndosAt (fun b => b < w.heap.size) w t.1 t.2.1 t.2.2.2.1 t.2.2.2.2) hline
    refine ⟨some a, cap, ⟨len, fun i => (T i).2.1, fun i => (T i).2.2.2.1, fun i => (T i).2.2.2.2⟩, hcs, by show len ≤ _; omega, fun i hi => ?_⟩
    have ha := addr_of_cell (by simpa [Addr.add] using (hx 0 (by show 0 < m; have : i < len := hi; omega)).1)
    have hi' : i < len := hi
    have hc := (hx i (by omega)).1
    rw [ha, Addr.add_mid] at hc
    refine ⟨a.block, a.off, (T i).1, (T i).2.2.1, by rw [← ha], World.block_lt_of_cell? w ⟨a.block, a.off + i, none⟩ hc, ?_, (hT i hi).2⟩
    rw [hc, (hT i hi).1]
set_option maxRecDepth 100000 in
/-- A table by value. -/
theorem open_book {r : Reach} {b0 : Nat} {v : Value} {d : DataW H} {p : List MemPlace} (hv : Value.okWide Try.prog w r b0 56 v) (h : DataW.Trod enc Try.prog w base spare held 56 v d p) :
    ∃ (b : BV) (B : BD), v = b.val B ∧ BookAt (fun b => b < w.heap.size) w b B := by
  obtain ⟨v0, v1, y0, y1, n, rfl, _, _, h0, h1⟩ := open_agg2 Try.underlying56 (by kernel_rfl) cells56 hv h
  obtain ⟨a1, n1, c1, f1, rfl, m1⟩ := open_intsAt h0
  obtain ⟨a2, c2, D, rfl, m2⟩ := open_leafSS h1
  exact ⟨⟨a1, a2, c1, c2⟩, ⟨n1, f1, D⟩, rfl, ⟨m1, m2⟩⟩
end
end Go.Proofs.Ytcfdagmcnaepgaa
/- The cursor that draws. -/
namespace Go.Proofs.Ytcfdagmcnaepgaa
open Go.RowKit
set_option linter.unusedSimpArgs false
set_option linter.unusedVariables false
theorem box3 (w : World) (a b c : Value) (t : TypeId) : Row (w.alloc (.cells #[a, b, c] t)) w.heap.size 3 (fun i => if i = 0 then a else if i = 1 then b else c) :=
  ⟨_, t, heap_alloc_new _ _, by simp, fun i hi => by
    match i, hi with
    | 0, _ => rfl
    | 1, _ => rfl
    | 2, _ => rfl⟩
/-- The three blocks that a function over a memory lays first: its argument, its result, a local one. -/
theorem set3_0 {w : World} {B : Nat} {a b c : Value} (r : Row w B 3 (fun i => if i = 0 then a else if i = 1 then b else c)) (u : Value) : Row (w.setCell ⟨B, 0, none⟩ u) B 3 (fun i => if i = 0 then u else if i = 1 then b else c) :=
  (r.set 0 u).congr fun i _ => by by_cases e : i = 0 <;> simp [e]
theorem set3_1 {w : World} {B : Nat} {a b c : Value} (r : Row w B 3 (fun i => if i = 0 then a else if i = 1 then b else c)) (u : Value) : Row (w.setCell ⟨B, 1, none⟩ u) B 3 (fun i => if i = 0 then a else if i = 1 then u else c) :=
  (r.set 1 u).congr fun i _ => by by_cases e : i = 1 <;> simp [e]
theorem set3_2 {w : World} {B : Nat} {a b c : Value} (r : Row w B 3 (fun i => if i = 0 then a else if i = 1 then b else c)) (u : Value) : Row (w.setCell ⟨B, 2, none⟩ u) B 3 (fun i => if i = 0 then a else if i = 1 then b else u) :=
  (r.set 2 u).congr fun i hi => by
    match i, hi with
    | 0, _ => rfl
    | 1, _ => rfl
    | 2, _ => rfl
theorem get3 {w : World} {B : Nat} {a b c : Value} (r : Row w B 3 (fun i => if i = 0 then a else if i = 1 then b else c)) : w.cell? ⟨B, 0, none⟩ = some a ∧ w.cell? ⟨B, 1, none⟩ = some b ∧ w.cell? ⟨B, 2, none⟩ = some c :=
  ⟨r.cell (i := 0) (by omega), r.cell (i := 1) (by omega), r.cell (i := 2) (by omega)⟩
/-- A cursor at block C that has read at most k times, its bytes in blocks of Y. -/
def Cur (Y : Nat → Prop) (w : World) (C k : Nat) : Prop :=
  ∃ (ao : Option Addr) (n c at_ : Nat) (f : Nat → Int) (s : Int), Row w C 3 (fun i => if i = 0 then Value.slice ao n c else if i = 1 then .int .i64 at_ else .int .u64 s) ∧ BytesAt Y w ao n f ∧ at_ ≤ k ∧ (∀ b, Y b → b ≠ C)
theorem low8 (n : Int) : ∃ x : Nat, x ≤ 255 ∧ wrap64 (bits .and .u64 (IntKind.u64.wrap n / 1099511627776) 255) = x := by
  have h : IntKind.u64.wrap n = n % 18446744073709551616 := by simp [IntKind.wrap, IntKind.bits, IntKind.signed]
  rw [h, u64_and _ _ (by omega) (by omega) (by omega) (by omega)]
  have hle : (n % 18446744073709551616 / 1099511627776).toNat &&& (255 : Int).toNat ≤ 255 := Nat.and_le_right
  refine ⟨_, hle, ?_⟩
  unfold wrap64
  omega
/-- A read: the cursor goes on. -/
theorem cur_step {Y : Nat → Prop} {w : World} {C k n c at_ : Nat} {ao : Option Addr} {f : Nat → Int} {s : Int} (r : Row w C 3 (fun i => if i = 0 then Value.slice ao n c else if i = 1 then .int .i64 at_ else .int .u64 s)) (hB : BytesAt Y w ao n f) (hat : at_ ≤ k) (hY : ∀ b, Y b → b ≠ C) (a b : Nat) (s' : Int) :
    Cur Y ((((w.drewN a).setCell ⟨C, 1, none⟩ (.int .i64 ((at_ : Int) + 1))).setCell ⟨C, 2, none⟩ (.int .u64 s')).drewN b) C (k + 1) ∧ Mod (fun b => b = C) w ((((w.drewN a).setCell ⟨C, 1, none⟩ (.int .i64 ((at_ : Int) + 1))).setCell ⟨C, 2, none⟩ (.int .u64 s')).drewN b) := by
  have m1 : Mod (fun b => b = C) w (w.drewN a) := ((Blw.refl w).drewN a).mod _
  have m2 := (m1.trans (Mod.setCell (X := fun b => b = C) _ (p := ⟨C, 1, none⟩) rfl (.int .i64 ((at_ : Int) + 1)))).trans (Mod.setCell (X := fun b => b = C) _ (p := ⟨C, 2, none⟩) rfl (.int .u64 s'))
  have m3 := m2.trans (((Blw.refl _).drewN b).mod (fun b => b = C))
  refine ⟨⟨ao, n, c, at_ + 1, f, s', ?_, hB.mod m3 (fun x hx => hY x hx), by omega, hY⟩, m3⟩
  refine ((((r.blw ((Blw.refl w).drewN a)).set 1 _).set 2 _).blw ((Blw.refl _).drewN b)).congr (fun i hi => ?_)
  match i, hi with
  | 0, _ => rfl
  | 1, _ => simp
  | 2, _ => rfl
set_option maxRecDepth 10000 in
set_option maxHeartbeats 1600000 in
theorem next_any (Y : Nat → Prop) (C k : Nat) (w : World) (hk : k ≤ 1000000) (h : Cur Y w C k) :
    Calls Try.prog 92 #[.pointer (some ⟨C, 0, none⟩)] w fun e w' => ∃ x : Nat, e = .returned (.int .i64 x) ∧ x ≤ 255 ∧ Cur Y w' C (k + 1) ∧ Mod (fun b => b = C) w w' := by
  obtain ⟨ao, n, c, at_, f, s, r, hB, hat, hY⟩ := h
  have hn := hB.1
  have HB : Hid (BytesAt Y w ao n f) := hB
  obtain ⟨p0, p1, p2⟩ := get3 r
  have f0 := r.frozen 0
  have f1 := r.frozen 1
  have f2 := r.frozen 2
  have HN : Hid _ := fun a b s' => cur_step r hB hat hY a b s'
  clear hB r
  go_enter Try.func92, Try.ntmps92
  by_cases hlt : at_ < n
  · have hlt' : (at_ : Int) < n := by omega
    have d1 : decide ((at_ : Int) < n) = true := by simp; omega
    obtain ⟨b, o, rfl, -, q, x0, x1⟩ := HB.out.2 at_ hlt
    go_wp2_with fail
    go_quiet (fail)
    go_wp2_with fail
    go_quiet (fail)
    have d2 : decide ((at_ : Int) + 1 ≤ n) = true := by simp; omega
    go_wp2_with fail
    go_quiet (fail)
    go_wp2
    go_ret
    obtain ⟨x, hx⟩ := Int.eq_ofNat_of_zero_le x0
    exact ⟨x, by rw [← hx]; rfl, by omega, HN.out _ _ _⟩
  · have d1 : decide ((at_ : Int) < n) = false := by simp; omega
    have d2 : decide ((at_ : Int) + 1 ≤ n) = false := by simp; omega
    go_wp2_with fail
    go_quiet (fail)
    go_wp2_with fail
    go_quiet (fail)
    go_wp2
    go_ret
    obtain ⟨x, hx, e⟩ := low8 (IntKind.u64.wrap (IntKind.u64.wrap (s * 6364136223846793005)) + 1442695040888963407)
    exact ⟨x, by rw [← e]; rfl, hx, HN.out _ _ _⟩
theorem Cur.le {Y : Nat → Prop} {w : World} {C k k' : Nat} (h : Cur Y w C k) (hk : k ≤ k') : Cur Y w C k' := by
  obtain ⟨ao, n, c, at_, f, s, r, hB, hat, hY⟩ := h
  exact ⟨ao, n, c, at_, f, s, r, hB, by omega, hY⟩
theorem Cur.blw {Y : Nat → Prop} {w w' : World} {C k : Nat} (h : Cur Y w C k) (hb : Blw w w') : Cur Y w' C k := by
  obtain ⟨ao, n, c, at_, f, s, r, hB, hat, hY⟩ := h
  exact ⟨ao, n, c, at_, f, s, r.blw hb, hB.blw hb, hat, hY⟩
theorem Cur.mod {X Y : Nat → Prop} {w w' : World} {C k : Nat} (h : Cur Y w C k) (hb : Mod X w w') (hC : ¬ X C) (hx : ∀ b, Y b → ¬ X b) : Cur Y w' C k := by
  obtain ⟨ao, n, c, at_, f, s, r, hB, hat, hY⟩ := h
  exact ⟨ao, n, c, at_, f, s, r.mod hb hC, hB.mod hb hx, hat, hY⟩
theorem Cur.lt {Y : Nat → Prop} {w : World} {C k : Nat} (h : Cur Y w C k) : C < w.heap.size := by
  obtain ⟨ao, n, c, at_, f, s, r, _⟩ := h
  exact r.lt
set_option maxHeartbeats 1600000 in
theorem pick_any (Y : Nat → Prop) (C k : Nat) (N : Int) (w : World) (hk : k ≤ 900000) (hN : 1 < N) (h : Cur Y w C k) :
    Calls Try.prog 50 #[.pointer (some ⟨C, 0, none⟩), .int .i64 N] w fun e w' => ∃ x : Nat, e = .returned (.int .i64 x) ∧ (x : Int) < N ∧ Cur Y w' C (k + 2) ∧ Mod (fun b => b = C) w w' := by
  have d1 : decide (N ≤ 1) = false := by simp; omega
  have hN0 : ¬ N = 0 := by omega
  have hm : ∀ x : Nat, ∃ y : Nat, (x : Int).tmod N = y ∧ (y : Int) < N := fun x => by
    rw [Int.tmod_eq_emod_of_nonneg (by omega)]
    obtain ⟨y, hy⟩ := Int.eq_ofNat_of_zero_le (Int.emod_nonneg x hN0)
    exact ⟨y, hy, by rw [← hy]; exact Int.emod_lt_of_pos _ (by omega)⟩
  have HM : Hid _ := hm
  clear hm
  go_enter Try.func50, Try.ntmps50
  go_wp2_with fail
  refine (next_any Y C k _ (by omega) h).mono ?_
  rintro e w1 ⟨x, rfl, hx, c1, m1⟩
  by_cases hg : N > 200
  · have d2 : decide (N > 200) = true := by simp; omega
    go_wp2_with fail
    refine (next_any Y C (k + 1) _ (by omega) c1).mono ?_
    rintro e w2 ⟨x2, rfl, hx2, c2, m2⟩
    obtain ⟨y, e1, e2⟩ := HM.out (x * 256 + x2)
    have e1' : ((x : Int) * 256 + x2).tmod N = y := by rw [← e1]; congr 1
    clear h c1
    go_wp2
    go_ret
    exact ⟨y, rfl, e2, c2, m1.trans m2⟩
  · have d2 : decide (N > 200) = false := by simp; omega
    obtain ⟨y, e1, e2⟩ := HM.out x
    clear h
    go_wp2
    go_ret
    exact ⟨y, rfl, e2, c1.le (by omega), m1⟩
set_option maxHeartbeats 1600000 in
theorem among_any (Y Y2 : Nat → Prop) (C k : Nat) (ao : Option Addr) (n c : Nat) (f : Nat → Int) (w : World) (hk : k ≤ 900000) (hn : 1 < n) (hI : IntsAt Y2 w ao n f) (hY2 : ∀ b, Y2 b → b ≠ C) (h : Cur Y w C k) :
    Calls Try.prog 51 #[.pointer (some ⟨C, 0, none⟩), .slice ao n c] w fun e w' => ∃ x : Int, e = .returned (.int .i64 x) ∧ Cur Y w' C (k + 2) ∧ Mod (fun b => b = C) w w' := by
  have HI : Hid (IntsAt Y2 w ao n f) := hI
  clear hI
  go_enter Try.func51, Try.ntmps51
  go_wp2_with fail
  refine (pick_any Y C k n _ hk (by omega) h).mono ?_
  rintro e w1 ⟨x, rfl, hx, c1, m1⟩
  obtain ⟨b, o, rfl, -, q⟩ := (HI.out.mod m1 (fun b hb => hY2 b hb)).2 x (by omega)
  clear h
  go_wp2
  go_ret
  exact ⟨f x, rfl, c1, m1⟩
end Go.Proofs.Ytcfdagmcnaepgaa
/- The first list at no top: the program's. -/
namespace Go.Proofs.Ytcfdagmcnaepgaa
open Go.RowKit
set_option linter.unusedSimpArgs false
set_option linter.unusedVariables false
set_option maxHeartbeats 1600000 in
theorem index_any (ao : Option Addr) (c0 n : Nat) (f : Nat → Int) (x : Int) (Y : Nat → Prop) (w : World) (h : IntsAt Y w ao n f) :
    Calls Try.prog 121 #[.slice ao n c0, .int .i64 x] w fun e w' => ∃ r : Int, e = .returned (.int .i64 r) ∧ (0 ≤ r ↔ hasLine n f x) ∧ w' = w := by
  have hn := h.1
  have H : Hid (IntsAt Y w ao n f) := h
  clear h
  go_enter Try.func121, Try.ntmps121
  go_wp2_with fail
  go_loopw [8] (fun i wr => ∃ j : Nat, j ≤ n ∧ i = .int .i64 j ∧ (∀ t, t < j → ¬ f t = x) ∧ wr = w) (fun i _ => n - (intOf i).toNat)
  case atStart => exact ⟨0, Nat.zero_le _, rfl, fun t ht => absurd ht (Nat.not_lt_zero _), rfl⟩
  case round =>
    obtain ⟨j, hj, rfl, hno, rfl⟩ := hrel
    have HO : Hid (∀ t, t < j → ¬ f t = x) := hno
    clear hno
    by_cases hlt : j < n
    · obtain ⟨b, o, e, -, q0⟩ := H.out.2 j hlt
      subst e
      by_cases hx : f j = x
      · have HN : Hid (0 ≤ (j : Int) ↔ hasLine n f x) := ⟨fun _ => ⟨j, hlt, hx⟩, fun _ => by omega⟩
        have d1 : (x == f j) = true := by simp [hx]
        clear hx HO
        go_wp2
        go_ret
        exact ⟨_, rfl, HN.out, rfl⟩
      · have d1 : (x == f j) = false := by simp; exact fun e => hx e.symm
        have HN : Hid (∀ t, t < j + 1 → ¬ f t = x) := fun t ht => by
          by_cases e : t = j
          · subst e; exact hx
          · exact HO.out t (by omega)
        clear hx HO
        go_wp2
        go_roundw
        case rel => exact ⟨j + 1, by omega, by go_num, HN.out, by first | trivial | rfl⟩
        case measure => simp [intOf]; omega
    · obtain rfl : j = n := by omega
      have HN : Hid (0 ≤ (-1 : Int) ↔ hasLine j f x) := ⟨fun h => by omega, fun ⟨t, ht, e⟩ => absurd e (HO.out t ht)⟩
      clear HO
      go_wp2
      go_ret
      exact ⟨_, rfl, HN.out, rfl⟩
set_option maxHeartbeats 800000 in
theorem contains_any (ao : Option Addr) (c0 n : Nat) (f : Nat → Int) (x : Int) (Y : Nat → Prop) (w : World) (h : IntsAt Y w ao n f) :
    Calls Try.prog 119 #[.slice ao n c0, .int .i64 x] w fun e w' => ∃ r, e = .returned (.bool r) ∧ (r = true ↔ hasLine n f x) ∧ w' = w := by
  have H : Hid (IntsAt Y w ao n f) := h
  clear h
  go_enter Try.func119, Try.ntmps119
  go_wp2_with fail
  refine (index_any ao c0 n f x Y _ H.out).mono ?_
  rintro e w1 ⟨r, rfl, hr, rfl⟩
  have HR : Hid (decide (r ≥ 0) = true ↔ hasLine n f x) := by rw [decide_eq_true_iff]; exact hr
  clear hr H
  go_wp2
  go_ret
  exact ⟨_, rfl, HR.out, rfl⟩
/-- The first list that stands at no top. -/
def isIdle (c : Nat → Int) (kn q : Nat) : Prop := q < kn ∧ ¬ hasLine 4 c (q : Int) ∧ ∀ k, k < q → hasLine 4 c (k : Int)
theorem idle_uniq {c : Nat → Int} {kn q q' : Nat} (h : isIdle c kn q) (h' : isIdle c kn q') : q = q' := by
  rcases Nat.lt_trichotomy q q' with e | e | e
  · exact absurd (h'.2.2 q e) h.2.1
  · exact e
  · exact absurd (h.2.2 q' e) h'.2.1
theorem no_idle {c : Nat → Int} {kn : Nat} (h : ∀ k, k < kn → hasLine 4 c (k : Int)) : ¬ ∃ q, isIdle c kn q := fun ⟨q, h1, h2, _⟩ => h2 (h q h1)
set_option maxRecDepth 10000 in
set_option maxHeartbeats 1600000 in
theorem idle_any (c : Nat → Int) (zl kn : Nat) (w : World) (hk : kn ≤ 4) :
    Calls Try.prog 112 #[.agg (held5 c zl kn)] w fun e w' => (∃ q : Nat, isIdle c kn q ∧ e = .returned (.tuple #[.int .i64 q, .bool true]) ∨ (¬ ∃ q, isIdle c kn q) ∧ e = .returned (.tuple #[.int .i64 0, .bool false])) ∧ Blw w w' := by
  have hA : Blw w (w.alloc (.cells (held5 c zl kn) 87)) := (Blw.refl _).alloc _
  have hr5 : Row (w.alloc (.cells (held5 c zl kn) 87)) w.heap.size 5 (row5f c (.slice (some ⟨zl, 0, none⟩) kn kn)) := row5 w (.int .i64 (c 0)) (.int .i64 (c 1)) (.int .i64 (c 2)) (.int .i64 (c 3)) (.slice (some ⟨zl, 0, none⟩) kn kn) 87
  go_enter Try.func112, Try.ntmps112
  obtain ⟨p0, p1, p2, p3, p4⟩ := get5 hr5
  go_wp2_with fail
  clear p0 p1 p2 p3 p4
  have HA : Hid (Blw w (w.alloc (.cells (held5 c zl kn) 87))) := hA
  have H5 : Hid (Row (w.alloc (.cells (held5 c zl kn) 87)) w.heap.size 5 (row5f c (.slice (some ⟨zl, 0, none⟩) kn kn))) := hr5
  have HI : Hid (IntsAt (fun x => x = w.heap.size) (w.alloc (.cells (held5 c zl kn) 87)) (some ⟨w.heap.size, 0, none⟩) 4 c) := ⟨by omega, fun i hi => ⟨_, 0, rfl, rfl, by rw [Nat.zero_add]; exact row5_top hr5 hi⟩⟩
  clear hA hr5
  generalize w.alloc (.cells (held5 c zl kn) 87) = w0 at *
  go_loopw [8] (fun i wr => ∃ j : Nat, j ≤ kn ∧ i = .int .i64 j ∧ (∀ k, k < j → hasLine 4 c (k : Int)) ∧ wr = w0) (fun i _ => kn - (intOf i).toNat)
  case atStart => exact ⟨0, Nat.zero_le _, rfl, fun t ht => absurd ht (Nat.not_lt_zero _), rfl⟩
  case round =>
    obtain ⟨j, hj, rfl, hno, rfl⟩ := hrel
    have HO : Hid (∀ k, k < j → hasLine 4 c (k : Int)) := hno
    clear hno
    by_cases hlt : j < kn
    · have hlt' : (j : Int) < (kn : Int) := by omega
      go_wp2_with fail
      refine (contains_any _ 4 4 c (j : Int) _ _ HI.out).mono ?_
      rintro e w1 ⟨r, rfl, hr, rfl⟩
      have HR : Hid (r = true ↔ hasLine 4 c (j : Int)) := hr
      clear hr
      cases r
      · have HN : Hid (isIdle c kn j) := ⟨hlt, fun g => by have := HR.out.2 g; simp at this, HO.out⟩
        clear HR HO
        go_wp2
        exact bodyPost_ret (v := .tuple #[.int .i64 (j : Int), .bool true]) (by simp [results, Try.results112, go_sem]) rfl ⟨⟨j, Or.inl ⟨HN.out, rfl⟩⟩, HA.out⟩
      · have HN : Hid (∀ k, k < j + 1 → hasLine 4 c (k : Int)) := fun k hk => by
          by_cases e : k = j
          · subst e; exact HR.out.1 (by first | rfl | trivial)
          · exact HO.out k (by omega)
        clear HR HO
        go_wp2
        go_roundw
        case rel => exact ⟨j + 1, by omega, by go_num, HN.out, by first | trivial | rfl⟩
        case measure => simp [intOf]; omega
    · obtain rfl : j = kn := by omega
      have HN : Hid (¬ ∃ q, isIdle c j q) := no_idle HO.out
      clear HO
      go_wp2
      exact bodyPost_ret (v := .tuple #[.int .i64 0, .bool false]) (by simp [results, Try.results112, go_sem]) rfl ⟨⟨0, Or.inr ⟨HN.out, rfl⟩⟩, HA.out⟩
end Go.Proofs.Ytcfdagmcnaepgaa
/- A leaf that is put: the program's. -/
namespace Go.Proofs.Ytcfdagmcnaepgaa
open Go.RowKit
set_option linter.unusedSimpArgs false
set_option linter.unusedVariables false
theorem eql8_same (f g : Nat → Int) (h : isZero8 f g) (w : World) : (binOp .eql 119 (.agg (eight f g)) (.agg (eight zf zf))).run Try.prog w = .ok (.bool true) w := by
  rw [run_eql_struct, eqArr8 9999 f g zf zf w (fun a b a' b' w => pairEq 9997 a b a' b' w), (h 0 (by omega)).1, (h 0 (by omega)).2, (h 1 (by omega)).1, (h 1 (by omega)).2, (h 2 (by omega)).1, (h 2 (by omega)).2, (h 3 (by omega)).1, (h 3 (by omega)).2]
  rfl
theorem eql8_other (f g : Nat → Int) (h : ¬ isZero8 f g) (w : World) : (binOp .eql 119 (.agg (eight f g)) (.agg (eight zf zf))).run Try.prog w = .ok (.bool false) w := by
  rw [run_eql_struct, eqArr8 9999 f g zf zf w (fun a b a' b' w => pairEq 9997 a b a' b' w)]
  have : (((f 0 == zf 0) && (g 0 == zf 0)) && (((f 1 == zf 1) && (g 1 == zf 1)) && (((f 2 == zf 2) && (g 2 == zf 2)) && ((f 3 == zf 3) && (g 3 == zf 3))))) = false := by
    rw [Bool.eq_false_iff]
    intro hh
    simp at hh
    refine h fun j hj => ?_
    match j, hj with
    | 0, _ => exact hh.1
    | 1, _ => exact hh.2.1
    | 2, _ => exact hh.2.2.1
    | 3, _ => exact hh.2.2.2
  rw [this]
  rfl
theorem lc_put {w : World} {z n : Nat} {p m : Nat → Nat → Int} (r : Row w z (n * 8) (lc p m)) {q j : Nat} (hj : j < 4) (x y : Int) : Row ((w.setCell ⟨z, q * 8 + j * 2, none⟩ (.int .i64 x)).setCell ⟨z, q * 8 + j * 2 + 1, none⟩ (.int .i64 y)) z (n * 8) (lc (upd2 p q j x) (upd2 m q j y)) :=
  ((r.set (q * 8 + j * 2) _).set (q * 8 + j * 2 + 1) _).congr (fun i hi => by
    unfold lc upd2
    by_cases e1 : i = q * 8 + j * 2 + 1
    · have h1 : ¬ i % 2 = 0 := by omega
      have h2 : i / 8 = q := by omega
      have h3 : i % 8 / 2 = j := by omega
      simp only [e1, if_true]
      rw [← e1]
      simp only [h1, h2, h3, if_true, if_false, and_self]
    · by_cases e2 : i = q * 8 + j * 2
      · have h1 : i % 2 = 0 := by omega
        have h2 : i / 8 = q := by omega
        have h3 : i % 8 / 2 = j := by omega
        simp only [e1, if_false]
        simp only [e2, if_true]
        rw [← e2]
        simp only [h1, h2, h3, if_true, and_self]
      · have h3 : i % 2 = 0 → ¬ (i / 8 = q ∧ i % 8 / 2 = j) := fun a b => by omega
        have h4 : ¬ i % 2 = 0 → ¬ (i / 8 = q ∧ i % 8 / 2 = j) := fun a b => by omega
        simp only [e1, e2, if_false]
        by_cases h5 : i % 2 = 0
        · simp only [h5, h3 h5, if_true, if_false]
        · simp only [h5, h4 h5, if_false])
theorem row5_set {w : World} {z : Nat} {c : Nat → Int} {v : Value} (r : Row w z 5 (row5f c v)) {t : Nat} (ht : t < 4) (x : Int) : Row (w.setCell ⟨z, t, none⟩ (.int .i64 x)) z 5 (row5f (upd c t x) v) :=
  (r.set t _).congr (fun i hi => by
    unfold upd
    match t, ht, i, hi with
    | 0, _, 0, _ => rfl
    | 0, _, 1, _ => rfl
    | 0, _, 2, _ => rfl
    | 0, _, 3, _ => rfl
    | 0, _, 4, _ => rfl
    | 1, _, 0, _ => rfl
    | 1, _, 1, _ => rfl
    | 1, _, 2, _ => rfl
    | 1, _, 3, _ => rfl
    | 1, _, 4, _ => rfl
    | 2, _, 0, _ => rfl
    | 2, _, 1, _ => rfl
    | 2, _, 2, _ => rfl
    | 2, _, 3, _ => rfl
    | 2, _, 4, _ => rfl
    | 3, _, 0, _ => rfl
    | 3, _, 1, _ => rfl
    | 3, _, 2, _ => rfl
    | 3, _, 3, _ => rfl
    | 3, _, 4, _ => rfl)
theorem upd_self {c : Nat → Int} {t : Nat} {v : Int} (h : c t = v) : upd c t v = c := by
  funext i; unfold upd; split
  · next e => rw [e, h]
  · rfl
theorem upd_at (c : Nat → Int) (t : Nat) (v : Int) : upd c t v t = v := by unfold upd; rw [if_pos rfl]
theorem upd_upd (c : Nat → Int) (t : Nat) (v v' : Int) : upd (upd c t v) t v' = upd c t v' := by
  funext i; unfold upd; split <;> rfl
/-- The list that a leaf at top t comes into. -/
def goes (c : Nat → Int) (kn t q : Nat) : Prop := c t = (q : Int) ∨ (c t = -1 ∧ isIdle c kn q)
theorem goes_uniq {c : Nat → Int} {kn t q q' : Nat} (h : goes c kn t q) (h' : goes c kn t q') : q = q' := by
  rcases h with h | ⟨h1, h2⟩ <;> rcases h' with h' | ⟨h3, h4⟩
  · omega
  · omega
  · omega
  · exact idle_uniq h2 h4
open Classical in
noncomputable def topsOf (c : Nat → Int) (t q : Nat) (f g : Nat → Int) : Nat → Int := if isZero8 f g then upd c t (-1) else upd c t q
theorem topsOf_yes {c : Nat → Int} {t q : Nat} {f g : Nat → Int} (h : isZero8 f g) : topsOf c t q f g = upd c t (-1) := by unfold topsOf; rw [if_pos h]
theorem topsOf_no {c : Nat → Int} {t q : Nat} {f g : Nat → Int} (h : ¬ isZero8 f g) : topsOf c t q f g = upd c t q := by unfold topsOf; rw [if_neg h]
set_option maxRecDepth 10000 in
set_option maxHeartbeats 6400000 in
theorem put_any (c : Nat → Int) (zl kn : Nat) (p m : Nat → Nat → Int) (zb a : Nat) (x y : Int) (w : World) (hk : kn ≤ 4) (ht : ∀ i, i < 4 → -1 ≤ c i ∧ c i ≤ (kn : Int) - 1) (ha : a < 16) (hz : zb ≠ zl) (h5 : Row w zb 5 (row5f c (.slice (some ⟨zl, 0, none⟩) kn kn))) (hl : Row w zl (kn * 8) (lc p m)) :
    Calls Try.prog 94 #[.pointer (some ⟨zb, 0, none⟩), .int .i64 a, .agg #[.int .i64 x, .int .i64 y]] w fun e w' => ((∃ q : Nat, goes c kn (a / 4) q ∧ e = .returned (.bool true) ∧ Row w' zb 5 (row5f (topsOf c (a / 4) q (upd2 p q (a % 4) x q) (upd2 m q (a % 4) y q)) (.slice (some ⟨zl, 0, none⟩) kn kn)) ∧ Row w' zl (kn * 8) (lc (upd2 p q (a % 4) x) (upd2 m q (a % 4) y)) ∧ Mod (fun b => b = zb ∨ b = zl) w w') ∨ ((¬ ∃ q, goes c kn (a / 4) q) ∧ e = .returned (.bool false) ∧ Blw w w')) := by
  have hA : Blw w (w.alloc (.cells #[.int .i64 x, .int .i64 y] 78)) := (Blw.refl _).alloc _
  have HF : Hid (Row (w.alloc (.cells #[.int .i64 x, .int .i64 y] 78)) w.heap.size 2 (fun i => if i = 0 then .int .i64 x else .int .i64 y)) := box2 w _ _ 78
  have H5 : Hid (Row (w.alloc (.cells #[.int .i64 x, .int .i64 y] 78)) zb 5 (row5f c (.slice (some ⟨zl, 0, none⟩) kn kn))) := h5.blw hA
  have HL : Hid (Row (w.alloc (.cells #[.int .i64 x, .int .i64 y] 78)) zl (kn * 8) (lc p m)) := hl.blw hA
  have HM : Hid (Mod (fun b => b = zb ∨ b = zl) w (w.alloc (.cells #[.int .i64 x, .int .i64 y] 78))) := hA.mod _
  have HA : Hid (Blw w (w.alloc (.cells #[.int .i64 x, .int .i64 y] 78))) := hA
  have hbl := h5.lt
  have hll := hl.lt
  have hd : Int.tdiv (a : Int) 4 = ((a / 4 : Nat) : Int) := by rw [Int.tdiv_eq_ediv_of_nonneg (by omega)]; rfl
  have hr : Int.tmod (a : Int) 4 = ((a % 4 : Nat) : Int) := by rw [Int.tmod_eq_emod_of_nonneg (by omega)]; rfl
  have hd4 : a / 4 < 4 := by omega
  have hr4 : a % 4 < 4 := by omega
  have htop := ht (a / 4) hd4
  have hd4' : ((a / 4 : Nat) : Int) < 4 := by omega
  have hr4' : ((a % 4 : Nat) : Int) < 4 := by omega
  clear hA h5 hl ht
  go_enter Try.func94, Try.ntmps94
  generalize a / 4 = t at *
  generalize a % 4 = j at *
  by_cases h0 : 0 ≤ c t
  · obtain ⟨q, hq⟩ : ∃ q : Nat, c t = q := ⟨(c t).toNat, by omega⟩
    have hqk : q < kn := by omega
    have HGO : Hid (goes c kn t q) := Or.inl hq
    have dq : ((q : Int) == -1) = false := by simp
    have g1 : (w.alloc (.cells #[.int .i64 x, .int .i64 y] 78)).cell? ⟨zb, t, none⟩ = some (.int .i64 q) := by rw [row5_top H5.out hd4, hq]
    replace H5 : Hid (Row (w.alloc (.cells #[.int .i64 x, .int .i64 y] 78)) zb 5 (row5f (upd c t q) (.slice (some ⟨zl, 0, none⟩) kn kn))) := by rw [upd_self hq]; exact H5.out
    clear h0 htop hq HA
    go_upto_region 7 with fail
    clear g1 dq
    generalize w.alloc (.cells #[.int .i64 x, .int .i64 y] 78) = W at *
    have hqk' : (q : Int) < (kn : Int) := by omega
    have PT : ∀ w', Row w' zb 5 (row5f (upd c t q) (.slice (some ⟨zl, 0, none⟩) kn kn)) → w'.cell? ⟨zb, t, none⟩ = some (.int .i64 q) := fun w' hh => by rw [row5_top hh hd4, upd_at]
    have P4 : ∀ w', Row w' zb 5 (row5f (upd c t q) (.slice (some ⟨zl, 0, none⟩) kn kn)) → w'.cell? ⟨zb, 4, none⟩ = some (.slice (some ⟨zl, 0, none⟩) kn kn) := fun w' hh => (get5 hh).2.2.2.2
    replace HF : Hid (Row W.drew w.heap.size 2 (fun i => if i = 0 then .int .i64 x else .int .i64 y)) := HF.out.blw (Blw.refl _).drew
    replace H5 : Hid (Row W.drew zb 5 (row5f (upd c t q) (.slice (some ⟨zl, 0, none⟩) kn kn))) := H5.out.blw (Blw.refl _).drew
    replace HL : Hid (Row W.drew zl (kn * 8) (lc p m)) := HL.out.blw (Blw.refl _).drew
    replace HM : Hid (Mod (fun b => b = zb ∨ b = zl) w W.drew) := HM.out.trans ((Blw.refl _).drew.mod _)
    refine wp_region_noPanic ?_
    refine wp_region_held_drew (S := fun w' => Row w' zb 5 (row5f (upd c t q) (.slice (some ⟨zl, 0, none⟩) kn kn))) (by kernel_rfl) H5.out (fun hB => ?_)
    clear hB
    generalize W.drew = wd at *
    refine wpAnyH_take (i := 0) (oi := { dst := some 33, op := Op.move (Operand.tmp 0), type := 135, pos := _, after := #[], guard := none }) (v := (.pointer (some ⟨zb, 0, none⟩))) rfl (by kernel_rfl) (by kernel_rfl) (by kernel_rfl) (fun _ _ _ h => h) (Or.inl ⟨by rfl, fun w' hS => by (try dsimp only at hS); go_simp⟩) H5.out ?_
    simp only [Act.put, List.setIfInBounds_toArray, List.set_cons_zero, List.set_cons_succ]
    refine wpAnyH_take (i := 4) (oi := { dst := some 37, op := Op.move (Operand.tmp 7), type := 136, pos := _, after := #[], guard := none }) (v := (.pointer (some ⟨zb, t, none⟩))) rfl (by kernel_rfl) (by kernel_rfl) (by kernel_rfl) (fun _ _ _ h => h) (Or.inl ⟨by rfl, fun w' hS => by (try dsimp only at hS); go_simp⟩) H5.out ?_
    simp only [Act.put, List.setIfInBounds_toArray, List.set_cons_zero, List.set_cons_succ]
    refine wpAnyH_take (i := 1) (oi := { dst := some 34, op := Op.nilCheck (Operand.tmp 33), type := 0, pos := _, after := #[{ on := 0, ground := Ground.data }], guard := none }) (v := (.pointer (some ⟨zb, 0, none⟩))) rfl (by kernel_rfl) (by kernel_rfl) (by kernel_rfl) (fun _ _ _ h => h) (Or.inl ⟨by rfl, fun w' hS => by (try dsimp only at hS); go_simp⟩) H5.out ?_
    simp only [Act.put, List.setIfInBounds_toArray, List.set_cons_zero, List.set_cons_succ]
    refine wpAnyH_take (i := 5) (oi := { dst := some 38, op := Op.nilCheck (Operand.tmp 37), type := 0, pos := _, after := #[{ on := 4, ground := Ground.data }], guard := none }) (v := (.pointer (some ⟨zb, t, none⟩))) rfl (by kernel_rfl) (by kernel_rfl) (by kernel_rfl) (fun _ _ _ h => h) (Or.inl ⟨by rfl, fun w' hS => by (try dsimp only at hS); go_simp⟩) H5.out ?_
    simp only [Act.put, List.setIfInBounds_toArray, List.set_cons_zero, List.set_cons_succ]
    refine wpAnyH_take (i := 2) (oi := { dst := some 35, op := Op.fieldAddr 87 (Operand.tmp 34) 1, type := 0, pos := _, after := #[{ on := 1, ground := Ground.data }], guard := none }) (v := (.pointer (some ⟨zb, 4, none⟩))) rfl (by kernel_rfl) (by kernel_rfl) (by kernel_rfl) (fun _ _ _ h => h) (Or.inl ⟨by rfl, fun w' hS => by (try dsimp only at hS); go_simp⟩) H5.out ?_
    simp only [Act.put, List.setIfInBounds_toArray, List.set_cons_zero, List.set_cons_succ]
    refine wpAnyH_take (i := 6) (oi := { dst := some 39, op := Op.load 3 (Operand.tmp 38), type := 3, pos := _, after := #[{ on := 5, ground := Ground.data }], guard := none }) (v := (.int .i64 q)) rfl (by kernel_rfl) (by kernel_rfl) (by kernel_rfl) (fun _ _ _ h => h) (Or.inl ⟨by rfl, fun w' hS => by (try dsimp only at hS); go_simp⟩) H5.out ?_
    simp only [Act.put, List.setIfInBounds_toArray, List.set_cons_zero, List.set_cons_succ]
    refine wpAnyH_take (i := 3) (oi := { dst := some 36, op := Op.load 85 (Operand.tmp 35), type := 85, pos := _, after := #[{ on := 2, ground := Ground.data }], guard := none }) (v := (.slice (some ⟨zl, 0, none⟩) kn kn)) rfl (by kernel_rfl) (by kernel_rfl) (by kernel_rfl) (fun _ _ _ h => h) (Or.inl ⟨by rfl, fun w' hS => by (try dsimp only at hS); go_simp⟩) H5.out ?_
    simp only [Act.put, List.setIfInBounds_toArray, List.set_cons_zero, List.set_cons_succ]
    refine wpAnyH_take (i := 7) (oi := { dst := some 40, op := Op.indexAddr 85 (Operand.tmp 36) (Operand.tmp 39), type := 0, pos := _, after := #[{ on := 3, ground := Ground.data }, { on := 6, ground := Ground.data }], guard := none }) (v := (.pointer (some ⟨zl, q * 8, none⟩))) rfl (by kernel_rfl) (by kernel_rfl) (by kernel_rfl) (fun _ _ _ h => h) (Or.inl ⟨by rfl, fun w' hS => by (try dsimp only at hS); go_simp⟩) H5.out ?_
    simp only [Act.put, List.setIfInBounds_toArray, List.set_cons_zero, List.set_cons_succ]
    refine wpAnyH_take (i := 8) (oi := { dst := some 10, op := Op.assign (Operand.tmp 40), type := 138, pos := _, after := #[{ on := 7, ground := Ground.data }, { on := 0, ground := Ground.phase }, { on := 1, ground := Ground.phase }, { on := 2, ground := Ground.phase }, { on := 3, ground := Ground.phase }, { on := 4, ground := Ground.phase }, { on := 5, ground := Ground.phase }, { on := 6, ground := Ground.phase }, { on := 7, ground := Ground.phase }], guard := none }) (v := (.pointer (some ⟨zl, q * 8, none⟩))) rfl (by kernel_rfl) (by kernel_rfl) (by kernel_rfl) (fun _ _ _ h => h) (Or.inl ⟨by rfl, fun w' hS => by (try dsimp only at hS); go_simp⟩) H5.out ?_
    simp only [Act.put, List.setIfInBounds_toArray, List.set_cons_zero, List.set_cons_succ]
    refine wpAnyH_done (by kernel_rfl) ?_ _
    refine NoPanic.normal ?_
    clear PT P4
    go_upto_region 8 with fail
    replace HF : Hid (Row wd.drew w.heap.size 2 (fun i => if i = 0 then .int .i64 x else .int .i64 y)) := HF.out.blw (Blw.refl _).drew
    replace H5 : Hid (Row wd.drew zb 5 (row5f (upd c t q) (.slice (some ⟨zl, 0, none⟩) kn kn))) := H5.out.blw (Blw.refl _).drew
    replace HL : Hid (Row wd.drew zl (kn * 8) (lc p m)) := HL.out.blw (Blw.refl _).drew
    replace HM : Hid (Mod (fun b => b = zb ∨ b = zl) w wd.drew) := HM.out.trans ((Blw.refl _).drew.mod _)
    have P0 : ∀ w', Row w' w.heap.size 2 (fun i => if i = 0 then .int .i64 x else .int .i64 y) → w'.cell? ⟨w.heap.size, 0, none⟩ = some (.int .i64 x) ∧ w'.cell? ⟨w.heap.size, 1, none⟩ = some (.int .i64 y) := fun w' hh => get2 hh
    have l0 := (lc_at HL.out hqk hr4).1
    have l1 := (lc_at HL.out hqk hr4).2
    have f0 := HL.out.frozen (q * 8 + j * 2)
    have f1 := HL.out.frozen (q * 8 + j * 2 + 1)
    refine wp_region_noPanic ?_
    refine wp_region_held_drew (S := fun w' => Row w' w.heap.size 2 (fun i => if i = 0 then .int .i64 x else .int .i64 y)) (by kernel_rfl) HF.out (fun hB => ?_)
    clear hB
    generalize wd.drew = wd at *
    refine wpAnyH_take (i := 0) (oi := { dst := some 41, op := Op.move (Operand.tmp 10), type := 138, pos := _, after := #[], guard := none }) (v := (.pointer (some ⟨zl, q * 8, none⟩))) rfl (by kernel_rfl) (by kernel_rfl) (by kernel_rfl) (fun _ _ _ h => h) (Or.inl ⟨by rfl, fun w' hS => by (try dsimp only at hS); go_simp⟩) HF.out ?_
    simp only [Act.put, List.setIfInBounds_toArray, List.set_cons_zero, List.set_cons_succ]
    refine wpAnyH_take (i := 1) (oi := { dst := some 42, op := Op.move (Operand.tmp 1), type := 3, pos := _, after := #[], guard := none }) (v := (.int .i64 a)) rfl (by kernel_rfl) (by kernel_rfl) (by kernel_rfl) (fun _ _ _ h => h) (Or.inl ⟨by rfl, fun w' hS => by (try dsimp only at hS); go_simp⟩) HF.out ?_
    simp only [Act.put, List.setIfInBounds_toArray, List.set_cons_zero, List.set_cons_succ]
    refine wpAnyH_take (i := 3) (oi := { dst := some 44, op := Op.load 78 (Operand.tmp 5), type := 78, pos := _, after := #[], guard := none }) (v := (.agg #[.int .i64 x, .int .i64 y])) rfl (by kernel_rfl) (by kernel_rfl) (by kernel_rfl) (fun _ _ _ h => h) (Or.inl ⟨by rfl, fun w' hS => by (try dsimp only at hS); go_simp⟩) HF.out ?_
    simp only [Act.put, List.setIfInBounds_toArray, List.set_cons_zero, List.set_cons_succ]
    refine wpAnyH_take (i := 2) (oi := { dst := some 43, op := Op.binOp BinOp.rem 3 (Operand.tmp 42) (Operand.const (Value.int IntKind.i64 4)) 3, type := 3, pos := _, after := #[{ on := 1, ground := Ground.data }], guard := none }) (v := (.int .i64 j)) rfl (by kernel_rfl) (by kernel_rfl) (by kernel_rfl) (fun _ _ _ h => h) (Or.inl ⟨by rfl, fun w' hS => by (try dsimp only at hS); go_simp⟩) HF.out ?_
    simp only [Act.put, List.setIfInBounds_toArray, List.set_cons_zero, List.set_cons_succ]
    refine wpAnyH_take (i := 4) (oi := { dst := some 45, op := Op.nilCheck (Operand.tmp 41), type := 0, pos := _, after := #[{ on := 0, ground := Ground.data }], guard := none }) (v := (.pointer (some ⟨zl, q * 8, none⟩))) rfl (by kernel_rfl) (by kernel_rfl) (by kernel_rfl) (fun _ _ _ h => h) (Or.inl ⟨by rfl, fun w' hS => by (try dsimp only at hS); go_simp⟩) HF.out ?_
    simp only [Act.put, List.setIfInBounds_toArray, List.set_cons_zero, List.set_cons_succ]
    refine wpAnyH_take (i := 5) (oi := { dst := some 46, op := Op.indexAddr 119 (Operand.tmp 45) (Operand.tmp 43), type := 0, pos := _, after := #[{ on := 4, ground := Ground.data }, { on := 2, ground := Ground.data }, { on := 0, ground := Ground.phase }, { on := 1, ground := Ground.phase }, { on := 2, ground := Ground.phase }, { on := 3, ground := Ground.phase }], guard := none }) (v := (.pointer (some ⟨zl, q * 8 + j * 2, none⟩))) rfl (by kernel_rfl) (by kernel_rfl) (by kernel_rfl) (fun _ _ _ h => h) (Or.inl ⟨by rfl, fun w' hS => by (try dsimp only at hS); go_simp⟩) HF.out ?_
    simp only [Act.put, List.setIfInBounds_toArray, List.set_cons_zero, List.set_cons_succ]
    refine wpAnyH_ready (rs := [6]) (by kernel_rfl) (by simp) ?_
    refine AllReadyH.cons (o := { dst := none, op := Op.store 78 (Operand.tmp 46) (Operand.tmp 44), type := 0, pos := _, after := #[{ on := 5, ground := Ground.data }, { on := 3, ground := Ground.data }, { on := 0, ground := Ground.phase }, { on := 1, ground := Ground.phase }, { on := 2, ground := Ground.phase }, { on := 3, ground := Ground.phase }], guard := none }) rfl (fun K hK => ?_) AllReadyH.nil
    go_simp
    refine hK.out _ _ ((HF.out.setOther (a := ⟨zl, q * 8 + j * 2, none⟩) (by show w.heap.size ≠ zl; omega) (.int .i64 x)).setOther (a := ⟨zl, q * 8 + j * 2 + 1, none⟩) (by show w.heap.size ≠ zl; omega) (.int .i64 y)) (fun hB => ?_)
    clear hK K hB
    try simp only [Act.put, List.setIfInBounds_toArray, List.set_cons_zero, List.set_cons_succ]
    refine wpAnyH_done (by kernel_rfl) ?_ _
    refine NoPanic.normal ?_
    have hm2 : Mod (fun b => b = zb ∨ b = zl) wd ((wd.setCell ⟨zl, q * 8 + j * 2, none⟩ (.int .i64 x)).setCell ⟨zl, q * 8 + j * 2 + 1, none⟩ (.int .i64 y)) := (Mod.setCell (X := fun b => b = zb ∨ b = zl) _ (p := ⟨zl, q * 8 + j * 2, none⟩) (Or.inr rfl) _).trans (Mod.setCell (X := fun b => b = zb ∨ b = zl) _ (p := ⟨zl, q * 8 + j * 2 + 1, none⟩) (Or.inr rfl) _)
    have HL2 : Hid (Row ((wd.setCell ⟨zl, q * 8 + j * 2, none⟩ (.int .i64 x)).setCell ⟨zl, q * 8 + j * 2 + 1, none⟩ (.int .i64 y)) zl (kn * 8) (lc (upd2 p q j x) (upd2 m q j y))) := lc_put HL.out hr4 x y
    have H52 : Hid (Row ((wd.setCell ⟨zl, q * 8 + j * 2, none⟩ (.int .i64 x)).setCell ⟨zl, q * 8 + j * 2 + 1, none⟩ (.int .i64 y)) zb 5 (row5f (upd c t q) (.slice (some ⟨zl, 0, none⟩) kn kn))) := (H5.out.setOther (a := ⟨zl, q * 8 + j * 2, none⟩) hz _).setOther (a := ⟨zl, q * 8 + j * 2 + 1, none⟩) hz _
    have HM2 : Hid (Mod (fun b => b = zb ∨ b = zl) w ((wd.setCell ⟨zl, q * 8 + j * 2, none⟩ (.int .i64 x)).setCell ⟨zl, q * 8 + j * 2 + 1, none⟩ (.int .i64 y))) := HM.out.trans hm2
    clear hm2 HL H5 HM HF P0 l0 l1 f0 f1
    generalize ((wd.setCell ⟨zl, q * 8 + j * 2, none⟩ (.int .i64 x)).setCell ⟨zl, q * 8 + j * 2 + 1, none⟩ (.int .i64 y)) = W2 at *
    obtain ⟨p2, hp2⟩ : ∃ p2, p2 = upd2 p q j x := ⟨_, rfl⟩
    obtain ⟨m2, hm2⟩ : ∃ m2, m2 = upd2 m q j y := ⟨_, rfl⟩
    rw [← hp2, ← hm2] at HL2
    have HP : Hid (p2 = upd2 p q j x) := hp2
    have HQ : Hid (m2 = upd2 m q j y) := hm2
    clear hp2 hm2
    obtain ⟨q0, q1, q2, q3, q4, q5, q6, q7⟩ := lc8 HL2.out hqk
    have g1 : W2.cell? ⟨zb, t, none⟩ = some (.int .i64 q) := by rw [row5_top H52.out hd4, upd_at]
    have f1 := H52.out.frozen t
    by_cases hzz : isZero8 (p2 q) (m2 q)
    · have hne := eql8_same (p2 q) (m2 q) hzz
      have HZZ : Hid (isZero8 (p2 q) (m2 q)) := hzz
      have H53 : Hid (Row (W2.setCell ⟨zb, t, none⟩ (.int .i64 (-1))) zb 5 (row5f (upd c t (-1)) (.slice (some ⟨zl, 0, none⟩) kn kn))) := by have := row5_set H52.out hd4 (-1); rw [upd_upd] at this; exact this
      have HL3 : Hid (Row (W2.setCell ⟨zb, t, none⟩ (.int .i64 (-1))) zl (kn * 8) (lc p2 m2)) := HL2.out.setOther (a := ⟨zb, t, none⟩) (fun e => hz e.symm) _
      have HM3 : Hid (Mod (fun b => b = zb ∨ b = zl) w (W2.setCell ⟨zb, t, none⟩ (.int .i64 (-1)))) := HM2.out.trans (Mod.setCell (X := fun b => b = zb ∨ b = zl) _ (p := ⟨zb, t, none⟩) (Or.inl rfl) _)
      clear hzz HL2 H52 HM2
      go_wp2
      exact bodyPost_ret (v := .bool true) (by simp [results, Try.results94, go_sem]) rfl (Or.inl ⟨q, HGO.out, rfl, by rw [← HP.out, ← HQ.out, topsOf_yes HZZ.out]; exact H53.out, by rw [← HP.out, ← HQ.out]; exact HL3.out, HM3.out⟩)
    · have hne := eql8_other (p2 q) (m2 q) hzz
      have HZZ : Hid (¬ isZero8 (p2 q) (m2 q)) := hzz
      clear hzz
      go_wp2
      exact bodyPost_ret (v := .bool true) (by simp [results, Try.results94, go_sem]) rfl (Or.inl ⟨q, HGO.out, rfl, by rw [← HP.out, ← HQ.out, topsOf_no HZZ.out]; exact H52.out, by rw [← HP.out, ← HQ.out]; exact HL2.out, HM2.out⟩)
  · have hc : c t = -1 := by omega
    have g1 : (w.alloc (.cells #[.int .i64 x, .int .i64 y] 78)).cell? ⟨zb, t, none⟩ = some (.int .i64 (-1)) := by rw [row5_top H5.out hd4, hc]
    have HC : Hid (c t = -1) := hc
    obtain ⟨p0, p1, p2, p3, p4⟩ := get5 H5.out
    clear h0 htop hc
    go_wp2_with fail
    clear g1 p0 p1 p2 p3 p4
    refine (idle_any c zl kn _ hk).mono ?_
    rintro e w1 ⟨⟨q, ⟨hid, rfl⟩ | ⟨hno, rfl⟩⟩, hb1⟩
    · have hqk : q < kn := hid.1
      have HGO : Hid (goes c kn t q) := Or.inr ⟨HC.out, hid⟩
      replace HF : Hid (Row w1 w.heap.size 2 (fun i => if i = 0 then .int .i64 x else .int .i64 y)) := HF.out.blw hb1
      replace H5 : Hid (Row w1 zb 5 (row5f c (.slice (some ⟨zl, 0, none⟩) kn kn))) := H5.out.blw hb1
      replace HL : Hid (Row w1 zl (kn * 8) (lc p m)) := HL.out.blw hb1
      replace HM : Hid (Mod (fun b => b = zb ∨ b = zl) w w1) := HM.out.trans (hb1.mod _)
      have g1 := row5_top H5.out hd4
      have f1 := H5.out.frozen t
      replace H5 : Hid (Row (w1.setCell ⟨zb, t, none⟩ (.int .i64 q)) zb 5 (row5f (upd c t q) (.slice (some ⟨zl, 0, none⟩) kn kn))) := row5_set H5.out hd4 q
      replace HL : Hid (Row (w1.setCell ⟨zb, t, none⟩ (.int .i64 q)) zl (kn * 8) (lc p m)) := HL.out.setOther (a := ⟨zb, t, none⟩) (fun e => hz e.symm) _
      replace HF : Hid (Row (w1.setCell ⟨zb, t, none⟩ (.int .i64 q)) w.heap.size 2 (fun i => if i = 0 then .int .i64 x else .int .i64 y)) := HF.out.setOther (a := ⟨zb, t, none⟩) (by show w.heap.size ≠ zb; omega) _
      replace HM : Hid (Mod (fun b => b = zb ∨ b = zl) w (w1.setCell ⟨zb, t, none⟩ (.int .i64 q))) := HM.out.trans (Mod.setCell (X := fun b => b = zb ∨ b = zl) _ (p := ⟨zb, t, none⟩) (Or.inl rfl) _)
      clear hid hb1 HC HA
      go_upto_region 7 with fail
      clear g1 f1
      generalize w1.setCell ⟨zb, t, none⟩ (.int .i64 q) = W at *
      have hqk' : (q : Int) < (kn : Int) := by omega
      have PT : ∀ w', Row w' zb 5 (row5f (upd c t q) (.slice (some ⟨zl, 0, none⟩) kn kn)) → w'.cell? ⟨zb, t, none⟩ = some (.int .i64 q) := fun w' hh => by rw [row5_top hh hd4, upd_at]
      have P4 : ∀ w', Row w' zb 5 (row5f (upd c t q) (.slice (some ⟨zl, 0, none⟩) kn kn)) → w'.cell? ⟨zb, 4, none⟩ = some (.slice (some ⟨zl, 0, none⟩) kn kn) := fun w' hh => (get5 hh).2.2.2.2
      replace HF : Hid (Row W.drew w.heap.size 2 (fun i => if i = 0 then .int .i64 x else .int .i64 y)) := HF.out.blw (Blw.refl _).drew
      replace H5 : Hid (Row W.drew zb 5 (row5f (upd c t q) (.slice (some ⟨zl, 0, none⟩) kn kn))) := H5.out.blw (Blw.refl _).drew
      replace HL : Hid (Row W.drew zl (kn * 8) (lc p m)) := HL.out.blw (Blw.refl _).drew
      replace HM : Hid (Mod (fun b => b = zb ∨ b = zl) w W.drew) := HM.out.trans ((Blw.refl _).drew.mod _)
      refine wp_region_noPanic ?_
      refine wp_region_held_drew (S := fun w' => Row w' zb 5 (row5f (upd c t q) (.slice (some ⟨zl, 0, none⟩) kn kn))) (by kernel_rfl) H5.out (fun hB => ?_)
      clear hB
      generalize W.drew = wd at *
      refine wpAnyH_take (i := 0) (oi := { dst := some 33, op := Op.move (Operand.tmp 0), type := 135, pos := _, after := #[], guard := none }) (v := (.pointer (some ⟨zb, 0, none⟩))) rfl (by kernel_rfl) (by kernel_rfl) (by kernel_rfl) (fun _ _ _ h => h) (Or.inl ⟨by rfl, fun w' hS => by (try dsimp only at hS); go_simp⟩) H5.out ?_
      simp only [Act.put, List.setIfInBounds_toArray, List.set_cons_zero, List.set_cons_succ]
      refine wpAnyH_take (i := 4) (oi := { dst := some 37, op := Op.move (Operand.tmp 7), type := 136, pos := _, after := #[], guard := none }) (v := (.pointer (some ⟨zb, t, none⟩))) rfl (by kernel_rfl) (by kernel_rfl) (by kernel_rfl) (fun _ _ _ h => h) (Or.inl ⟨by rfl, fun w' hS => by (try dsimp only at hS); go_simp⟩) H5.out ?_
      simp only [Act.put, List.setIfInBounds_toArray, List.set_cons_zero, List.set_cons_succ]
      refine wpAnyH_take (i := 1) (oi := { dst := some 34, op := Op.nilCheck (Operand.tmp 33), type := 0, pos := _, after := #[{ on := 0, ground := Ground.data }], guard := none }) (v := (.pointer (some ⟨zb, 0, none⟩))) rfl (by kernel_rfl) (by kernel_rfl) (by kernel_rfl) (fun _ _ _ h => h) (Or.inl ⟨by rfl, fun w' hS => by (try dsimp only at hS); go_simp⟩) H5.out ?_
      simp only [Act.put, List.setIfInBounds_toArray, List.set_cons_zero, List.set_cons_succ]
      refine wpAnyH_take (i := 5) (oi := { dst := some 38, op := Op.nilCheck (Operand.tmp 37), type := 0, pos := _, after := #[{ on := 4, ground := Ground.data }], guard := none }) (v := (.pointer (some ⟨zb, t, none⟩))) rfl (by kernel_rfl) (by kernel_rfl) (by kernel_rfl) (fun _ _ _ h => h) (Or.inl ⟨by rfl, fun w' hS => by (try dsimp only at hS); go_simp⟩) H5.out ?_
      simp only [Act.put, List.setIfInBounds_toArray, List.set_cons_zero, List.set_cons_succ]
      refine wpAnyH_take (i := 2) (oi := { dst := some 35, op := Op.fieldAddr 87 (Operand.tmp 34) 1, type := 0, pos := _, after := #[{ on := 1, ground := Ground.data }], guard := none }) (v := (.pointer (some ⟨zb, 4, none⟩))) rfl (by kernel_rfl) (by kernel_rfl) (by kernel_rfl) (fun _ _ _ h => h) (Or.inl ⟨by rfl, fun w' hS => by (try dsimp only at hS); go_simp⟩) H5.out ?_
      simp only [Act.put, List.setIfInBounds_toArray, List.set_cons_zero, List.set_cons_succ]
      refine wpAnyH_take (i := 6) (oi := { dst := some 39, op := Op.load 3 (Operand.tmp 38), type := 3, pos := _, after := #[{ on := 5, ground := Ground.data }], guard := none }) (v := (.int .i64 q)) rfl (by kernel_rfl) (by kernel_rfl) (by kernel_rfl) (fun _ _ _ h => h) (Or.inl ⟨by rfl, fun w' hS => by (try dsimp only at hS); go_simp⟩) H5.out ?_
      simp only [Act.put, List.setIfInBounds_toArray, List.set_cons_zero, List.set_cons_succ]
      refine wpAnyH_take (i := 3) (oi := { dst := some 36, op := Op.load 85 (Operand.tmp 35), type := 85, pos := _, after := #[{ on := 2, ground := Ground.data }], guard := none }) (v := (.slice (some ⟨zl, 0, none⟩) kn kn)) rfl (by kernel_rfl) (by kernel_rfl) (by kernel_rfl) (fun _ _ _ h => h) (Or.inl ⟨by rfl, fun w' hS => by (try dsimp only at hS); go_simp⟩) H5.out ?_
      simp only [Act.put, List.setIfInBounds_toArray, List.set_cons_zero, List.set_cons_succ]
      refine wpAnyH_take (i := 7) (oi := { dst := some 40, op := Op.indexAddr 85 (Operand.tmp 36) (Operand.tmp 39), type := 0, pos := _, after := #[{ on := 3, ground := Ground.data }, { on := 6, ground := Ground.data }], guard := none }) (v := (.pointer (some ⟨zl, q * 8, none⟩))) rfl (by kernel_rfl) (by kernel_rfl) (by kernel_rfl) (fun _ _ _ h => h) (Or.inl ⟨by rfl, fun w' hS => by (try dsimp only at hS); go_simp⟩) H5.out ?_
      simp only [Act.put, List.setIfInBounds_toArray, List.set_cons_zero, List.set_cons_succ]
      refine wpAnyH_take (i := 8) (oi := { dst := some 10, op := Op.assign (Operand.tmp 40), type := 138, pos := _, after := #[{ on := 7, ground := Ground.data }, { on := 0, ground := Ground.phase }, { on := 1, ground := Ground.phase }, { on := 2, ground := Ground.phase }, { on := 3, ground := Ground.phase }, { on := 4, ground := Ground.phase }, { on := 5, ground := Ground.phase }, { on := 6, ground := Ground.phase }, { on := 7, ground := Ground.phase }], guard := none }) (v := (.pointer (some ⟨zl, q * 8, none⟩))) rfl (by kernel_rfl) (by kernel_rfl) (by kernel_rfl) (fun _ _ _ h => h) (Or.inl ⟨by rfl, fun w' hS => by (try dsimp only at hS); go_simp⟩) H5.out ?_
      simp only [Act.put, List.setIfInBounds_toArray, List.set_cons_zero, List.set_cons_succ]
      refine wpAnyH_done (by kernel_rfl) ?_ _
      refine NoPanic.normal ?_
      clear PT P4
      go_upto_region 8 with fail
      replace HF : Hid (Row wd.drew w.heap.size 2 (fun i => if i = 0 then .int .i64 x else .int .i64 y)) := HF.out.blw (Blw.refl _).drew
      replace H5 : Hid (Row wd.drew zb 5 (row5f (upd c t q) (.slice (some ⟨zl, 0, none⟩) kn kn))) := H5.out.blw (Blw.refl _).drew
      replace HL : Hid (Row wd.drew zl (kn * 8) (lc p m)) := HL.out.blw (Blw.refl _).drew
      replace HM : Hid (Mod (fun b => b = zb ∨ b = zl) w wd.drew) := HM.out.trans ((Blw.refl _).drew.mod _)
      have P0 : ∀ w', Row w' w.heap.size 2 (fun i => if i = 0 then .int .i64 x else .int .i64 y) → w'.cell? ⟨w.heap.size, 0, none⟩ = some (.int .i64 x) ∧ w'.cell? ⟨w.heap.size, 1, none⟩ = some (.int .i64 y) := fun w' hh => get2 hh
      have l0 := (lc_at HL.out hqk hr4).1
      have l1 := (lc_at HL.out hqk hr4).2
      have f0 := HL.out.frozen (q * 8 + j * 2)
      have f1 := HL.out.frozen (q * 8 + j * 2 + 1)
      refine wp_region_noPanic ?_
      refine wp_region_held_drew (S := fun w' => Row w' w.heap.size 2 (fun i => if i = 0 then .int .i64 x else .int .i64 y)) (by kernel_rfl) HF.out (fun hB => ?_)
      clear hB
      generalize wd.drew = wd at *
      refine wpAnyH_take (i := 0) (oi := { dst := some 41, op := Op.move (Operand.tmp 10), type := 138, pos := _, after := #[], guard := none }) (v := (.pointer (some ⟨zl, q * 8, none⟩))) rfl (by kernel_rfl) (by kernel_rfl) (by kernel_rfl) (fun _ _ _ h => h) (Or.inl ⟨by rfl, fun w' hS => by (try dsimp only at hS); go_simp⟩) HF.out ?_
      simp only [Act.put, List.setIfInBounds_toArray, List.set_cons_zero, List.set_cons_succ]
      refine wpAnyH_take (i := 1) (oi := { dst := some 42, op := Op.move (Operand.tmp 1), type := 3, pos := _, after := #[], guard := none }) (v := (.int .i64 a)) rfl (by kernel_rfl) (by kernel_rfl) (by kernel_rfl) (fun _ _ _ h => h) (Or.inl ⟨by rfl, fun w' hS => by (try dsimp only at hS); go_simp⟩) HF.out ?_
      simp only [Act.put, List.setIfInBounds_toArray, List.set_cons_zero, List.set_cons_succ]
      refine wpAnyH_take (i := 3) (oi := { dst := some 44, op := Op.load 78 (Operand.tmp 5), type := 78, pos := _, after := #[], guard := none }) (v := (.agg #[.int .i64 x, .int .i64 y])) rfl (by kernel_rfl) (by kernel_rfl) (by kernel_rfl) (fun _ _ _ h => h) (Or.inl ⟨by rfl, fun w' hS => by (try dsimp only at hS); go_simp⟩) HF.out ?_
      simp only [Act.put, List.setIfInBounds_toArray, List.set_cons_zero, List.set_cons_succ]
      refine wpAnyH_take (i := 2) (oi := { dst := some 43, op := Op.binOp BinOp.rem 3 (Operand.tmp 42) (Operand.const (Value.int IntKind.i64 4)) 3, type := 3, pos := _, after := #[{ on := 1, ground := Ground.data }], guard := none }) (v := (.int .i64 j)) rfl (by kernel_rfl) (by kernel_rfl) (by kernel_rfl) (fun _ _ _ h => h) (Or.inl ⟨by rfl, fun w' hS => by (try dsimp only at hS); go_simp⟩) HF.out ?_
      simp only [Act.put, List.setIfInBounds_toArray, List.set_cons_zero, List.set_cons_succ]
      refine wpAnyH_take (i := 4) (oi := { dst := some 45, op := Op.nilCheck (Operand.tmp 41), type := 0, pos := _, after := #[{ on := 0, ground := Ground.data }], guard := none }) (v := (.pointer (some ⟨zl, q * 8, none⟩))) rfl (by kernel_rfl) (by kernel_rfl) (by kernel_rfl) (fun _ _ _ h => h) (Or.inl ⟨by rfl, fun w' hS => by (try dsimp only at hS); go_simp⟩) HF.out ?_
      simp only [Act.put, List.setIfInBounds_toArray, List.set_cons_zero, List.set_cons_succ]
      refine wpAnyH_take (i := 5) (oi := { dst := some 46, op := Op.indexAddr 119 (Operand.tmp 45) (Operand.tmp 43), type := 0, pos := _, after := #[{ on := 4, ground := Ground.data }, { on := 2, ground := Ground.data }, { on := 0, ground := Ground.phase }, { on := 1, ground := Ground.phase }, { on := 2, ground := Ground.phase }, { on := 3, ground := Ground.phase }], guard := none }) (v := (.pointer (some ⟨zl, q * 8 + j * 2, none⟩))) rfl (by kernel_rfl) (by kernel_rfl) (by kernel_rfl) (fun _ _ _ h => h) (Or.inl ⟨by rfl, fun w' hS => by (try dsimp only at hS); go_simp⟩) HF.out ?_
      simp only [Act.put, List.setIfInBounds_toArray, List.set_cons_zero, List.set_cons_succ]
      refine wpAnyH_ready (rs := [6]) (by kernel_rfl) (by simp) ?_
      refine AllReadyH.cons (o := { dst := none, op := Op.store 78 (Operand.tmp 46) (Operand.tmp 44), type := 0, pos := _, after := #[{ on := 5, ground := Ground.data }, { on := 3, ground := Ground.data }, { on := 0, ground := Ground.phase }, { on := 1, ground := Ground.phase }, { on := 2, ground := Ground.phase }, { on := 3, ground := Ground.phase }], guard := none }) rfl (fun K hK => ?_) AllReadyH.nil
      go_simp
      refine hK.out _ _ ((HF.out.setOther (a := ⟨zl, q * 8 + j * 2, none⟩) (by show w.heap.size ≠ zl; omega) (.int .i64 x)).setOther (a := ⟨zl, q * 8 + j * 2 + 1, none⟩) (by show w.heap.size ≠ zl; omega) (.int .i64 y)) (fun hB => ?_)
      clear hK K hB
      try simp only [Act.put, List.setIfInBounds_toArray, List.set_cons_zero, List.set_cons_succ]
      refine wpAnyH_done (by kernel_rfl) ?_ _
      refine NoPanic.normal ?_
      have hm2 : Mod (fun b => b = zb ∨ b = zl) wd ((wd.setCell ⟨zl, q * 8 + j * 2, none⟩ (.int .i64 x)).setCell ⟨zl, q * 8 + j * 2 + 1, none⟩ (.int .i64 y)) := (Mod.setCell (X := fun b => b = zb ∨ b = zl) _ (p := ⟨zl, q * 8 + j * 2, none⟩) (Or.inr rfl) _).trans (Mod.setCell (X := fun b => b = zb ∨ b = zl) _ (p := ⟨zl, q * 8 + j * 2 + 1, none⟩) (Or.inr rfl) _)
      have HL2 : Hid (Row ((wd.setCell ⟨zl, q * 8 + j * 2, none⟩ (.int .i64 x)).setCell ⟨zl, q * 8 + j * 2 + 1, none⟩ (.int .i64 y)) zl (kn * 8) (lc (upd2 p q j x) (upd2 m q j y))) := lc_put HL.out hr4 x y
      have H52 : Hid (Row ((wd.setCell ⟨zl, q * 8 + j * 2, none⟩ (.int .i64 x)).setCell ⟨zl, q * 8 + j * 2 + 1, none⟩ (.int .i64 y)) zb 5 (row5f (upd c t q) (.slice (some ⟨zl, 0, none⟩) kn kn))) := (H5.out.setOther (a := ⟨zl, q * 8 + j * 2, none⟩) hz _).setOther (a := ⟨zl, q * 8 + j * 2 + 1, none⟩) hz _
      have HM2 : Hid (Mod (fun b => b = zb ∨ b = zl) w ((wd.setCell ⟨zl, q * 8 + j * 2, none⟩ (.int .i64 x)).setCell ⟨zl, q * 8 + j * 2 + 1, none⟩ (.int .i64 y))) := HM.out.trans hm2
      clear hm2 HL H5 HM HF P0 l0 l1 f0 f1
      generalize ((wd.setCell ⟨zl, q * 8 + j * 2, none⟩ (.int .i64 x)).setCell ⟨zl, q * 8 + j * 2 + 1, none⟩ (.int .i64 y)) = W2 at *
      obtain ⟨p2, hp2⟩ : ∃ p2, p2 = upd2 p q j x := ⟨_, rfl⟩
      obtain ⟨m2, hm2⟩ : ∃ m2, m2 = upd2 m q j y := ⟨_, rfl⟩
      rw [← hp2, ← hm2] at HL2
      have HP : Hid (p2 = upd2 p q j x) := hp2
      have HQ : Hid (m2 = upd2 m q j y) := hm2
      clear hp2 hm2
      obtain ⟨q0, q1, q2, q3, q4, q5, q6, q7⟩ := lc8 HL2.out hqk
      have g1 : W2.cell? ⟨zb, t, none⟩ = some (.int .i64 q) := by rw [row5_top H52.out hd4, upd_at]
      have f1 := H52.out.frozen t
      by_cases hzz : isZero8 (p2 q) (m2 q)
      · have hne := eql8_same (p2 q) (m2 q) hzz
        have HZZ : Hid (isZero8 (p2 q) (m2 q)) := hzz
        have H53 : Hid (Row (W2.setCell ⟨zb, t, none⟩ (.int .i64 (-1))) zb 5 (row5f (upd c t (-1)) (.slice (some ⟨zl, 0, none⟩) kn kn))) := by have := row5_set H52.out hd4 (-1); rw [upd_upd] at this; exact this
        have HL3 : Hid (Row (W2.setCell ⟨zb, t, none⟩ (.int .i64 (-1))) zl (kn * 8) (lc p2 m2)) := HL2.out.setOther (a := ⟨zb, t, none⟩) (fun e => hz e.symm) _
        have HM3 : Hid (Mod (fun b => b = zb ∨ b = zl) w (W2.setCell ⟨zb, t, none⟩ (.int .i64 (-1)))) := HM2.out.trans (Mod.setCell (X := fun b => b = zb ∨ b = zl) _ (p := ⟨zb, t, none⟩) (Or.inl rfl) _)
        clear hzz HL2 H52 HM2
        go_wp2
        exact bodyPost_ret (v := .bool true) (by simp [results, Try.results94, go_sem]) rfl (Or.inl ⟨q, HGO.out, rfl, by rw [← HP.out, ← HQ.out, topsOf_yes HZZ.out]; exact H53.out, by rw [← HP.out, ← HQ.out]; exact HL3.out, HM3.out⟩)
      · have hne := eql8_other (p2 q) (m2 q) hzz
        have HZZ : Hid (¬ isZero8 (p2 q) (m2 q)) := hzz
        clear hzz
        go_wp2
        exact bodyPost_ret (v := .bool true) (by simp [results, Try.results94, go_sem]) rfl (Or.inl ⟨q, HGO.out, rfl, by rw [← HP.out, ← HQ.out, topsOf_no HZZ.out]; exact H52.out, by rw [← HP.out, ← HQ.out]; exact HL2.out, HM2.out⟩)
    · have HN : Hid (¬ ∃ q, goes c kn t q) := fun ⟨q, g⟩ => by
        rcases g with g | ⟨-, g⟩
        · have := HC.out; omega
        · exact hno ⟨q, g⟩
      have HBB : Hid (Blw w w1) := HA.out.trans hb1
      clear hno hb1 HC
      go_wp2
      exact bodyPost_ret (v := .bool false) (by simp [results, Try.results94, go_sem]) rfl (Or.inr ⟨HN.out, rfl, HBB.out⟩)
end Go.Proofs.Ytcfdagmcnaepgaa
/- Lists of places that are gathered, and MappedIn. -/
namespace Go.Proofs.Ytcfdagmcnaepgaa
open Go.RowKit
set_option linter.unusedSimpArgs false
set_option linter.unusedVariables false
def lf (L : List Nat) : Nat → Int := fun i => (L.getD i 0 : Nat)
def pk (p : Nat → Bool) (j : Nat) : List Nat := (List.range j).filter p
theorem pk_len (p : Nat → Bool) (j : Nat) : (pk p j).length ≤ j := by
  have := List.length_filter_le p (List.range j)
  simpa [pk] using this
theorem pk_yes {p : Nat → Bool} {j : Nat} (h : p j = true) : pk p (j + 1) = pk p j ++ [j] := by
  unfold pk; rw [List.range_succ, List.filter_append]; simp [h]
theorem pk_no {p : Nat → Bool} {j : Nat} (h : p j = false) : pk p (j + 1) = pk p j := by
  unfold pk; rw [List.range_succ, List.filter_append]; simp [h]
/-- The slice holds the list. -/
def BufL (X : Nat → Prop) (w : World) (v : Value) (L : List Nat) : Prop := BufI X w v L.length (lf L)
theorem BufL.nil (X : Nat → Prop) (w : World) : BufL X w (.slice none 0 0) [] := Buf.nil _ _ _ _ _
theorem BufL.push {X : Nat → Prop} {W : World} {v : Value} {L : List Nat} (h : BufL X W v L) (hn : L.length ≤ 1048576) (x : Nat) :
    ∃ ao' cap w', (Builtin.append_ #[23, 23] 23 #[v, .slice (some ⟨W.heap.size, 0, none⟩) 1 1]).run Try.prog (W.alloc (.cells #[.int .i64 x] 3)) = .ok (.slice ao' (L.length + 1) cap) w' ∧ BufL (fun b => (X b ∨ W.heap.size < b) ∧ b < w'.heap.size) w' (.slice ao' (L.length + 1) cap) (L ++ [x]) ∧ Mod (fun b => v.ownBlock = some b) W w' := by
  obtain ⟨a, cap, w', h1, h2, h3⟩ := pushI h hn (x : Int)
  refine ⟨a, cap, w', h1, ?_, h3⟩
  unfold BufL
  rw [List.length_append, List.length_singleton]
  refine Buf.congr h2 (fun i hi => ?_)
  simp only [ic, snoc', lf]
  by_cases e : i = L.length
  · subst e; simp
  · have : i < L.length := by omega
    rw [if_neg e, List.getD_eq_getElem?_getD, List.getD_eq_getElem?_getD, List.getElem?_append_left this]
/-- What stands while places are gathered into a new list. -/
structure Gath (w wr : World) (v : Value) (L : List Nat) : Prop where
  buf : BufL (fun x => w.heap.size ≤ x ∧ x < wr.heap.size) wr v L
  blw : Blw w wr
theorem Gath.push {w wr : World} {v : Value} {L : List Nat} (h : Gath w wr v L) (hn : L.length ≤ 1048576) (x : Nat) :
    ∃ ao' cap w', (Builtin.append_ #[23, 23] 23 #[v, .slice (some ⟨wr.heap.size, 0, none⟩) 1 1]).run Try.prog (wr.alloc (.cells #[.int .i64 x] 3)) = .ok (.slice ao' (L.length + 1) cap) w' ∧ Gath w w' (.slice ao' (L.length + 1) cap) (L ++ [x]) := by
  obtain ⟨a, cap, w', h1, h2, h3⟩ := h.buf.push hn x
  have hs := h.blw.size
  have hx : ∀ b, v.ownBlock = some b → w.heap.size ≤ b := fun b hb => (h.buf.2 b hb).1
  refine ⟨a, cap, w', h1, ⟨Buf.mono h2 (fun b hb => ⟨?_, hb.2⟩), Mod.blw h.blw h3 (fun b hb => hx b hb)⟩⟩
  rcases hb.1 with h | h
  · exact h.1
  · omega
theorem Gath.go {w wr w' : World} {v : Value} {L : List Nat} (h : Gath w wr v L) (hb : Blw wr w') : Gath w w' v L :=
  ⟨(Buf.blw h.buf hb).mono (fun x hx => ⟨hx.1, Nat.lt_of_lt_of_le hx.2 hb.size⟩), h.blw.trans hb⟩
theorem Gath.own {w wr : World} {v : Value} {L : List Nat} (h : Gath w wr v L) (hn : L.length ≤ 1048576) : ∃ ao cap, v = .slice ao L.length cap ∧ IntsOwn (fun x => w.heap.size ≤ x ∧ x < wr.heap.size) wr ao L.length (lf L) := BufI.own h.buf (by omega)
theorem IntsAt.st {Y : Nat → Prop} {W : World} {ao : Option Addr} {n : Nat} {f : Nat → Int} (h : IntsAt Y W ao n f) (hY : ∀ b, Y b → b < W.heap.size) : St Y (fun W => IntsAt Y W ao n f) W :=
  ⟨hY, fun _ _ hm hx => h.mod hm hx⟩
theorem IntsOwn.st {Y : Nat → Prop} {W : World} {ao : Option Addr} {n : Nat} {f : Nat → Int} (h : IntsOwn Y W ao n f) (hY : ∀ b, Y b → b < W.heap.size) : St Y (fun W => IntsOwn Y W ao n f) W :=
  ⟨hY, fun _ _ hm hx => h.mod hm hx⟩
theorem zero_givesI {out : Nat → (Nat → Int) → Bool → Prop} {w w1 : World} (ho : out 0 (fun _ => 0) false) (hb : Blw w w1) : GivesI out w (.returned (.tuple #[.slice none 0 0, .bool false])) w1 :=
  ⟨none, 0, 0, fun _ => 0, false, rfl, ho, by omega, IntsOwn.nil _ _ _ _, hb⟩
theorem fieldMay (x y : Int) (w : World) : (Instr.field 78 (.agg #[.int .i64 x, .int .i64 y]) 1).run Try.prog w = .ok (.int .i64 y) w := by kernel_rfl
def mpP (c : Nat → Int) (m : Nat → Nat → Int) : Nat → Bool := fun a => decide (0 < lfP c m a)
def miOut (B : BD) (n : Nat) (f : Nat → Int) (r : Bool) : Prop := (B.Good ∧ n = (pk (mpP B.c B.D.m) 16).length ∧ f = lf (pk (mpP B.c B.D.m) 16) ∧ r = true) ∨ (¬ B.Good ∧ n = 0 ∧ r = false)
theorem miOut_same {B : BD} {n n' : Nat} {f f' : Nat → Int} {r r' : Bool} (h : miOut B n f r) (k : miOut B n' f' r') : (n = n' ∧ ∀ i, i < n → f i = f' i) ∧ r = r' := by
  rcases h with ⟨g, rfl, rfl, rfl⟩ | ⟨g, rfl, rfl⟩
  · rcases k with ⟨_, rfl, rfl, rfl⟩ | ⟨g', _, _⟩
    · exact ⟨⟨rfl, fun _ _ => rfl⟩, rfl⟩
    · exact absurd g g'
  · rcases k with ⟨g', _⟩ | ⟨_, rfl, rfl⟩
    · exact absurd g' g
    · exact ⟨⟨rfl, fun i hi => absurd hi (Nat.not_lt_zero _)⟩, rfl⟩
set_option maxRecDepth 10000 in
set_option maxHeartbeats 3200000 in
theorem specMapped_any (b : BV) (B : BD) (Y : Nat → Prop) (w : World) (hn : B.n ≤ 1048576) (h : BookAt Y w b B) :
    Calls Try.prog 27 #[b.val B] w (GivesI (miOut B) w) := by
  have hb0 : Blw w (w.alloc (.cells #[.slice b.a1 B.n b.c1, .slice b.a2 B.D.n b.c2] 26)) := (Blw.refl _).alloc _
  have r0 := box2 w (.slice b.a1 B.n b.c1) (.slice b.a2 B.D.n b.c2) 26
  have HA : Hid (BookAt Y (w.alloc (.cells #[.slice b.a1 B.n b.c1, .slice b.a2 B.D.n b.c2] 26)) b B) := h.blw hb0
  clear h
  go_enter Try.func27, Try.ntmps27
  go_wp2_with fail
  refine (specGood_any b B Y _ hn HA.out).mono ?_
  rintro e w1 ⟨r, rfl, hr, hb1⟩
  have HT : Hid (r = true ↔ B.Good) := hr
  have HB : Hid (Blw w w1) := hb0.trans hb1
  have HR0 : Hid (Row w1 w.heap.size 2 (fun i => if i = 0 then .slice b.a1 B.n b.c1 else .slice b.a2 B.D.n b.c2)) := r0.blw hb1
  replace HA : Hid (BookAt Y w1 b B) := HA.out.blw hb1
  clear hr hb0 hb1 r0
  cases r
  · have HN : Hid (¬ B.Good) := fun g => by have := HT.out.2 g; simp at this
    clear HT
    go_wp2
    exact bodyPost_ret (v := .tuple #[.slice none 0 0, .bool false]) (by simp [results, Try.results27, go_sem]) rfl (zero_givesI (Or.inr ⟨HN.out, rfl, rfl⟩) HB.out)
  have HG : Hid (B.Good) := HT.out.1 (by first | rfl | trivial)
  clear HT
  obtain ⟨n, c, ⟨kn, len, p, m⟩⟩ := B
  obtain ⟨a1, a2, q1, q2⟩ := b
  have hn4 : n = 4 := HG.out.n
  subst hn4
  simp only [BV.val] at *
  go_wp2_with fail
  go_loopw [4, 5] (fun v i wr => ∃ j : Nat, j ≤ 16 ∧ i = .int .i64 j ∧ Gath w1 wr v (pk (mpP c m) j)) (fun _ i _ => 16 - (intOf i).toNat)
  case atStart => exact ⟨0, by omega, rfl, ⟨BufL.nil _ _, Blw.refl _⟩⟩
  case round =>
    obtain ⟨j, hj, rfl, hG⟩ := hrel
    have HGa : Hid (Gath w1 wr u4 (pk (mpP c m) j)) := hG
    clear hG
    go_wp2_with fail
    refine (l6At_any (j : Int) _).mono ?_
    rintro e wr ⟨r, rfl, hr, rfl⟩
    have HR : Hid (r = true ↔ pgOK (j : Int)) := hr
    clear hr
    by_cases hlt : j < 16
    · obtain rfl : r = true := HR.out.2 ⟨by omega, by omega⟩
      obtain ⟨p0, p1⟩ := get2 (HR0.out.blw HGa.out.blw)
      clear HR
      go_wp2_with fail
      clear p0 p1
      refine (l6Find_any ⟨a1, a2, q1, q2⟩ c kn len p m j Y _ HG.out hlt (HA.out.blw HGa.out.blw)).mono ?_
      rintro e w2 ⟨rfl, hb2⟩
      replace HGa : Hid (Gath w1 w2 u4 (pk (mpP c m) j)) := HGa.out.go hb2
      clear hb2
      have hfm := fieldMay (lfP c p j) (lfP c m j)
      by_cases hm : 0 < lfP c m j
      · have hle := pk_len (mpP c m) j
        have d1 : decide (lfP c m j > 0) = true := by simp; omega
        obtain ⟨ao, cap, w3, hrun, hG2⟩ := HGa.out.push (by omega) j
        have HRN : Hid _ := hrun
        have HN : Hid (Gath w1 w3 (.slice ao ((pk (mpP c m) j).length + 1) cap) (pk (mpP c m) (j + 1))) := by rw [pk_yes (by simp [mpP, hm])]; exact hG2
        clear hrun hG2 hm HGa hle
        go_wp2_with (first | (at_builtin; refine wpList_app (.tmp 18) (.tmp 20) 23 (by rfl) ?_; refine ⟨_, _, HRN.out, ?_⟩) | fail)
        go_roundw
        case rel => exact ⟨j + 1, by omega, by go_num, HN.out⟩
        case measure => simp [intOf]; omega
      · have d1 : decide (lfP c m j > 0) = false := by simp; omega
        have HN : Hid (Gath w1 w2 u4 (pk (mpP c m) (j + 1))) := by rw [pk_no (by simp [mpP]; omega)]; exact HGa.out
        clear hm HGa
        go_wp2
        go_roundw
        case rel => exact ⟨j + 1, by omega, by go_num, HN.out⟩
        case measure => simp [intOf]; omega
    · obtain rfl : j = 16 := by omega
      obtain rfl : r = false := by
        cases r
        · rfl
        · have := HR.out.1 rfl; unfold pgOK at this; omega
      have hle := pk_len (mpP c m) 16
      obtain ⟨ao, cap, rfl, own⟩ := HGa.out.own (by omega)
      have FIN : Hid (GivesI (miOut ⟨4, c, ⟨kn, len, p, m⟩⟩) w (.returned (.tuple #[.slice ao (pk (mpP c m) 16).length cap, .bool true])) wr) := ⟨_, _, cap, _, true, rfl, Or.inl ⟨HG.out, rfl, rfl, rfl⟩, by omega, own.mono (fun x hx => ⟨Nat.le_trans HB.out.size hx.1, hx.2⟩), HB.out.trans HGa.out.blw⟩
      clear HR own HGa hle
      go_wp2
      exact bodyPost_ret (v := .tuple #[.slice ao (pk (mpP c m) 16).length cap, .bool true]) (by simp [results, Try.results27, go_sem]) rfl FIN.out
end Go.Proofs.Ytcfdagmcnaepgaa
/- MappedIn: the program's. -/
namespace Go.Proofs.Ytcfdagmcnaepgaa
open Go.RowKit
set_option linter.unusedSimpArgs false
set_option linter.unusedVariables false
theorem box1 (w : World) (v : Value) (t : TypeId) : Row (w.alloc (.cells #[v] t)) w.heap.size 1 (fun _ => v) :=
  ⟨_, t, heap_alloc_new _ _, by simp, fun i hi => by obtain rfl : i = 0 := by omega
                                                     rfl⟩
/-- A list that is gathered in a box at pb, behind w. -/
structure GB (w wr : World) (pb zk : Nat) (F : Nat → Value) (v : Value) (L : List Nat) : Prop where
  box : Row wr pb 1 (fun _ => v)
  buf : BufL (fun x => w.heap.size ≤ x ∧ x < wr.heap.size ∧ x ≠ pb ∧ x ≠ zk) wr v L
  blw : Blw w wr
  lo : w.heap.size ≤ pb
  kp : Row wr zk 5 F
  ne : zk ≠ pb
theorem GB.go {w wr w' : World} {pb zk : Nat} {F : Nat → Value} {v : Value} {L : List Nat} (h : GB w wr pb zk F v L) (hb : Blw wr w') : GB w w' pb zk F v L :=
  ⟨h.box.blw hb, (Buf.blw h.buf hb).mono (fun x hx => ⟨hx.1, Nat.lt_of_lt_of_le hx.2.1 hb.size, hx.2.2⟩), h.blw.trans hb, h.lo, h.kp.blw hb, h.ne⟩
theorem GB.push {w wr : World} {pb zk : Nat} {F : Nat → Value} {v : Value} {L : List Nat} (h : GB w wr pb zk F v L) (hn : L.length ≤ 1048576) (x : Nat) :
    ∃ ao' cap w', (Builtin.append_ #[23, 23] 23 #[v, .slice (some ⟨wr.heap.size, 0, none⟩) 1 1]).run Try.prog (wr.alloc (.cells #[.int .i64 x] 3)) = .ok (.slice ao' (L.length + 1) cap) w' ∧ w'.cell? ⟨pb, 0, none⟩ = some v ∧ w'.frozen? ⟨pb, 0, none⟩ = false ∧ GB w (w'.setCell ⟨pb, 0, none⟩ (.slice ao' (L.length + 1) cap)) pb zk F (.slice ao' (L.length + 1) cap) (L ++ [x]) := by
  obtain ⟨a, cap, w', h1, h2, h3⟩ := h.buf.push hn x
  have hs := h.blw.size
  have hpl := h.box.lt
  have hkl := h.kp.lt
  have hs3 := h3.size
  have hx : ∀ b, v.ownBlock = some b → w.heap.size ≤ b ∧ b ≠ pb ∧ b ≠ zk := fun b hb => ⟨(h.buf.2 b hb).1, (h.buf.2 b hb).2.2⟩
  have rb := h.box.mod h3 (fun e => (hx _ e).2.1 rfl)
  have ms : Mod (fun x => x = pb) w' (w'.setCell ⟨pb, 0, none⟩ (.slice a (L.length + 1) cap)) := Mod.setCell (X := fun x => x = pb) _ (p := ⟨pb, 0, none⟩) rfl _
  have hs4 := ms.size
  refine ⟨a, cap, w', h1, rb.cell (i := 0) (by omega), rb.frozen 0, ⟨(rb.set 0 _).congr (fun i hi => by obtain rfl : i = 0 := by omega
                                                                                                        rfl), (Buf.mod (X := fun x => w.heap.size ≤ x ∧ x < w'.heap.size ∧ x ≠ pb ∧ x ≠ zk) (Buf.mono h2 (fun b hb => ?_)) ms (fun b hb e => hb.2.2.1 e)).mono (fun b hb => ⟨hb.1, by omega, hb.2.2⟩), Mod.blw (Mod.blw h.blw h3 (fun b hb => (hx b hb).1)) ms (fun i hi => by have := h.lo; omega), h.lo, (h.kp.mod h3 (fun e => (hx _ e).2.2 rfl)).mod ms h.ne, h.ne⟩⟩
  rcases hb.1 with q | q
  · exact ⟨q.1, hb.2, q.2.2⟩
  · exact ⟨by omega, hb.2, by omega, by omega⟩
def addM (L : List Nat) (a : Nat) (y : Int) : List Nat := if 0 < y then L ++ [a] else L
theorem addM_yes {L : List Nat} {a : Nat} {y : Int} (h : 0 < y) : addM L a y = L ++ [a] := if_pos h
theorem addM_no {L : List Nat} {a : Nat} {y : Int} (h : ¬ 0 < y) : addM L a y = L := if_neg h
set_option maxRecDepth 10000 in
set_option maxHeartbeats 1600000 in
theorem noteMapped_any (a : Nat) (x y : Int) (pb zk : Nat) (F : Nat → Value) (w wr : World) (v : Value) (L : List Nat) (hy : 0 ≤ y) (hL : L.length ≤ 1048576) (h : GB w wr pb zk F v L) :
    Calls Try.prog 69 #[.int .i64 a, .agg #[.int .i64 x, .int .i64 y], .pointer (some ⟨pb, 0, none⟩)] wr fun e w' => (∃ u, e = .returned u) ∧ ∃ v', GB w w' pb zk F v' (addM L a y) := by
  have hA : Blw wr (wr.alloc (.cells #[.int .i64 x, .int .i64 y] 78)) := (Blw.refl _).alloc _
  obtain ⟨p0, p1⟩ := get2 (box2 wr (.int .i64 x) (.int .i64 y) 78)
  have HG : Hid (GB w (wr.alloc (.cells #[.int .i64 x, .int .i64 y] 78)) pb zk F v L) := h.go hA
  clear h hA
  by_cases h0 : 0 < y
  · have d0 : (y != 0) = true := by simp; omega
    obtain ⟨ao, cap, w2, hrun, hc2, hf2, hG2⟩ := HG.out.push hL a
    have hc1 := HG.out.box.cell (i := 0) (by omega)
    rw [World.size_alloc] at hrun
    have HRN : Hid _ := hrun
    have HN : Hid (∃ v', GB w (w2.setCell ⟨pb, 0, none⟩ (.slice ao (L.length + 1) cap)) pb zk F v' (addM L a y)) := ⟨_, by rw [addM_yes h0]; exact hG2⟩
    clear hrun hG2 h0 HG hy
    go_enter Try.func69, Try.ntmps69
    go_wp2_with (first | (at_builtin; refine wpList_app (.tmp 8) (.tmp 10) 23 (by rfl) ?_; refine ⟨_, _, HRN.out, ?_⟩) | fail)
    refine bodyPost_end (results_none rfl _ _ _) rfl ?_
    exact ⟨⟨_, rfl⟩, HN.out⟩
  · have d0 : (y != 0) = false := by simp; omega
    have HN : Hid (∃ v', GB w (wr.alloc (.cells #[.int .i64 x, .int .i64 y] 78)) pb zk F v' (addM L a y)) := ⟨_, by rw [addM_no h0]; exact HG.out⟩
    clear h0 HG hy
    go_enter Try.func69, Try.ntmps69
    go_wp2
    refine bodyPost_end (results_none rfl _ _ _) rfl ?_
    exact ⟨⟨_, rfl⟩, HN.out⟩
theorem mp_next (c : Nat → Int) (m : Nat → Nat → Int) (j : Nat) : addM (pk (mpP c m) j) j (lfP c m j) = pk (mpP c m) (j + 1) := by
  by_cases h : 0 < lfP c m j
  · rw [addM_yes h, pk_yes (by simp [mpP, h])]
  · rw [addM_no h, pk_no (by simp [mpP]; omega)]
set_option maxRecDepth 10000 in
set_option maxHeartbeats 3200000 in
theorem walkMapped_any (c : Nat → Int) (zl kn : Nat) (p m : Nat → Nat → Int) (pb : Nat) (w wr : World) (hk : kn ≤ 4) (ht : ∀ i, i < 4 → -1 ≤ c i ∧ c i ≤ (kn : Int) - 1) (hm : ∀ a, a < 16 → 0 ≤ lfP c m a) (hrw : Row w zl (kn * 8) (lc p m)) (hb : Blw w wr) (hlo : w.heap.size ≤ pb) (hbx : Row wr pb 1 (fun _ => .slice none 0 0)) :
    Calls Try.prog 68 #[.agg (held5 c zl kn), .func (.func 69) #[] #[.pointer (some ⟨pb, 0, none⟩)]] wr fun e w' => (∃ u, e = .returned u) ∧ ∃ v' zk F, GB w w' pb zk F v' (pk (mpP c m) 16) := by
  have hA : Blw wr (wr.alloc (.cells (held5 c zl kn) 87)) := (Blw.refl _).alloc _
  have hr5 : Row (wr.alloc (.cells (held5 c zl kn) 87)) wr.heap.size 5 (row5f c (.slice (some ⟨zl, 0, none⟩) kn kn)) := row5 wr (.int .i64 (c 0)) (.int .i64 (c 1)) (.int .i64 (c 2)) (.int .i64 (c 3)) (.slice (some ⟨zl, 0, none⟩) kn kn) 87
  have hpb : pb < wr.heap.size := hbx.lt
  have HG0 : Hid (GB w (wr.alloc (.cells (held5 c zl kn) 87)) pb wr.heap.size (row5f c (.slice (some ⟨zl, 0, none⟩) kn kn)) (.slice none 0 0) []) := ⟨hbx.blw hA, BufL.nil _ _, hb.trans hA, hlo, hr5, by omega⟩
  have HT : Hid (∀ i, i < 4 → -1 ≤ c i ∧ c i ≤ (kn : Int) - 1) := ht
  have HMM : Hid (∀ a, a < 16 → 0 ≤ lfP c m a) := hm
  have HRW : Hid (Row w zl (kn * 8) (lc p m)) := hrw
  clear hA ht hm hrw hb hbx hr5
  go_enter Try.func68, Try.ntmps68
  go_wp2_with fail
  generalize wr.heap.size = z5 at *
  generalize wr.alloc (.cells (held5 c zl kn) 87) = w1 at *
  go_loopw [5] (fun i wq => ∃ j : Nat, j ≤ 16 ∧ i = .int .i64 j ∧ ∃ v', GB w wq pb z5 (row5f c (.slice (some ⟨zl, 0, none⟩) kn kn)) v' (pk (mpP c m) j)) (fun i _ => 16 - (intOf i).toNat)
  case atStart => exact ⟨0, by omega, rfl, _, HG0.out⟩
  case round =>
    obtain ⟨j, hj, rfl, v2, hG⟩ := hrel
    have HG : Hid (GB w wr pb z5 (row5f c (.slice (some ⟨zl, 0, none⟩) kn kn)) v2 (pk (mpP c m) j)) := hG
    clear hG HG0
    by_cases hlt : j < 16
    · have hlt' : (j : Int) < 16 := by omega
      obtain ⟨p0, p1, p2, p3, p4⟩ := get5 HG.out.kp
      go_wp2_with fail
      clear p0 p1 p2 p3 p4
      refine (leafAt_any c zl kn p m j _ hk HT.out hlt (HRW.out.blw HG.out.blw)).mono ?_
      rintro e w2 ⟨rfl, hb2⟩
      replace HG : Hid (GB w w2 pb z5 (row5f c (.slice (some ⟨zl, 0, none⟩) kn kn)) v2 (pk (mpP c m) j)) := HG.out.go hb2
      clear hb2
      have hle := pk_len (mpP c m) j
      go_wp2_with fail
      refine (noteMapped_any j (lfP c p j) (lfP c m j) pb z5 _ w _ v2 (pk (mpP c m) j) (HMM.out j hlt) (by omega) HG.out).mono ?_
      rintro e w3 ⟨⟨u, rfl⟩, v3, hG3⟩
      rw [mp_next] at hG3
      have HN : Hid (∃ v', GB w w3 pb z5 (row5f c (.slice (some ⟨zl, 0, none⟩) kn kn)) v' (pk (mpP c m) (j + 1))) := ⟨v3, hG3⟩
      clear HG hG3 hle
      go_wp2
      go_roundw
      case rel => exact ⟨j + 1, by omega, by go_num, HN.out⟩
      case measure => simp [intOf]; omega
    · obtain rfl : j = 16 := by omega
      have HN : Hid (∃ v' zk F, GB w wr pb zk F v' (pk (mpP c m) 16)) := ⟨_, _, _, HG.out⟩
      clear HG hlt
      go_wp2
      refine bodyPost_end (results_none rfl _ _ _) rfl ?_
      exact ⟨⟨_, rfl⟩, HN.out⟩
end Go.Proofs.Ytcfdagmcnaepgaa
