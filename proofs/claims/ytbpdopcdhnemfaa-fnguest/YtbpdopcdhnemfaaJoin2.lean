/- Merged by program, in this order: PutS, DrawC, Rec, LawF, InsL, DrawI, DrawPg, Mf, ImplA, ImplB. -/
import Derived.Test.YtbpdopcdhnemfaaJoin1
/- The model's copies of lists, and 'l1Put': a number put to its place, once. -/
namespace Go.Proofs.Ytbpdopcdhnemfaa
open Go.RowKit
set_option linter.unusedSimpArgs false
set_option linter.unusedVariables false
/-- append([]int{}, l...). -/
theorem copyI {Y : Nat → Prop} {W : World} {ao : Option Addr} {n : Nat} {f : Nat → Int} (h : IntsAt Y W ao n f) (hn : n ≤ 1048576) (c : Nat) :
    ∃ ao' cap w', (Builtin.append_ #[26, 26] 26 #[.slice (some ⟨W.heap.size, 0, none⟩) 0 0, .slice ao n c]).run Try.prog (W.alloc (.cells #[] 3)) = .ok (.slice ao' n cap) w' ∧ BufI (fun b => W.heap.size ≤ b ∧ b < w'.heap.size) w' (.slice ao' n cap) n f ∧ Blw W w' := by
  have hb : Buf 3 1 (fun b => b = W.heap.size) (W.alloc (.cells #[] 3)) (.slice (some ⟨W.heap.size, 0, none⟩) 0 0) 0 (ic (fun _ => 0)) := Buf.lit (X := fun b => b = W.heap.size) (heap_alloc_new W _) 1 rfl _
  obtain ⟨a, cap, w', h1, h2, h3⟩ := BufI.append hb c (h.blw ((Blw.refl _).alloc _)) (by omega) 26
  rw [Nat.zero_add] at h1 h2
  refine ⟨a, cap, w', h1, (Buf.congr h2 (fun i hi => by simp [ic, icat])).mono (fun b hb => ?_), Mod.blw ((Blw.refl _).alloc _) h3 (fun i hi => ?_)⟩
  · simp at hb
    omega
  · simp [Value.ownBlock] at hi
    omega
def rising (n : Nat) (f : Nat → Int) : Prop := ∀ i j, i < j → j < n → f i < f j
def isIn (n : Nat) (f : Nat → Int) (x : Int) : Prop := ∃ i, i < n ∧ f i = x
def ins (k : Nat) (x : Int) (f : Nat → Int) : Nat → Int := fun i => if i < k then f i else if i = k then x else f (i - 1)
theorem ins_rising {n k : Nat} {x : Int} {f : Nat → Int} (hr : rising n f) (hk : k ≤ n) (h1 : ∀ t, t < k → f t < x) (h2 : ∀ t, k ≤ t → t < n → x < f t) : rising (n + 1) (ins k x f) := by
  intro i j hij hj
  unfold ins
  by_cases a : j < k
  · have b : i < k := by omega
    simp only [a, b, if_true]
    exact hr i j hij (by omega)
  · by_cases b : i < k
    · simp only [a, b, if_true, if_false]
      split
      · exact h1 i b
      · exact hr i (j - 1) (by omega) (by omega)
    · simp only [a, b, if_false]
      have c : ¬ j = k := by omega
      simp only [c, if_false]
      split
      · exact h2 (j - 1) (by omega) (by omega)
      · exact hr (i - 1) (j - 1) (by omega) (by omega)
theorem ins_isIn {n k : Nat} {x : Int} {f : Nat → Int} (hk : k ≤ n) (y : Int) : isIn (n + 1) (ins k x f) y ↔ isIn n f y ∨ y = x := by
  constructor
  · rintro ⟨i, hi, e⟩
    unfold ins at e
    split at e
    · exact Or.inl ⟨i, by omega, e⟩
    · split at e
      · exact Or.inr e.symm
      · exact Or.inl ⟨i - 1, by omega, e⟩
  · rintro (⟨i, hi, e⟩ | e)
    · by_cases h : i < k
      · exact ⟨i, by omega, by simp [ins, h, e]⟩
      · have h1 : ¬ i + 1 < k := by omega
        have h2 : ¬ i + 1 = k := by omega
        exact ⟨i + 1, by omega, by simp [ins, h1, h2, e]⟩
    · exact ⟨k, by omega, by simp [ins, e]⟩
/-- The list with x in its place. -/
structure Putted (n : Nat) (f : Nat → Int) (x : Int) (n' : Nat) (f' : Nat → Int) : Prop where
  r : rising n' f'
  m : ∀ y, isIn n' f' y ↔ isIn n f y ∨ y = x
  le : n' ≤ n + 1
/-- The three appends of l1Put. -/
theorem put_facts {Y : Nat → Prop} {w : World} {ao1 ao3 : Option Addr} {n k c1 c3 : Nat} {f : Nat → Int} (x : Int) (hn : n ≤ 1000) (hk : k ≤ n) (hY : ∀ b, Y b → b < w.heap.size) (s1 : IntsAt Y w ao1 k f) (s3 : IntsAt Y w ao3 (n - k) (fun i => f (k + i))) :
    ∃ a1 p1 w1 a2 p2 w2 a3 p3 w3, (Builtin.append_ #[26, 26] 26 #[.slice (some ⟨w.heap.size, 0, none⟩) 0 0, .slice ao1 k c1]).run Try.prog (w.alloc (.cells #[] 3)) = .ok (.slice a1 k p1) w1 ∧
      (Builtin.append_ #[26, 26] 26 #[.slice a1 k p1, .slice (some ⟨w1.heap.size, 0, none⟩) 1 1]).run Try.prog (w1.alloc (.cells #[.int .i64 x] 3)) = .ok (.slice a2 (k + 1) p2) w2 ∧
      (Builtin.append_ #[26, 26] 26 #[.slice a2 (k + 1) p2, .slice ao3 (n - k) c3]).run Try.prog w2 = .ok (.slice a3 (n + 1) p3) w3 ∧
      BufI (fun b => w.heap.size ≤ b ∧ b < w3.heap.size) w3 (.slice a3 (n + 1) p3) (n + 1) (ins k x f) ∧ Blw w w3 := by
  obtain ⟨a1, p1, w1, r1, b1, m1⟩ := copyI s1 (by omega) c1
  obtain ⟨a2, p2, w2, r2, b2, m2⟩ := pushI b1 (by omega) x
  have hx : ∀ b, (Value.slice a1 k p1).ownBlock = some b → w.heap.size ≤ b := fun b hb => (b1.2 b hb).1
  have hw2 : Blw w w2 := Mod.blw m1 m2 (fun i hi => hx i hi)
  obtain ⟨a3, p3, w3, r3, b3, m3⟩ := BufI.append b2 c3 (s3.blw hw2) (by omega) 26
  have e1 : k + 1 + (n - k) = n + 1 := by omega
  rw [e1] at r3 b3
  have hx3 : ∀ b, (Value.slice a2 (k + 1) p2).ownBlock = some b → w.heap.size ≤ b := fun b hb => by
    have := m1.size
    rcases (b2.2 b hb).1 with h | h <;> omega
  have s2 := hw2.size
  refine ⟨a1, p1, w1, a2, p2, w2, a3, p3, w3, r1, r2, r3, (Buf.congr b3 (fun i hi => ?_)).mono (fun b hb => ?_), Mod.blw hw2 m3 (fun i hi => hx3 i hi)⟩
  · rw [Nat.mul_one] at hi
    simp only [ic, icat, ins, snoc']
    by_cases h1 : i < k
    · have h2 : i < k + 1 := by omega
      have h3 : i ≠ k := by omega
      simp [h1, h2, h3]
    · by_cases h2 : i = k
      · simp [h2]
      · have h3 : ¬ i < k + 1 := by omega
        have h4 : k + (i - (k + 1)) = i - 1 := by omega
        simp [h1, h2, h3, h4]
  · have := m1.size
    rcases hb.1 with h | h
    · rcases h.1 with h | h
      · exact ⟨h.1, hb.2⟩
      · exact ⟨by omega, hb.2⟩
    · exact ⟨by omega, hb.2⟩
set_option maxRecDepth 20000 in
set_option maxHeartbeats 3200000 in
theorem l1Put_any (X : Nat → Prop) (v : Value) (n : Nat) (f : Nat → Int) (x : Int) (w : World) (hn : n ≤ 1000) (hX : ∀ b, X b → b < w.heap.size) (hr : rising n f) (h : BufI X w v n f) :
    Calls Try.prog 175 #[v, .int .i64 x] w fun e w' => ∃ v', e = .returned v' ∧ ∃ n' f', Putted n f x n' f' ∧ BufI (fun b => (X b ∨ w.heap.size ≤ b) ∧ b < w'.heap.size) w' v' n' f' ∧ Blw w w' := by
  rcases h.1.2 with ⟨rfl, rfl⟩ | ⟨g, cap, cur, rfl, -, hb, hnc, hcm, -, -⟩
  · have s0 : IntsAt (fun _ => False) w none 0 f := ⟨by omega, fun i hi => absurd hi (Nat.not_lt_zero _)⟩
    obtain ⟨a1, p1, w1, a2, p2, w2, a3, p3, w3, r1, r2, r3, bf, hw⟩ := put_facts (n := 0) (k := 0) (c1 := 0) (c3 := 0) (ao3 := none) (f := f) x (by omega) (by omega) (fun b hb => hb.elim) s0 ⟨by omega, fun i hi => absurd hi (by omega)⟩
    have R1 : Hid _ := r1
    have R2 : Hid _ := r2
    have R3 : Hid _ := r3
    have HF : Hid (BufI (fun b => w.heap.size ≤ b ∧ b < w3.heap.size) w3 (.slice a3 (0 + 1) p3) (0 + 1) (ins 0 x f)) := bf
    clear r1 r2 r3 bf h
    go_enter Try.func175, Try.ntmps175
    go_wp2_with fail
    go_loop [5] (fun i => i = .int .i64 0) (fun i => 0)
    case atStart => rfl
    case round =>
      subst hrel
      go_wp2_with (first | (at_builtin; refine wpList_append_at rfl (.tmp 34) (.tmp 37) 26 rfl ?_; refine ⟨_, _, R1.out, ?_⟩) | (at_builtin; refine wpList_append_at rfl (.tmp 39) (.tmp 41) 26 rfl ?_; refine ⟨_, _, R2.out, ?_⟩) | (at_builtin; refine wpList_append_at rfl (.tmp 43) (.tmp 46) 26 rfl ?_; refine ⟨_, _, R3.out, ?_⟩) | go_in)
      go_ret
      exact ⟨_, rfl, 1, _, ⟨ins_rising hr (Nat.le_refl _) (fun t ht => absurd ht (Nat.not_lt_zero _)) (fun t _ ht => absurd ht (Nat.not_lt_zero _)), ins_isIn (Nat.le_refl _), by omega⟩, HF.out.mono (fun b hb => ⟨Or.inr hb.1, hb.2⟩), hw⟩
  · obtain ⟨_, _, e0, hrow⟩ := h.form
    cases e0
    have hlt0 : g < w.heap.size := (Array.getElem?_eq_some_iff.1 hb).1
    have hrow' : ∀ i, i < n → w.cell? ⟨g, i, none⟩ = some (.int .i64 (f i)) := fun i hi => by
      obtain ⟨g', -, e, r⟩ := hrow (by omega)
      cases e
      exact r.cell (by omega)
    have HB : Hid (BufI X w (.slice (some ⟨g, 0, none⟩) n cap) n f) := h
    have HR : Hid (rising n f) := hr
    have HC : Hid (∀ i, i < n → w.cell? ⟨g, i, none⟩ = some (.int .i64 (f i))) := hrow'
    have hcap : cap ≤ 9223372036854775807 := by unfold maxLen at hcm; omega
    have HP : Hid (∀ k, k ≤ n → ∃ a1 p1 w1 a2 p2 w2 a3 p3 w3, (Builtin.append_ #[26, 26] 26 #[.slice (some ⟨w.heap.size, 0, none⟩) 0 0, .slice (some ⟨g, 0, none⟩) k cap]).run Try.prog (w.alloc (.cells #[] 3)) = .ok (.slice a1 k p1) w1 ∧
      (Builtin.append_ #[26, 26] 26 #[.slice a1 k p1, .slice (some ⟨w1.heap.size, 0, none⟩) 1 1]).run Try.prog (w1.alloc (.cells #[.int .i64 x] 3)) = .ok (.slice a2 (k + 1) p2) w2 ∧
      (Builtin.append_ #[26, 26] 26 #[.slice a2 (k + 1) p2, .slice (some ⟨g, k, none⟩) (n - k) (cap - k)]).run Try.prog w2 = .ok (.slice a3 (n + 1) p3) w3 ∧
      BufI (fun b => w.heap.size ≤ b ∧ b < w3.heap.size) w3 (.slice a3 (n + 1) p3) (n + 1) (ins k x f) ∧ Blw w w3) := fun k hk =>
      put_facts (Y := fun b => b = g) x hn hk (fun b hb => by omega) ⟨by omega, fun i hi => ⟨g, 0, rfl, rfl, by rw [Nat.zero_add]; exact hrow' i (by omega)⟩⟩ ⟨by omega, fun i hi => ⟨g, k, rfl, rfl, hrow' (k + i) (by omega)⟩⟩
    have HPN : Hid (∀ (ao3 : Option Addr) (c3 : Nat), ∃ a1 p1 w1 a2 p2 w2 a3 p3 w3, (Builtin.append_ #[26, 26] 26 #[.slice (some ⟨w.heap.size, 0, none⟩) 0 0, .slice (some ⟨g, 0, none⟩) n cap]).run Try.prog (w.alloc (.cells #[] 3)) = .ok (.slice a1 n p1) w1 ∧
      (Builtin.append_ #[26, 26] 26 #[.slice a1 n p1, .slice (some ⟨w1.heap.size, 0, none⟩) 1 1]).run Try.prog (w1.alloc (.cells #[.int .i64 x] 3)) = .ok (.slice a2 (n + 1) p2) w2 ∧
      (Builtin.append_ #[26, 26] 26 #[.slice a2 (n + 1) p2, .slice ao3 (n - n) c3]).run Try.prog w2 = .ok (.slice a3 (n + 1) p3) w3 ∧
      BufI (fun b => w.heap.size ≤ b ∧ b < w3.heap.size) w3 (.slice a3 (n + 1) p3) (n + 1) (ins n x f) ∧ Blw w w3) :=
      fun ao3 c3 => put_facts (Y := fun b => b = g) x hn (Nat.le_refl _) (fun b hb => by omega) ⟨by omega, fun i hi => ⟨g, 0, rfl, rfl, by rw [Nat.zero_add]; exact hrow' i (by omega)⟩⟩ ⟨by omega, fun i hi => absurd hi (by omega)⟩
    clear h hr hb hcm hrow hrow'
    go_enter Try.func175, Try.ntmps175
    go_wp2_with fail
    go_loop [5] (fun i => ∃ k : Nat, k ≤ n ∧ i = .int .i64 k ∧ ∀ t, t < k → f t < x) (fun i => n - (intOf i).toNat)
    case atStart => exact ⟨0, Nat.zero_le _, rfl, fun t ht => absurd ht (Nat.not_lt_zero _)⟩
    case round =>
      obtain ⟨k, hk, rfl, hlo⟩ := hrel
      have HLO : Hid (∀ t, t < k → f t < x) := hlo
      clear hlo
      by_cases hlt : k < n
      · have hlt' : (k : Int) < n := by omega
        have c0 := HC.out k hlt
        by_cases h1 : f k < x
        · go_wp2
          go_round
          case rel => exact ⟨k + 1, by omega, by go_num, fun t ht => by
            by_cases e : t = k
            · subst e; exact h1
            · exact HLO.out t (by omega)⟩
          case measure => simp [intOf]; omega
        · by_cases h2 : f k = x
          · have h3 : (f k == x) = true := by simp [h2]
            have H2 : Hid (f k = x) := h2
            clear h2
            go_wp2
            go_ret
            exact ⟨_, rfl, n, f, ⟨HR.out, fun y => ⟨Or.inl, fun hy => hy.elim id (fun e => ⟨k, hlt, by rw [H2.out, e]⟩)⟩, by omega⟩, HB.out.mono (fun b hb => ⟨Or.inl hb, hX b hb⟩), Blw.refl _⟩
          · have h3 : (f k == x) = false := by simp [h2]
            have HX : Hid (x < f k) := by show x < f k; omega
            have hkc : (k : Int) ≤ cap := by omega
            obtain ⟨a1, p1, w1, a2, p2, w2, a3, p3, w3, r1, r2, r3, bf, hw⟩ := HP.out k hk
            have R1 : Hid _ := r1
            have R2 : Hid _ := r2
            have R3 : Hid _ := r3
            have HF : Hid (BufI (fun b => w.heap.size ≤ b ∧ b < w3.heap.size) w3 (.slice a3 (n + 1) p3) (n + 1) (ins k x f)) := bf
            have HW : Hid (Blw w w3) := hw
            clear r1 r2 r3 bf HP HPN h2 hw
            go_wp2_with (first | (at_builtin; refine wpList_append_at rfl (.tmp 34) (.tmp 37) 26 rfl ?_; refine ⟨_, _, R1.out, ?_⟩) | (at_builtin; refine wpList_append_at rfl (.tmp 39) (.tmp 41) 26 rfl ?_; refine ⟨_, _, R2.out, ?_⟩) | (at_builtin; refine wpList_append_at rfl (.tmp 43) (.tmp 46) 26 rfl ?_; refine ⟨_, _, R3.out, ?_⟩) | go_in)
            go_ret
            exact ⟨_, rfl, n + 1, _, ⟨ins_rising HR.out hk HLO.out (fun t h4 h5 => by
              by_cases e : t = k
              · subst e; exact HX.out
              · have := HR.out k t (by omega) h5
                have := HX.out
                omega), ins_isIn hk, by omega⟩, HF.out.mono (fun b hb => ⟨Or.inr hb.1, hb.2⟩), HW.out⟩
      · obtain rfl : k = n := by omega
        have hkc : (k : Int) ≤ cap := by omega
        by_cases hck : cap = k
        · subst hck
          obtain ⟨a1, p1, w1, a2, p2, w2, a3, p3, w3, r1, r2, r3, bf, hw⟩ := HPN.out (some ⟨g, 0, none⟩) 0
          rw [Nat.sub_self] at r3
          have R1 : Hid _ := r1
          have R2 : Hid _ := r2
          have R3 : Hid _ := r3
          have HF : Hid (BufI (fun b => w.heap.size ≤ b ∧ b < w3.heap.size) w3 (.slice a3 (cap + 1) p3) (cap + 1) (ins cap x f)) := bf
          have HW : Hid (Blw w w3) := hw
          clear r1 r2 r3 bf HP HPN hw
          go_wp2_with (first | (at_builtin; refine wpList_append_at rfl (.tmp 34) (.tmp 37) 26 rfl ?_; refine ⟨_, _, R1.out, ?_⟩) | (at_builtin; refine wpList_append_at rfl (.tmp 39) (.tmp 41) 26 rfl ?_; refine ⟨_, _, R2.out, ?_⟩) | (at_builtin; refine wpList_append_at rfl (.tmp 43) (.tmp 46) 26 rfl ?_; refine ⟨_, _, R3.out, ?_⟩) | go_in)
          go_ret
          exact ⟨_, rfl, cap + 1, _, ⟨ins_rising HR.out hk HLO.out (fun t h4 h5 => by omega), ins_isIn hk, by omega⟩, HF.out.mono (fun b hb => ⟨Or.inr hb.1, hb.2⟩), HW.out⟩
        · obtain ⟨a1, p1, w1, a2, p2, w2, a3, p3, w3, r1, r2, r3, bf, hw⟩ := HPN.out (some ⟨g, k, none⟩) (cap - k)
          rw [Nat.sub_self] at r3
          have R1 : Hid _ := r1
          have R2 : Hid _ := r2
          have R3 : Hid _ := r3
          have HF : Hid (BufI (fun b => w.heap.size ≤ b ∧ b < w3.heap.size) w3 (.slice a3 (k + 1) p3) (k + 1) (ins k x f)) := bf
          have HW : Hid (Blw w w3) := hw
          clear r1 r2 r3 bf HP HPN hw
          go_wp2_with (first | (at_builtin; refine wpList_append_at rfl (.tmp 34) (.tmp 37) 26 rfl ?_; refine ⟨_, _, R1.out, ?_⟩) | (at_builtin; refine wpList_append_at rfl (.tmp 39) (.tmp 41) 26 rfl ?_; refine ⟨_, _, R2.out, ?_⟩) | (at_builtin; refine wpList_append_at rfl (.tmp 43) (.tmp 46) 26 rfl ?_; refine ⟨_, _, R3.out, ?_⟩) | go_in)
          go_ret
          exact ⟨_, rfl, k + 1, _, ⟨ins_rising HR.out hk HLO.out (fun t h4 h5 => by omega), ins_isIn hk, by omega⟩, HF.out.mono (fun b hb => ⟨Or.inr hb.1, hb.2⟩), HW.out⟩
end Go.Proofs.Ytbpdopcdhnemfaa
/- Cells that are drawn. -/
namespace Go.Proofs.Ytbpdopcdhnemfaa
open Go.RowKit
set_option linter.unusedSimpArgs false
set_option linter.unusedVariables false
/-- A list of i numbers that is built behind w, while the cursor at C goes on. -/
structure Bld (Y : Nat → Prop) (w wr : World) (C k : Nat) (v : Value) (i : Nat) : Prop where
  mod : Mod (fun b => b = C) w wr
  cur : Cur Y wr C k
  ex : ∃ c, BufI (fun b => w.heap.size ≤ b ∧ b < wr.heap.size) wr v i c
theorem Mod.newerC {X Z : Nat → Prop} {a b c : World} (h : Mod X a b) (k : Mod Z b c) (hz : ∀ i, Z i → a.heap.size ≤ i) : Mod X a c :=
  ⟨k.os.trans h.os, k.tape.trans h.tape, k.output.trans h.output, Nat.le_trans h.size k.size, fun i hi hx => (k.block i (Nat.lt_of_lt_of_le hi h.size) (fun e => by have := hz i e; omega)).trans (h.block i hi hx)⟩
def upd' (c : Nat → Int) (n : Nat) (x : Int) : Nat → Int := fun i => if i = n then x else c i
/-- A cell of a list of one's own, written. -/
theorem Buf.set1 {X : Nat → Prop} {w : World} {g cap n : Nat} {c : Nat → Int} (h : BufI X w (.slice (some ⟨g, 0, none⟩) n cap) n c) (j : Nat) (hj : j < n) (x : Int) : BufI X (w.setCell ⟨g, j, none⟩ (.int .i64 x)) (.slice (some ⟨g, 0, none⟩) n cap) n (upd' c j x) := by
  refine ⟨⟨by simp, Or.inr ?_⟩, h.2⟩
  rcases h.1.2 with ⟨e, -⟩ | ⟨g', cap', cur, e, h1, hb, h2, h3, h4, h5⟩
  · cases e
  · cases e
    refine ⟨g, cap, cur.setIfInBounds j (.int .i64 x), rfl, h1, by simp [World.setCell, Array.getElem?_modify, hb], h2, h3, by simpa using h4, ?_⟩
    rw [Nat.mul_one] at h5 ⊢
    apply List.ext_getElem?
    intro i
    by_cases hi : i < n
    · have h6 := congrArg (fun l => l[i]?) h5
      simp [hi] at h6
      simp only [List.getElem?_take, hi, if_true, Array.toList_setIfInBounds, List.getElem?_set, List.getElem?_map, List.getElem?_range hi, Option.map_some, ic, upd']
      by_cases e : j = i
      · subst e
        have : j < cur.size := by omega
        simp [this]
      · have e' : ¬ i = j := fun h => e h.symm
        simp [e, e', h6]
    · simp [hi]; omega
theorem Bld.cur' {Y : Nat → Prop} {w wr w1 : World} {C k k' : Nat} {v : Value} {i : Nat} (h : Bld Y w wr C k v i) (hC : C < w.heap.size) (hc : Cur Y w1 C k') (hm : Mod (fun b => b = C) wr w1) : Bld Y w w1 C k' v i := by
  obtain ⟨c, hb⟩ := h.ex
  have hs := hm.size
  exact ⟨h.mod.trans hm, hc, c, (Buf.mod hb hm (fun b hb e => by omega)).mono (fun b hb => by omega)⟩
theorem Bld.push {Y : Nat → Prop} {w wr : World} {C k : Nat} {v : Value} {i : Nat} (h : Bld Y w wr C k v i) (hi : i ≤ 100) (hC : C < w.heap.size) (hY : ∀ b, Y b → b < w.heap.size) (x : Int) :
    ∃ ao cap w', (Builtin.append_ #[26, 26] 26 #[v, .slice (some ⟨wr.heap.size, 0, none⟩) 1 1]).run Try.prog (wr.alloc (.cells #[.int .i64 x] 3)) = .ok (.slice ao (i + 1) cap) w' ∧ Bld Y w w' C k (.slice ao (i + 1) cap) (i + 1) := by
  obtain ⟨c, hb⟩ := h.ex
  obtain ⟨ao, cap, w', hr, hB, hM⟩ := pushI hb (by omega) x
  have hx : ∀ b, v.ownBlock = some b → w.heap.size ≤ b := fun b hh => (hb.2 b hh).1
  have hs := h.mod.size
  refine ⟨ao, cap, w', hr, h.mod.newerC hM hx, h.cur.mod hM (fun e => by have := hx _ e; omega) (fun b hb' e => by have := hY b hb'; have := hx b e; omega), _, hB.mono (fun b hb' => ⟨?_, hb'.2⟩)⟩
  rcases hb'.1 with h1 | h1
  · exact h1.1
  · omega
set_option maxRecDepth 10000 in
set_option maxHeartbeats 3200000 in
theorem cells_any (Y : Nat → Prop) (C k : Nat) (w : World) (hk : k ≤ 800000) (hY : ∀ b, Y b → b < w.heap.size ∧ b ≠ C) (h : Cur Y w C k) :
    Calls Try.prog 172 #[.pointer (some ⟨C, 0, none⟩)] w fun e w' => ∃ v, e = .returned v ∧ Bld Y w w' C (k + 100) v 8 := by
  have hC := h.lt
  have H0 : Hid (Bld Y w w C k (.slice none 0 0) 0) := ⟨Mod.refl _ _, h, fun _ => 0, Buf.nil _ _ _ _ _⟩
  clear h
  go_enter Try.func172, Try.ntmps172
  go_wp2_with fail
  go_loopw [3, 4] (fun v i wr => ∃ j : Nat, j ≤ 8 ∧ i = .int .i64 j ∧ Bld Y w wr C (k + 2 * j) v j) (fun _ i _ => 8 - (intOf i).toNat)
  case atStart => exact ⟨0, by omega, rfl, H0.out⟩
  case round =>
    obtain ⟨j, hj, rfl, hb⟩ := hrel
    clear H0
    have HB : Hid (Bld Y w wr C (k + 2 * j) u3 j) := hb
    clear hb
    by_cases hlt : j < 8
    · have hlt' : (j : Int) < 8 := by omega
      go_wp2_with fail
      refine (pick_any Y C (k + 2 * j) 9 _ (by omega) (by omega) HB.out.cur).mono ?_
      rintro e w1 ⟨x, rfl, hx, hc1, hm1⟩
      obtain ⟨ao, cap, w2, hrun, hB2⟩ := (HB.out.cur' hC hc1 hm1).push (by omega) hC (fun b hb => (hY b hb).1) x
      have HRN : Hid _ := hrun
      have HB2 : Hid (Bld Y w w2 C (k + 2 * j + 2) (.slice ao (j + 1) cap) (j + 1)) := hB2
      clear hrun hB2 hc1 hm1 HB
      go_wp2_with (first | (at_builtin; refine wpList_app (.tmp 9) (.tmp 12) 26 (by rfl) ?_; refine ⟨_, _, HRN.out, ?_⟩) | fail)
      go_wp2
      go_roundw
      case rel => exact ⟨j + 1, by omega, by go_num, HB2.out⟩
      case measure => simp [intOf]; omega
    · obtain rfl : j = 8 := by omega
      go_wp2_with fail
      refine (one_any Y C (k + 2 * 8) 20 _ (by omega) (by omega) HB.out.cur).mono ?_
      rintro e w1 ⟨r, rfl, hc1, hm1⟩
      have HB1 : Hid (Bld Y w w1 C (k + 2 * 8 + 2) u3 8) := HB.out.cur' hC hc1 hm1
      clear HB hc1 hm1
      cases r
      · go_wp2
        go_ret
        exact ⟨_, rfl, HB1.out.mod, HB1.out.cur.le (by omega), HB1.out.ex⟩
      · obtain ⟨c, hbf⟩ := HB1.out.ex
        obtain ⟨ao, cap, rfl, hio⟩ := BufI.own hbf (by omega)
        have hA : Blw w1 (w1.alloc (.cells #[.int .i64 (-1), .int .i64 65535, .int .i64 65536] 3)) := (Blw.refl _).alloc _
        have HI3 : Hid (IntsAt (fun b => b = w1.heap.size) (w1.alloc (.cells #[.int .i64 (-1), .int .i64 65535, .int .i64 65536] 3)) (some ⟨w1.heap.size, 0, none⟩) 3 (fun i => if i = 0 then -1 else if i = 1 then 65535 else 65536)) := by
          have r3 := box3 w1 (.int .i64 (-1)) (.int .i64 65535) (.int .i64 65536) 3
          refine ⟨by omega, fun i hi => ⟨w1.heap.size, 0, rfl, rfl, ?_⟩⟩
          rw [Nat.zero_add, r3.cell hi]
          match i, hi with
          | 0, _ => rfl
          | 1, _ => rfl
          | 2, _ => rfl
        have hs1 := HB1.out.mod.size
        have HC1 : Hid (Cur Y (w1.alloc (.cells #[.int .i64 (-1), .int .i64 65535, .int .i64 65536] 3)) C (k + 2 * 8 + 2)) := HB1.out.cur.blw hA
        have HBF : Hid (BufI (fun b => w.heap.size ≤ b ∧ b < w1.heap.size) (w1.alloc (.cells #[.int .i64 (-1), .int .i64 65535, .int .i64 65536] 3)) (.slice ao 8 cap) 8 c) := Buf.blw hbf hA
        have HM1 : Hid (Mod (fun b => b = C) w (w1.alloc (.cells #[.int .i64 (-1), .int .i64 65535, .int .i64 65536] 3))) := HB1.out.mod.trans (hA.mod _)
        clear hbf hio HB1 hA
        go_wp2_with fail
        refine (among_any Y _ C (k + 2 * 8 + 2) _ 3 3 _ _ (by omega) (by omega) HI3.out (fun b hb => by omega) HC1.out).mono ?_
        rintro e w2 ⟨x, rfl, hc2, hm2⟩
        have hb2 := Buf.mod HBF.out hm2 (fun b hb e => by omega)
        obtain ⟨_, _, e0, hrow⟩ := Buf.form hb2
        cases e0
        obtain ⟨g, hg, rfl, hr⟩ := hrow (by omega)
        have c0 : w2.cell? ⟨g, 0, none⟩ = some (.int .i64 (c 0)) := hr.cell (i := 0) (by omega)
        have f0 := hr.frozen 0
        have hs2 := hm2.size
        rw [World.size_alloc] at hs2
        have ms : Mod (fun b => b = g) w2 (w2.setCell ⟨g, 0, none⟩ (.int .i64 x)) := Mod.setCell (X := fun b => b = g) _ (p := ⟨g, 0, none⟩) rfl _
        have HF : Hid (Bld Y w (w2.setCell ⟨g, 0, none⟩ (.int .i64 x)) C (k + 100) (.slice (some ⟨g, 0, none⟩) 8 cap) 8) := by
          have hs3 := ms.size
          refine ⟨(HM1.out.trans hm2).newerC (X := fun b => b = C) (Z := fun b => b = g) ms (fun b e => by omega), (hc2.le (by omega)).mod ms (by omega) (fun b hb e => by have := hY b hb; omega), upd' c 0 x, ?_⟩
          exact (Buf.set1 hb2 0 (by omega) x).mono (fun b hb => by omega)
        clear hb2 hrow hr hc2 hm2 HBF HC1 HM1 HI3 ms hg hs2 hs1
        go_wp2
        go_ret
        exact ⟨_, rfl, HF.out⟩
end Go.Proofs.Ytbpdopcdhnemfaa
/- Lists of structs of K numbers: what they read as, what is owned. -/
namespace Go.Proofs.Ytbpdopcdhnemfaa
open Go.RowKit
set_option linter.unusedSimpArgs false
set_option linter.unusedVariables false
def kc (K : Nat) (F : Nat → Nat → Int) : Nat → Value := fun j => .int .i64 (F (j / K) (j % K))
theorem kc_at {K : Nat} (F : Nat → Nat → Int) (i : Nat) {c : Nat} (hc : c < K) : kc K F (i * K + c) = .int .i64 (F i c) := by
  unfold kc
  rw [Nat.mul_comm, Nat.mul_add_div (by omega), Nat.div_eq_of_lt hc, Nat.mul_add_mod, Nat.mod_eq_of_lt hc, Nat.add_zero]
theorem kc_lt {K n i c : Nat} (hi : i < n) (hc : c < K) : i * K + c < n * K := by
  have : (i + 1) * K ≤ n * K := Nat.mul_le_mul_right K hi
  rw [Nat.succ_mul] at this
  omega
/-- The slice at 'ao' reads as the n structs F, all in blocks of Y. -/
def KAt (K : Nat) (Y : Nat → Prop) (w : World) (ao : Option Addr) (n : Nat) (F : Nat → Nat → Int) : Prop :=
  n ≤ 9223372036854775807 ∧ ∀ i, i < n → ∃ b o, ao = some ⟨b, o, none⟩ ∧ Y b ∧ ∀ c, c < K → w.cell? ⟨b, o + i * K + c, none⟩ = some (.int .i64 (F i c))
def KOwn (K : Nat) (X : Nat → Prop) (w : World) (ao : Option Addr) (n : Nat) (F : Nat → Nat → Int) : Prop :=
  n ≤ 9223372036854775807 ∧ (0 < n → ∃ b, X b ∧ ao = some ⟨b, 0, none⟩ ∧ Row w b (n * K) (kc K F))
theorem k_get {w : World} {b n K : Nat} {F : Nat → Nat → Int} (r : Row w b (n * K) (kc K F)) {i c : Nat} (hi : i < n) (hc : c < K) : w.cell? ⟨b, i * K + c, none⟩ = some (.int .i64 (F i c)) := by
  rw [r.cell (kc_lt hi hc), kc_at F i hc]
theorem KOwn.at {K : Nat} {X : Nat → Prop} {w : World} {ao : Option Addr} {n : Nat} {F : Nat → Nat → Int} (h : KOwn K X w ao n F) : KAt K X w ao n F := by
  refine ⟨h.1, fun i hi => ?_⟩
  obtain ⟨b, hx, e, hr⟩ := h.2 (by omega)
  exact ⟨b, 0, e, hx, fun c hc => by rw [Nat.zero_add]; exact k_get hr hi hc⟩
theorem KAt.blw {K : Nat} {Y : Nat → Prop} {w w' : World} {ao : Option Addr} {n : Nat} {F : Nat → Nat → Int} (h : KAt K Y w ao n F) (hb : Blw w w') : KAt K Y w' ao n F :=
  ⟨h.1, fun i hi => let ⟨b, o, e, hY, h0⟩ := h.2 i hi; ⟨b, o, e, hY, fun c hc => hb.cell (h0 c hc)⟩⟩
theorem KAt.mod {K : Nat} {Y : Nat → Prop} {w w' : World} {ao : Option Addr} {n : Nat} {F : Nat → Nat → Int} {X : Nat → Prop} (h : KAt K Y w ao n F) (hb : Mod X w w') (hxy : ∀ k, Y k → ¬ X k) : KAt K Y w' ao n F :=
  ⟨h.1, fun i hi => let ⟨b, o, e, hY, h0⟩ := h.2 i hi; ⟨b, o, e, hY, fun c hc => hb.cell (h0 c hc) (hxy _ hY)⟩⟩
theorem KAt.mono {K : Nat} {Y : Nat → Prop} {w : World} {ao : Option Addr} {n : Nat} {F : Nat → Nat → Int} {X : Nat → Prop} (h : KAt K X w ao n F) (hxy : ∀ b, X b → Y b) : KAt K Y w ao n F :=
  ⟨h.1, fun i hi => let ⟨b, o, e, hY, h0⟩ := h.2 i hi; ⟨b, o, e, hxy _ hY, h0⟩⟩
theorem KAt.congr {K : Nat} {Y : Nat → Prop} {w : World} {ao : Option Addr} {n : Nat} {F : Nat → Nat → Int} {F' : Nat → Nat → Int} (h : KAt K Y w ao n F) (e : ∀ i c, i < n → c < K → F i c = F' i c) : KAt K Y w ao n F' :=
  ⟨h.1, fun i hi => let ⟨b, o, ea, hY, h0⟩ := h.2 i hi; ⟨b, o, ea, hY, fun c hc => by rw [← e i c hi hc]; exact h0 c hc⟩⟩
theorem KOwn.mod {K : Nat} {X Z : Nat → Prop} {w w' : World} {ao : Option Addr} {n : Nat} {F : Nat → Nat → Int} (h : KOwn K X w ao n F) (hb : Mod Z w w') (hxz : ∀ b, X b → ¬ Z b) : KOwn K X w' ao n F :=
  ⟨h.1, fun hn => let ⟨b, hx, e, hr⟩ := h.2 hn; ⟨b, hx, e, hr.mod hb (hxz _ hx)⟩⟩
theorem KOwn.blw {K : Nat} {X : Nat → Prop} {w w' : World} {ao : Option Addr} {n : Nat} {F : Nat → Nat → Int} (h : KOwn K X w ao n F) (hb : Blw w w') : KOwn K X w' ao n F := h.mod (hb.mod (fun _ => False)) (fun _ _ => id)
theorem KOwn.mono {K : Nat} {X Y : Nat → Prop} {w : World} {ao : Option Addr} {n : Nat} {F : Nat → Nat → Int} (h : KOwn K X w ao n F) (hxy : ∀ b, X b → Y b) : KOwn K Y w ao n F :=
  ⟨h.1, fun hn => let ⟨b, hx, e, hr⟩ := h.2 hn; ⟨b, hxy _ hx, e, hr⟩⟩
theorem KOwn.nil (K : Nat) (X : Nat → Prop) (w : World) (ao : Option Addr) (F : Nat → Nat → Int) : KOwn K X w ao 0 F := ⟨by omega, fun h => absurd h (by omega)⟩
theorem KOwn.congr {K : Nat} {X : Nat → Prop} {w : World} {ao : Option Addr} {n : Nat} {F F' : Nat → Nat → Int} (hK : 0 < K) (h : KOwn K X w ao n F) (e : ∀ i c, i < n → c < K → F i c = F' i c) : KOwn K X w ao n F' :=
  ⟨h.1, fun hn => let ⟨b, hx, ea, hr⟩ := h.2 hn; ⟨b, hx, ea, hr.congr fun j hj => by
    unfold kc
    rw [e (j / K) (j % K) (Nat.div_lt_of_lt_mul (by rw [Nat.mul_comm]; exact hj)) (Nat.mod_lt _ hK)]⟩⟩
def updF (F : Nat → Nat → Int) (i c : Nat) (v : Int) : Nat → Nat → Int := fun a b => if a = i ∧ b = c then v else F a b
theorem setK {w : World} {b n K : Nat} {F : Nat → Nat → Int} (r : Row w b (n * K) (kc K F)) (i : Nat) {c : Nat} (hc : c < K) (v : Int) : Row (w.setCell ⟨b, i * K + c, none⟩ (.int .i64 v)) b (n * K) (kc K (updF F i c v)) :=
  (r.set (i * K + c) _).congr (fun j hj => by
    have hK : 0 < K := by omega
    by_cases e : j = i * K + c
    · rw [if_pos e, e, kc_at _ i hc]; unfold updF; rw [if_pos ⟨rfl, rfl⟩]
    · rw [if_neg e]
      unfold kc updF
      have : ¬ (j / K = i ∧ j % K = c) := fun h => e (by have h1 := Nat.div_add_mod j K; rw [h.1, h.2, Nat.mul_comm] at h1; exact h1.symm)
      rw [if_neg this])
/-- What a list holds behind a mark. -/
def mkK (K : Nat) (k : Int) : Nat → Nat → Int := fun i c => k + K * i + c
def upK (G F : Nat → Nat → Int) (i : Nat) : Nat → Nat → Int := fun a c => if a < i then G a c else F a c
theorem upK_zero (G F : Nat → Nat → Int) : upK G F 0 = F := by funext a c; unfold upK; rw [if_neg (Nat.not_lt_zero _)]
theorem upK_all {K : Nat} {X : Nat → Prop} {w : World} {ao : Option Addr} {n : Nat} {G F : Nat → Nat → Int} (hK : 0 < K) (h : KOwn K X w ao n (upK G F n)) : KOwn K X w ao n G := h.congr hK (fun i c hi _ => by unfold upK; rw [if_pos hi])
theorem kAt_get {K : Nat} {Y : Nat → Prop} {w : World} {ao : Option Addr} {n : Nat} {F : Nat → Nat → Int} (h : KAt K Y w ao n F) {i : Nat} (hi : i < n) : ∃ b o, ao = some ⟨b, o, none⟩ ∧ Y b ∧ ∀ c, c < K → w.cell? ⟨b, o + i * K + c, none⟩ = some (.int .i64 (F i c)) := h.2 i hi
theorem Row.madeK (w : World) (z : Array Value) (v : Value) (hz : ∀ i, i < z.size → z[i]? = some v) (h0 : 0 < z.size) (n : Nat) (t : TypeId) : Row (w.alloc (.cells (madeCells z n) t)) w.heap.size n (fun _ => v) := by
  refine ⟨_, t, heap_alloc_new _ _, by simp [madeCells], fun i hi => ?_⟩
  have h2 : i % z.size < z.size := Nat.mod_lt _ h0
  have := hz (i % z.size) h2
  simp [madeCells, hi, getElem!_def, this]
end Go.Proofs.Ytbpdopcdhnemfaa
/- What stands in a law: facts that no other block's change turns. -/
namespace Go.Proofs.Ytbpdopcdhnemfaa
open Go.RowKit
set_option linter.unusedSimpArgs false
set_option linter.unusedVariables false
/-- P holds of W, and of every world that differs from it in blocks outside X alone. -/
def St (X : Nat → Prop) (P : World → Prop) (W : World) : Prop := (∀ b, X b → b < W.heap.size) ∧ ∀ Z w', Mod Z W w' → (∀ b, X b → ¬ Z b) → P w'
theorem St.out {X : Nat → Prop} {P : World → Prop} {W : World} (h : St X P W) : P W := h.2 (fun _ => False) W (Mod.refl _ _) (fun _ _ => id)
theorem St.mod {X Z : Nat → Prop} {P : World → Prop} {W W' : World} (h : St X P W) (hm : Mod Z W W') (hx : ∀ b, X b → ¬ Z b) : St X P W' :=
  ⟨fun b hb => Nat.lt_of_lt_of_le (h.1 b hb) hm.size, fun Z' w' hm' hx' => h.2 (fun b => Z b ∨ Z' b) w' ((hm.mono (fun _ => Or.inl)).trans (hm'.mono (fun _ => Or.inr))) (fun b hb hz => hz.elim (hx b hb) (hx' b hb))⟩
theorem St.blw {X : Nat → Prop} {P : World → Prop} {W W' : World} (h : St X P W) (hb : Blw W W') : St X P W' := h.mod (hb.mod (fun _ => False)) (fun _ _ => id)
theorem St.mono {X Y : Nat → Prop} {P : World → Prop} {W : World} (h : St X P W) (hxy : ∀ b, X b → Y b) (hY : ∀ b, Y b → b < W.heap.size) : St Y P W :=
  ⟨hY, fun Z w' hm hx => h.2 Z w' hm (fun b hb => hx b (hxy b hb))⟩
/-- A law's argument: below a; the model's answer: below b; the argument's copy: below c; the program's answer: below d. -/
structure LawF (w W : World) (a b c d : Nat) (P1 P3 P4 P5 : World → Prop) : Prop where
  hB : Blw w W
  p1 : St (fun x => x < a) P1 W
  p3 : St (fun x => x < b) P3 W
  p4 : St (fun x => b ≤ x ∧ x < c) P4 W
  p5 : St (fun x => c ≤ x ∧ x < d) P5 W
  o : w.heap.size ≤ a ∧ a ≤ b ∧ b ≤ c ∧ c ≤ d ∧ d ≤ W.heap.size
theorem LawF.blw {w W W' : World} {a b c d : Nat} {P1 P3 P4 P5 : World → Prop} (S : LawF w W a b c d P1 P3 P4 P5) (hb : Blw W W') : LawF w W' a b c d P1 P3 P4 P5 := by
  have o := S.o
  have := hb.size
  exact ⟨S.hB.trans hb, S.p1.blw hb, S.p3.blw hb, S.p4.blw hb, S.p5.blw hb, by omega⟩
theorem LawF.mark4 {w W W' : World} {a b c d : Nat} {P1 P3 P4 P4' P5 : World → Prop} (S : LawF w W a b c d P1 P3 P4 P5) {X : Nat → Prop} (hm : Mod X W W') (hX : ∀ x, X x → b ≤ x ∧ x < c) (h4 : St (fun x => b ≤ x ∧ x < c) P4' W') : LawF w W' a b c d P1 P3 P4' P5 := by
  have o := S.o
  have := hm.size
  exact ⟨Mod.blw S.hB hm (fun i hi => by have := hX i hi; omega), S.p1.mod hm (fun x hx h => by have := hX x h; omega), S.p3.mod hm (fun x hx h => by have := hX x h; omega), h4, S.p5.mod hm (fun x hx h => by have := hX x h; omega), by omega⟩
theorem LawF.mark5 {w W W' : World} {a b c d : Nat} {P1 P3 P4 P5 P5' : World → Prop} (S : LawF w W a b c d P1 P3 P4 P5) {X : Nat → Prop} (hm : Mod X W W') (hX : ∀ x, X x → c ≤ x ∧ x < d) (h5 : St (fun x => c ≤ x ∧ x < d) P5' W') : LawF w W' a b c d P1 P3 P4 P5' := by
  have o := S.o
  have := hm.size
  exact ⟨Mod.blw S.hB hm (fun i hi => by have := hX i hi; omega), S.p1.mod hm (fun x hx h => by have := hX x h; omega), S.p3.mod hm (fun x hx h => by have := hX x h; omega), S.p4.mod hm (fun x hx h => by have := hX x h; omega), h5, by omega⟩
end Go.Proofs.Ytbpdopcdhnemfaa
/- The laws' functions on lists of InsS. -/
namespace Go.Proofs.Ytbpdopcdhnemfaa
open Go.RowKit
set_option linter.unusedSimpArgs false
set_option linter.unusedVariables false
theorem infoInsS : (Try.prog.info? 170).map (fun i => (i.zero, i.size, i.bytes)) = some (some (.agg #[.int .i64 0, .int .i64 0, .int .i64 0]), 3, 24) := by kernel_rfl
theorem mkInsS (n : Nat) (hn : n ≤ 1048576) (w : World) : (Instr.makeSlice 59 (.int .i64 n) (.int .i64 n)).run Try.prog w = .ok (.slice (some ⟨w.heap.size, 0, none⟩) n n) (w.alloc (.cells (madeCells #[.int .i64 0, .int .i64 0, .int .i64 0] (n * 3)) 170)) := by
  obtain ⟨i0, hi, hz0, hz1, hz2⟩ := info_parts infoInsS
  have h := run_make (P := Try.prog) w 59 170 i0 (.agg #[.int .i64 0, .int .i64 0, .int .i64 0]) Try.underlying59 hi hz0 .i64 .i64 (n : Int) (n : Int) (by omega) (Int.le_refl _) (by rw [hz2]; omega) (by omega)
  simpa [hz1, Value.cells] using h
set_option maxHeartbeats 400000 in
theorem szInsS_any (ao : Option Addr) (c n : Nat) (left : Int) (w : World) (hn : n ≤ 9223372036854775807) (h0 : 0 ≤ left) (h1 : left ≤ 1048576) :
    Calls Try.prog 68 #[.slice ao n c, .int .i64 left] w fun e w' => ∃ r : Int, e = .returned (.int .i64 r) ∧ Left left n r ∧ Blw w w' := by
  by_cases h : left - n < 0
  · go_enter Try.func68, Try.ntmps68
    go_wp2
    go_ret
    exact ⟨_, rfl, Or.inl rfl, Blw.refl _⟩
  · go_enter Try.func68, Try.ntmps68
    go_wp2
    go_ret
    exact ⟨_, rfl, Or.inr ⟨by omega, by omega⟩, Blw.refl _⟩
set_option maxHeartbeats 800000 in
theorem toInsS1_any (x0 x1 x2 : Int) (w : World) : Calls Try.prog 140 #[.agg #[.int .i64 x0, .int .i64 x1, .int .i64 x2]] w fun e w' => e = .returned (.agg #[.int .i64 x0, .int .i64 x1, .int .i64 x2]) ∧ Blw w w' := by
  go_enter Try.func140, Try.ntmps140
  go_wp2
  refine bodyPost_ret (v := (.agg #[.int .i64 x0, .int .i64 x1, .int .i64 x2])) (by simp [results, Try.results140, go_sem]) rfl ⟨rfl, ?_⟩
  exact (((Blw.refl _).alloc _).alloc _).alloc _
set_option maxHeartbeats 1600000 in
theorem toInsS_any (ao : Option Addr) (c n : Nat) (F : Nat → Nat → Int) (Y : Nat → Prop) (w : World) (hn : n ≤ 1048576) (h : KAt 3 Y w ao n F) :
    Calls Try.prog 69 #[.slice ao n c] w fun e w' => e = .returned (.slice (some ⟨w.heap.size, 0, none⟩) n n) ∧ Row w' w.heap.size (n * 3) (kc 3 F) ∧ Blw w w' := by
  have H : Hid (KAt 3 Y w ao n F) := h
  clear h
  have hmk := mkInsS n hn
  go_enter Try.func69, Try.ntmps69
  go_wp2
  clear hmk
  go_loopw [4] (fun i wr => ∃ j : Nat, j ≤ n ∧ i = .int .i64 j ∧ Row wr w.heap.size (n * 3) (kc 3 (upK F (fun _ _ => 0) j)) ∧ Blw w wr) (fun i _ => n - (intOf i).toNat)
  case atStart => exact ⟨0, Nat.zero_le _, rfl, (Row.madeK w #[.int .i64 0, .int .i64 0, .int .i64 0] (.int .i64 0) (fun i hi => by
    match i, hi with
    | 0, _ => rfl
    | 1, _ => rfl
    | 2, _ => rfl
    ) (by decide) (n * 3) 170).congr (fun i _ => by rw [upK_zero]; rfl), (Blw.refl _).alloc _⟩
  case round =>
    obtain ⟨j, hj, rfl, hr, hb⟩ := hrel
    have HR : Hid (Row wr w.heap.size (n * 3) (kc 3 (upK F (fun _ _ => 0) j))) := hr
    have HB : Hid (Blw w wr) := hb
    clear hr hb
    by_cases hlt : j < n
    · obtain ⟨b, o, rfl, -, g⟩ := (H.out.blw HB.out).2 j hlt
      have g0 := g 0 (by omega)
      have g1 := g 1 (by omega)
      have g2 := g 2 (by omega)
      have hlt' : (j : Int) < n := by omega
      clear g H
      rw [Nat.add_zero] at g0
      go_wp2_with fail
      refine (toInsS1_any _ _ _ _).mono ?_
      rintro e w1 ⟨rfl, hb1⟩
      clear g0 g1 g2
      have HR1 : Hid (Row w1 w.heap.size (n * 3) (kc 3 (upK F (fun _ _ => 0) j))) := HR.out.blw hb1
      have HB1 : Hid (Blw w w1) := HB.out.trans hb1
      clear HR HB hb1
      have p0 := k_get HR1.out hlt (c := 0) (by omega)
      have f0 := HR1.out.frozen (j * 3)
      have p1 := k_get HR1.out hlt (c := 1) (by omega)
      have f1 := HR1.out.frozen (j * 3 + 1)
      have p2 := k_get HR1.out hlt (c := 2) (by omega)
      have f2 := HR1.out.frozen (j * 3 + 2)
      rw [Nat.add_zero] at p0
      have HS : Hid (Row (((w1.setCell ⟨w.heap.size, j * 3, none⟩ (.int .i64 (F j 0))).setCell ⟨w.heap.size, j * 3 + 1, none⟩ (.int .i64 (F j 1))).setCell ⟨w.heap.size, j * 3 + 2, none⟩ (.int .i64 (F j 2))) w.heap.size (n * 3) (kc 3 (upK F (fun _ _ => 0) (j + 1)))) := by
        have hq := (setK (setK (setK HR1.out j (c := 0) (by omega) (F j 0)) j (c := 1) (by omega) (F j 1)) j (c := 2) (by omega) (F j 2))
        rw [Nat.add_zero] at hq
        refine hq.congr (fun t ht => ?_)
        have ht2 : t % 3 < 3 := Nat.mod_lt _ (by omega)
        unfold kc updF upK
        by_cases e : t / 3 = j
        · simp only [e, true_and, Nat.lt_succ_self, if_true]
          rcases (show t % 3 = 0 ∨ t % 3 = 1 ∨ t % 3 = 2 by omega) with e2 | e2 | e2 <;> simp [e2]
        · have e3 : (t / 3 < j + 1) = (t / 3 < j) := by simp; omega
          simp [e, e3]
      have HBF : Hid (Blw w (((w1.setCell ⟨w.heap.size, j * 3, none⟩ (.int .i64 (F j 0))).setCell ⟨w.heap.size, j * 3 + 1, none⟩ (.int .i64 (F j 1))).setCell ⟨w.heap.size, j * 3 + 2, none⟩ (.int .i64 (F j 2)))) := (((HB1.out.setCell (Nat.le_refl _) _).setCell (Nat.le_refl _) _).setCell (Nat.le_refl _) _)
      clear HR1 HB1
      go_wp2
      go_roundw
      case rel => exact ⟨j + 1, by omega, by go_num, HS.out, HBF.out⟩
      case measure => simp [intOf]; omega
    · go_wp2
      go_ret
      obtain rfl : j = n := by omega
      refine ⟨rfl, HR.out.congr fun i hi => ?_, HB.out⟩
      have : i / 3 < j := Nat.div_lt_of_lt_mul (by rw [Nat.mul_comm]; exact hi)
      simp [kc, upK, this]
set_option maxHeartbeats 800000 in
theorem eqInsS1_same (x0 x1 x2 : Int) (w : World) : Calls Try.prog 141 #[.agg #[.int .i64 x0, .int .i64 x1, .int .i64 x2], .agg #[.int .i64 x0, .int .i64 x1, .int .i64 x2]] w fun e w' => e = .returned (.bool true) ∧ Blw w w' := by
  have h0 : (x0 != x0) = false := by simp
  have h1 : (x1 != x1) = false := by simp
  have h2 : (x2 != x2) = false := by simp
  go_enter Try.func141, Try.ntmps141
  go_wp2
  go_ret
  exact ⟨rfl, ((Blw.refl _).alloc _).alloc _⟩
set_option maxHeartbeats 1600000 in
theorem eqInsS_same (a1 a2 : Option Addr) (c1 c2 n : Nat) (F : Nat → Nat → Int) {X Y : Nat → Prop} (w : World) (h1 : KAt 3 X w a1 n F) (h2 : KAt 3 Y w a2 n F) :
    Calls Try.prog 70 #[.slice a1 n c1, .slice a2 n c2] w fun e w' => e = .returned (.bool true) ∧ Blw w w' := by
  have H1 : Hid (KAt 3 X w a1 n F) := h1
  have H2 : Hid (KAt 3 Y w a2 n F) := h2
  have hn := h1.1
  clear h1 h2
  have hne : ((n : Int) != (n : Int)) = false := by simp
  go_enter Try.func70, Try.ntmps70
  go_wp2_with fail
  go_loopw [5] (fun i wr => ∃ k : Nat, k ≤ n ∧ i = .int .i64 k ∧ Blw w wr) (fun i _ => n - (intOf i).toNat)
  case atStart => exact ⟨0, Nat.zero_le _, rfl, Blw.refl _⟩
  case round =>
    obtain ⟨k, hk, rfl, hb⟩ := hrel
    by_cases hlt : k < n
    · have hlt' : (k : Int) < n := by omega
      obtain ⟨b1, o1, rfl, -, g1⟩ := (H1.out.blw hb).2 k hlt
      obtain ⟨b2, o2, rfl, -, g2⟩ := (H2.out.blw hb).2 k hlt
      generalize hFk : F k = Fk at *
      have P0 : ∀ w', Blw wr w' → w'.cell? ⟨b1, o1 + k * 3, none⟩ = some (.int .i64 (Fk 0)) := fun w' hh => hh.cell (g1 0 (by omega))
      have Q0 : ∀ w', Blw wr w' → w'.cell? ⟨b2, o2 + k * 3, none⟩ = some (.int .i64 (Fk 0)) := fun w' hh => hh.cell (g2 0 (by omega))
      have P1 : ∀ w', Blw wr w' → w'.cell? ⟨b1, o1 + k * 3 + 1, none⟩ = some (.int .i64 (Fk 1)) := fun w' hh => hh.cell (g1 1 (by omega))
      have Q1 : ∀ w', Blw wr w' → w'.cell? ⟨b2, o2 + k * 3 + 1, none⟩ = some (.int .i64 (Fk 1)) := fun w' hh => hh.cell (g2 1 (by omega))
      have P2 : ∀ w', Blw wr w' → w'.cell? ⟨b1, o1 + k * 3 + 2, none⟩ = some (.int .i64 (Fk 2)) := fun w' hh => hh.cell (g1 2 (by omega))
      have Q2 : ∀ w', Blw wr w' → w'.cell? ⟨b2, o2 + k * 3 + 2, none⟩ = some (.int .i64 (Fk 2)) := fun w' hh => hh.cell (g2 2 (by omega))
      have HB : Hid (Blw w wr) := hb
      clear g1 g2 H1 H2 hb hFk
      go_wp2_with fail
      go_region_held3 (fun w' => Blw wr w') ((first | exact (Blw.refl _).drew | assumption | exact Blw.trans (by assumption) (by assumption))) (first
        | (go_at_call 141; refine (eqInsS1_same (Fk 0) (Fk 1) (Fk 2) _).mono ?_; rintro e w7 ⟨rfl, hb7⟩))
      all_goals go_wp2
      all_goals go_roundw
      all_goals first | exact ⟨k + 1, by omega, by go_num, HB.out.trans (by assumption)⟩ | (simp [intOf]; omega)
    · obtain rfl : k = n := by omega
      go_wp2
      go_ret
      exact ⟨rfl, hb⟩
set_option maxHeartbeats 3200000 in
theorem markInsS_any (ao : Option Addr) (c n : Nat) (F : Nat → Nat → Int) (X : Nat → Prop) (k : Int) (w : World) (h1 : 0 ≤ k) (h2 : k + 3 * n ≤ 9223372036854775807) (h : KOwn 3 X w ao n F) :
    Calls Try.prog 77 #[.slice ao n c, .int .i64 k] w fun e w' => e = .returned (.int .i64 (k + 3 * n)) ∧ KOwn 3 X w' ao n (mkK 3 k) ∧ Mod X w w' := by
  have H : Hid (KOwn 3 X w ao n F) := h
  have hn := h.1
  clear h
  go_enter Try.func77, Try.ntmps77
  go_wp2_with fail
  go_loopw [1, 5] (fun kv iv wr => ∃ i : Nat, i ≤ n ∧ iv = .int .i64 i ∧ kv = .int .i64 (k + 3 * i) ∧ KOwn 3 X wr ao n (upK (mkK 3 k) F i) ∧ Mod X w wr) (fun _ i _ => n - (intOf i).toNat)
  case atStart => exact ⟨0, Nat.zero_le _, rfl, by simp, by rw [upK_zero]; exact H.out, Mod.refl _ _⟩
  case round =>
    obtain ⟨i, hi, rfl, rfl, S, hm⟩ := hrel
    clear H
    by_cases hlt : i < n
    · have hlt' : (i : Int) < n := by omega
      obtain ⟨b, hx, rfl, r⟩ := S.2 (by omega)
      have p0 := k_get r hlt (c := 0) (by omega)
      have f0 := r.frozen (i * 3)
      have p1 := k_get r hlt (c := 1) (by omega)
      have f1 := r.frozen (i * 3 + 1)
      have p2 := k_get r hlt (c := 2) (by omega)
      have f2 := r.frozen (i * 3 + 2)
      rw [Nat.add_zero] at p0
      have HR : Hid (Row (((wr.setCell ⟨b, i * 3, none⟩ (.int .i64 (k + 3 * i))).setCell ⟨b, i * 3 + 1, none⟩ (.int .i64 (k + 3 * i + 1))).setCell ⟨b, i * 3 + 2, none⟩ (.int .i64 (k + 3 * i + 1 + 1))) b (n * 3) (kc 3 (upK (mkK 3 k) F (i + 1)))) := by
        have hq := (setK (setK (setK r i (c := 0) (by omega) (k + 3 * i)) i (c := 1) (by omega) (k + 3 * i + 1)) i (c := 2) (by omega) (k + 3 * i + 1 + 1))
        rw [Nat.add_zero] at hq
        refine hq.congr (fun t ht => ?_)
        have ht2 : t % 3 < 3 := Nat.mod_lt _ (by omega)
        unfold kc updF upK mkK
        by_cases e : t / 3 = i
        · simp only [e, true_and, Nat.lt_succ_self, if_true]
          rcases (show t % 3 = 0 ∨ t % 3 = 1 ∨ t % 3 = 2 by omega) with e2 | e2 | e2 <;> simp [e2] <;> omega
        · have e3 : (t / 3 < i + 1) = (t / 3 < i) := by simp; omega
          simp [e, e3]
      have HM : Hid (Mod X w (((wr.setCell ⟨b, i * 3, none⟩ (.int .i64 (k + 3 * i))).setCell ⟨b, i * 3 + 1, none⟩ (.int .i64 (k + 3 * i + 1))).setCell ⟨b, i * 3 + 2, none⟩ (.int .i64 (k + 3 * i + 1 + 1)))) := (((hm.trans (Mod.setCell _ (p := ⟨b, i * 3, none⟩) hx _)).trans (Mod.setCell _ (p := ⟨b, i * 3 + 1, none⟩) hx _)).trans (Mod.setCell _ (p := ⟨b, i * 3 + 2, none⟩) hx _))
      clear S hm r
      have ee : k + 3 * (i : Int) + 1 + 1 + 1 = k + 3 * ((i + 1 : Nat) : Int) := by omega
      go_wp2
      go_roundw
      case rel => exact ⟨i + 1, by omega, by go_num, by congr 1 <;> omega, ⟨hn, fun _ => ⟨b, hx, rfl, HR.out⟩⟩, HM.out⟩
      case measure => simp [intOf]; omega
    · obtain rfl : i = n := by omega
      go_wp2
      go_ret
      exact ⟨rfl, upK_all (by omega) S, hm⟩
theorem KAt.st {K : Nat} {Y : Nat → Prop} {W : World} {ao : Option Addr} {n : Nat} {F : Nat → Nat → Int} (h : KAt K Y W ao n F) (hY : ∀ b, Y b → b < W.heap.size) : St Y (fun W => KAt K Y W ao n F) W :=
  ⟨hY, fun Z w' hm hx => h.mod hm hx⟩
theorem KOwn.st {K : Nat} {Y : Nat → Prop} {W : World} {ao : Option Addr} {n : Nat} {F : Nat → Nat → Int} (h : KOwn K Y W ao n F) (hY : ∀ b, Y b → b < W.heap.size) : St Y (fun W => KOwn K Y W ao n F) W :=
  ⟨hY, fun Z w' hm hx => h.mod hm hx⟩
theorem kown3 {X : Nat → Prop} {W : World} {z n : Nat} {F : Nat → Nat → Int} (h : Row W z (n * 3) (kc 3 F)) (hn : n ≤ 9223372036854775807) (hz : X z) : KOwn 3 X W (some ⟨z, 0, none⟩) n F :=
  ⟨hn, fun _ => ⟨z, hz, rfl, h⟩⟩
theorem row_ints {X : Nat → Prop} {W : World} {z n : Nat} {f : Nat → Int} (h : Row W z n (fun t => .int .i64 (f t))) (hn : n ≤ 9223372036854775807) (hz : X z) : IntsOwn X W (some ⟨z, 0, none⟩) n f :=
  ⟨hn, fun _ => ⟨z, hz, rfl, h⟩⟩
end Go.Proofs.Ytbpdopcdhnemfaa
/- Instructions that are drawn. -/
namespace Go.Proofs.Ytbpdopcdhnemfaa
open Go.RowKit
set_option linter.unusedSimpArgs false
set_option linter.unusedVariables false
theorem ints_lit (W : World) (l : List Int) (hl : l.length ≤ 1000) : IntsAt (fun b => b = W.heap.size) (W.alloc (.cells (l.map (Value.int .i64)).toArray 3)) (some ⟨W.heap.size, 0, none⟩) l.length (fun i => l.getD i 0) := by
  have r : Row (W.alloc (.cells (l.map (Value.int .i64)).toArray 3)) W.heap.size l.length (fun i => .int .i64 (l.getD i 0)) := ⟨_, 3, heap_alloc_new _ _, by simp, fun i hi => by simp [List.getD, hi]⟩
  exact ⟨by omega, fun i hi => ⟨W.heap.size, 0, rfl, rfl, by rw [Nat.zero_add, r.cell hi]⟩⟩
abbrev i3 (a b c : Int) : Nat → Value := fun i => if i = 0 then .int .i64 a else if i = 1 then .int .i64 b else .int .i64 c
/-- A box of an instruction at zi, while the cursor at C goes on. -/
structure Ib (Y : Nat → Prop) (w wr : World) (C k zi : Nat) : Prop where
  mod : Mod (fun b => b = C) w wr
  cur : Cur Y wr C k
  ex : ∃ a b c : Int, Row wr zi 3 (i3 a b c)
  rz : Row wr w.heap.size 3 (i3 0 0 0)
theorem Ib.cur' {Y : Nat → Prop} {w wr w1 : World} {C k k' zi : Nat} (h : Ib Y w wr C k zi) (hC : C < w.heap.size) (hz : w.heap.size < zi) (hc : Cur Y w1 C k') (hm : Mod (fun b => b = C) wr w1) : Ib Y w w1 C k' zi := by
  obtain ⟨a, b, c, r⟩ := h.ex
  exact ⟨h.mod.trans hm, hc, ⟨a, b, c, r.mod hm (by omega)⟩, h.rz.mod hm (by omega)⟩
theorem Ib.blw {Y : Nat → Prop} {w wr w1 : World} {C k zi : Nat} (h : Ib Y w wr C k zi) (hb : Blw wr w1) : Ib Y w w1 C k zi := by
  obtain ⟨a, b, c, r⟩ := h.ex
  exact ⟨h.mod.trans (hb.mod _), h.cur.blw hb, ⟨a, b, c, r.blw hb⟩, h.rz.blw hb⟩
theorem Ib.newer {Y : Nat → Prop} {w wr w1 : World} {C k zi : Nat} (h : Ib Y w wr C k zi) (hC : C < w.heap.size) (hY : ∀ b, Y b → b < w.heap.size ∧ b ≠ C) (hz : w.heap.size < zi) (hm : Mod (fun b => b = zi) wr w1) {a b c : Int} (hr : Row w1 zi 3 (i3 a b c)) : Ib Y w w1 C k zi :=
  ⟨h.mod.newerC hm (fun i e => by omega), h.cur.mod hm (by omega) (fun b hb e => by have := hY b hb; omega), ⟨a, b, c, hr⟩, h.rz.mod hm (by omega)⟩
set_option maxRecDepth 10000 in
set_option maxHeartbeats 6400000 in
theorem ins_any (Y : Nat → Prop) (C k : Nat) (w : World) (hk : k ≤ 800000) (hY : ∀ b, Y b → b < w.heap.size ∧ b ≠ C) (h : Cur Y w C k) :
    Calls Try.prog 171 #[.pointer (some ⟨C, 0, none⟩)] w fun e w' => ∃ a b c : Int, e = .returned (.agg #[.int .i64 a, .int .i64 b, .int .i64 c]) ∧ Cur Y w' C (k + 20) ∧ Mod (fun b => b = C) w w' := by
  have hC := h.lt
  have HA : Hid (Blw w (w.alloc (.cells #[.int .i64 0, .int .i64 0, .int .i64 0] 170))) := (Blw.refl _).alloc _
  have HZ : Hid (Row (w.alloc (.cells #[.int .i64 0, .int .i64 0, .int .i64 0] 170)) w.heap.size 3 (i3 0 0 0)) := box3 w _ _ _ 170
  have HS : Hid ((w.alloc (.cells #[.int .i64 0, .int .i64 0, .int .i64 0] 170)).heap.size = w.heap.size + 1) := by show _ = _; simp
  have HC : Hid (Cur Y w C k) := h
  clear h
  go_enter Try.func171, Try.ntmps171
  go_upto_region 1 with fail
  generalize w.alloc (.cells #[.int .i64 0, .int .i64 0, .int .i64 0] 170) = w1 at *
  have hA : Blw w1 (w1.alloc (.cells #[.int .i64 1, .int .i64 2, .int .i64 2, .int .i64 3, .int .i64 4, .int .i64 4, .int .i64 5, .int .i64 6, .int .i64 6, .int .i64 7] 3)) := (Blw.refl _).alloc _
  have HL : Hid (IntsAt (fun b => b = w1.heap.size) (w1.alloc (.cells #[.int .i64 1, .int .i64 2, .int .i64 2, .int .i64 3, .int .i64 4, .int .i64 4, .int .i64 5, .int .i64 6, .int .i64 6, .int .i64 7] 3)) (some ⟨w1.heap.size, 0, none⟩) 10 (fun i => ([1, 2, 2, 3, 4, 4, 5, 6, 6, 7] : List Int).getD i 0)) := ints_lit w1 [1, 2, 2, 3, 4, 4, 5, 6, 6, 7] (by simp)
  have hs := HS.out
  have HC1 : Hid (Cur Y (w1.alloc (.cells #[.int .i64 1, .int .i64 2, .int .i64 2, .int .i64 3, .int .i64 4, .int .i64 4, .int .i64 5, .int .i64 6, .int .i64 6, .int .i64 7] 3)) C k) := (HC.out.blw HA.out).blw hA
  have HM1 : Hid (Mod (fun b => b = C) w (w1.alloc (.cells #[.int .i64 1, .int .i64 2, .int .i64 2, .int .i64 3, .int .i64 4, .int .i64 4, .int .i64 5, .int .i64 6, .int .i64 6, .int .i64 7] 3))) := (HA.out.trans hA).mod _
  have HZ1 : Hid (Row (w1.alloc (.cells #[.int .i64 1, .int .i64 2, .int .i64 2, .int .i64 3, .int .i64 4, .int .i64 4, .int .i64 5, .int .i64 6, .int .i64 6, .int .i64 7] 3)) w.heap.size 3 (i3 0 0 0)) := HZ.out.blw hA
  have HS1 : Hid (w.heap.size < (w1.alloc (.cells #[.int .i64 1, .int .i64 2, .int .i64 2, .int .i64 3, .int .i64 4, .int .i64 4, .int .i64 5, .int .i64 6, .int .i64 6, .int .i64 7] 3)).heap.size) := by have := hA.size; show _ < _; omega
  clear hA HC HA HZ hs
  go_wp2_with fail
  refine (among_any Y _ C k _ 10 10 _ _ (by omega) (by omega) HL.out (fun b hb => by have := HS.out; omega) HC1.out).mono ?_
  rintro e w2 ⟨x, rfl, hc, hm⟩
  have hA2 : Blw w2 (w2.alloc (.cells #[.int .i64 x, .int .i64 0, .int .i64 0] 170)) := (Blw.refl _).alloc _
  have hz : w.heap.size < w2.heap.size := Nat.lt_of_lt_of_le HS1.out hm.size
  have IB : Hid (Ib Y w (w2.alloc (.cells #[.int .i64 x, .int .i64 0, .int .i64 0] 170)) C (k + 2) w2.heap.size) := ⟨(HM1.out.trans hm).trans (hA2.mod _), hc.blw hA2, ⟨x, 0, 0, box3 w2 _ _ _ 170⟩, (HZ1.out.mod hm (by omega)).blw hA2⟩
  obtain ⟨p0, -, -⟩ := get3 (box3 w2 (.int .i64 x) (.int .i64 0) (.int .i64 0) 170)
  clear hc hm hA2 HL HC1 HM1 HZ1 HS1 HS
  go_upto_region 3 with fail
  generalize w2.alloc (.cells #[.int .i64 x, .int .i64 0, .int .i64 0] 170) = w3 at *
  generalize w2.heap.size = zi at *
  clear p0
  by_cases h1 : x = 1
  · subst h1
    go_wp2_with fail
    refine (pick_any Y C (k + 2) 9 _ (by omega) (by omega) IB.out.cur).mono ?_
    rintro e w4 ⟨y, rfl, -, hcy, hmy⟩
    have I4 : Hid (Ib Y w w4 C ((k + 2) + 2) zi) := IB.out.cur' hC hz hcy hmy
    clear IB hcy hmy
    have I4a : Hid (Ib Y w (w4.alloc (.cells #[.int .i64 0, .int .i64 1, .int .i64 3, .int .i64 65535, .int .i64 (y : Int)] 3)) C (k + 2 + 2) zi) := I4.out.blw ((Blw.refl _).alloc _)
    have hlx5 : Hid (IntsAt (fun b => b = w4.heap.size) (w4.alloc (.cells #[.int .i64 0, .int .i64 1, .int .i64 3, .int .i64 65535, .int .i64 (y : Int)] 3)) (some ⟨w4.heap.size, 0, none⟩) 5 (fun i => ([0, 1, 3, 65535, (y : Int)] : List Int).getD i 0)) := ints_lit w4 [0, 1, 3, 65535, (y : Int)] (by simp)
    have hsx5 : C < w4.heap.size := Nat.lt_of_lt_of_le hC I4.out.mod.size
    clear I4
    go_wp2_with fail
    refine (among_any Y _ C (k + 2 + 2) _ 5 5 _ _ (by omega) (by omega) hlx5.out (fun b hb => by omega) I4a.out.cur).mono ?_
    rintro e w5 ⟨x5, rfl, hcx5, hmx5⟩
    have I5 : Hid (Ib Y w w5 C ((k + 2 + 2) + 2) zi) := I4a.out.cur' hC hz hcx5 hmx5
    clear I4a hlx5 hsx5 hcx5 hmx5
    obtain ⟨a, b, c, hr⟩ := I5.out.ex
    obtain ⟨q0, q1, q2⟩ := get3 hr
    have f2 := hr.frozen 2
    have HN : Hid (Ib Y w (w5.setCell ⟨zi, 2, none⟩ (.int .i64 x5)) C _ zi) := I5.out.newer hC hY hz (Mod.setCell (X := fun b => b = zi) _ (p := ⟨zi, 2, none⟩) rfl _) (a := a) (b := b) (c := x5) (set3_2 hr _)
    have I0 : Hid (Ib Y w (w5.setCell ⟨zi, 2, none⟩ (.int .i64 x5)) C (k + 8) zi) := ⟨HN.out.mod, HN.out.cur.le (by omega), HN.out.ex, HN.out.rz⟩
    clear hr I5 HN
    go_wp2_with fail
    try clear q0 q1 q2
    try clear f1
    try clear f2
    generalize (w5.setCell ⟨zi, 2, none⟩ (.int .i64 x5)) = wc at *
    refine (one_any Y C (k + 8) 60 _ (by omega) (by omega) I0.out.cur).mono ?_
    rintro e w6 ⟨r, rfl, hc, hm⟩
    have I1 : Hid (Ib Y w w6 C (k + 8 + 2) zi) := I0.out.cur' hC hz hc hm
    clear I0 hc hm
    cases r
    · obtain ⟨a, b, c, hr⟩ := I1.out.ex
      obtain ⟨q0, q1, q2⟩ := get3 hr
      obtain ⟨t0, t1, t2⟩ := get3 I1.out.rz
      have g0 := I1.out.rz.frozen 0; have g1 := I1.out.rz.frozen 1; have g2 := I1.out.rz.frozen 2
      have m2 := ((Mod.setCell (X := fun b => b = w.heap.size) w6 (p := ⟨w.heap.size, 0, none⟩) rfl (.int .i64 a)).trans (Mod.setCell (X := fun b => b = w.heap.size) _ (p := ⟨w.heap.size, 1, none⟩) rfl (.int .i64 b))).trans (Mod.setCell (X := fun b => b = w.heap.size) _ (p := ⟨w.heap.size, 2, none⟩) rfl (.int .i64 c))
      have HF : Hid (_ ∧ _) := And.intro ((I1.out.cur.mod m2 (by omega) (fun b hb e => by have := hY b hb; omega)).le (by omega : (k + 8 + 2) ≤ k + 20)) (I1.out.mod.newerC m2 (fun i e => by omega))
      clear m2 hr I1
      go_wp2
      refine bodyPost_ret (v := .agg #[.int .i64 a, .int .i64 b, .int .i64 c]) (by simp [results, Try.results171, go_sem, t0, t1, t2]) rfl ⟨a, b, c, rfl, HF.out.1, HF.out.2⟩
    · skip
      go_wp2_with fail
      refine (pick_any Y C (k + 8 + 2) 9 _ (by omega) (by omega) I1.out.cur).mono ?_
      rintro e w7 ⟨y7, rfl, -, hcy7, hmy7⟩
      have I2 : Hid (Ib Y w w7 C ((k + 8 + 2) + 2) zi) := I1.out.cur' hC hz hcy7 hmy7
      clear I1 hcy7 hmy7
      have I2a : Hid (Ib Y w (w7.alloc (.cells #[.int .i64 (-1), .int .i64 7, .int .i64 8] 3)) C (k + 8 + 2 + 2) zi) := I2.out.blw ((Blw.refl _).alloc _)
      have hlx8 : Hid (IntsAt (fun b => b = w7.heap.size) (w7.alloc (.cells #[.int .i64 (-1), .int .i64 7, .int .i64 8] 3)) (some ⟨w7.heap.size, 0, none⟩) 3 (fun i => ([-1, 7, 8] : List Int).getD i 0)) := ints_lit w7 [-1, 7, 8] (by simp)
      have hsx8 : C < w7.heap.size := Nat.lt_of_lt_of_le hC I2.out.mod.size
      clear I2
      go_wp2_with fail
      refine (among_any Y _ C (k + 8 + 2 + 2) _ 3 3 _ _ (by omega) (by omega) hlx8.out (fun b hb => by omega) I2a.out.cur).mono ?_
      rintro e w8 ⟨x8, rfl, hcx8, hmx8⟩
      have I3 : Hid (Ib Y w w8 C ((k + 8 + 2 + 2) + 2) zi) := I2a.out.cur' hC hz hcx8 hmx8
      clear I2a hlx8 hsx8 hcx8 hmx8
      have I3a : Hid (Ib Y w (w8.alloc (.cells #[.int .i64 (-1), .int .i64 16, .int .i64 65536] 3)) C (k + 8 + 2 + 2 + 2) zi) := I3.out.blw ((Blw.refl _).alloc _)
      have hlx9 : Hid (IntsAt (fun b => b = w8.heap.size) (w8.alloc (.cells #[.int .i64 (-1), .int .i64 16, .int .i64 65536] 3)) (some ⟨w8.heap.size, 0, none⟩) 3 (fun i => ([-1, 16, 65536] : List Int).getD i 0)) := ints_lit w8 [-1, 16, 65536] (by simp)
      have hsx9 : C < w8.heap.size := Nat.lt_of_lt_of_le hC I3.out.mod.size
      clear I3
      go_wp2_with fail
      refine (among_any Y _ C (k + 8 + 2 + 2 + 2) _ 3 3 _ _ (by omega) (by omega) hlx9.out (fun b hb => by omega) I3a.out.cur).mono ?_
      rintro e w9 ⟨x9, rfl, hcx9, hmx9⟩
      have I4 : Hid (Ib Y w w9 C ((k + 8 + 2 + 2 + 2) + 2) zi) := I3a.out.cur' hC hz hcx9 hmx9
      clear I3a hlx9 hsx9 hcx9 hmx9
      obtain ⟨a0, b0, c0, hr0⟩ := I4.out.ex
      obtain ⟨q0, q1, q2⟩ := get3 hr0
      have f0 := hr0.frozen 0; have f1 := hr0.frozen 1; have f2 := hr0.frozen 2
      have hmz := ((Mod.setCell (X := fun b => b = zi) w9 (p := ⟨zi, 0, none⟩) rfl (.int .i64 (y7 : Int))).trans (Mod.setCell (X := fun b => b = zi) _ (p := ⟨zi, 1, none⟩) rfl (.int .i64 x8))).trans (Mod.setCell (X := fun b => b = zi) _ (p := ⟨zi, 2, none⟩) rfl (.int .i64 x9))
      have I5 : Hid (Ib Y w (((w9.setCell ⟨zi, 0, none⟩ (.int .i64 (y7 : Int))).setCell ⟨zi, 1, none⟩ (.int .i64 x8)).setCell ⟨zi, 2, none⟩ (.int .i64 x9)) C (k + 8 + 2 + 2 + 2 + 2) zi) := I4.out.newer hC hY hz hmz (a := (y7 : Int)) (b := x8) (c := x9) (set3_2 (set3_1 (set3_0 hr0 _) _) _)
      clear hmz hr0 I4
      go_upto_region 13 with fail
      clear q0 q1 q2 f0 f1 f2
      generalize (((w9.setCell ⟨zi, 0, none⟩ (.int .i64 (y7 : Int))).setCell ⟨zi, 1, none⟩ (.int .i64 x8)).setCell ⟨zi, 2, none⟩ (.int .i64 x9)) = w10 at *
      obtain ⟨a, b, c, hr⟩ := I5.out.ex
      obtain ⟨q0, q1, q2⟩ := get3 hr
      obtain ⟨t0, t1, t2⟩ := get3 I5.out.rz
      have g0 := I5.out.rz.frozen 0; have g1 := I5.out.rz.frozen 1; have g2 := I5.out.rz.frozen 2
      have m2 := ((Mod.setCell (X := fun b => b = w.heap.size) w10 (p := ⟨w.heap.size, 0, none⟩) rfl (.int .i64 a)).trans (Mod.setCell (X := fun b => b = w.heap.size) _ (p := ⟨w.heap.size, 1, none⟩) rfl (.int .i64 b))).trans (Mod.setCell (X := fun b => b = w.heap.size) _ (p := ⟨w.heap.size, 2, none⟩) rfl (.int .i64 c))
      have HF : Hid (_ ∧ _) := And.intro ((I5.out.cur.mod m2 (by omega) (fun b hb e => by have := hY b hb; omega)).le (by omega : (k + 8 + 2 + 2 + 2 + 2) ≤ k + 20)) (I5.out.mod.newerC m2 (fun i e => by omega))
      clear m2 hr I5
      go_wp2
      refine bodyPost_ret (v := .agg #[.int .i64 a, .int .i64 b, .int .i64 c]) (by simp [results, Try.results171, go_sem, t0, t1, t2]) rfl ⟨a, b, c, rfl, HF.out.1, HF.out.2⟩
  have n1 : (x == 1) = false := by simpa using h1
  by_cases h2 : x = 2
  · subst h2
    clear n1 h1
    go_wp2_with fail
    refine (pick_any Y C (k + 2) 9 _ (by omega) (by omega) IB.out.cur).mono ?_
    rintro e w4 ⟨y, rfl, -, hcy, hmy⟩
    have I4 : Hid (Ib Y w w4 C ((k + 2) + 2) zi) := IB.out.cur' hC hz hcy hmy
    clear IB hcy hmy
    have I4a : Hid (Ib Y w (w4.alloc (.cells #[.int .i64 0, .int .i64 1, .int .i64 3, .int .i64 65535, .int .i64 (y : Int)] 3)) C (k + 2 + 2) zi) := I4.out.blw ((Blw.refl _).alloc _)
    have hlx5 : Hid (IntsAt (fun b => b = w4.heap.size) (w4.alloc (.cells #[.int .i64 0, .int .i64 1, .int .i64 3, .int .i64 65535, .int .i64 (y : Int)] 3)) (some ⟨w4.heap.size, 0, none⟩) 5 (fun i => ([0, 1, 3, 65535, (y : Int)] : List Int).getD i 0)) := ints_lit w4 [0, 1, 3, 65535, (y : Int)] (by simp)
    have hsx5 : C < w4.heap.size := Nat.lt_of_lt_of_le hC I4.out.mod.size
    clear I4
    go_wp2_with fail
    refine (among_any Y _ C (k + 2 + 2) _ 5 5 _ _ (by omega) (by omega) hlx5.out (fun b hb => by omega) I4a.out.cur).mono ?_
    rintro e w5 ⟨x5, rfl, hcx5, hmx5⟩
    have I5 : Hid (Ib Y w w5 C ((k + 2 + 2) + 2) zi) := I4a.out.cur' hC hz hcx5 hmx5
    clear I4a hlx5 hsx5 hcx5 hmx5
    obtain ⟨a, b, c, hr⟩ := I5.out.ex
    obtain ⟨q0, q1, q2⟩ := get3 hr
    have f2 := hr.frozen 2
    have HN : Hid (Ib Y w (w5.setCell ⟨zi, 2, none⟩ (.int .i64 x5)) C _ zi) := I5.out.newer hC hY hz (Mod.setCell (X := fun b => b = zi) _ (p := ⟨zi, 2, none⟩) rfl _) (a := a) (b := b) (c := x5) (set3_2 hr _)
    have I0 : Hid (Ib Y w (w5.setCell ⟨zi, 2, none⟩ (.int .i64 x5)) C (k + 8) zi) := ⟨HN.out.mod, HN.out.cur.le (by omega), HN.out.ex, HN.out.rz⟩
    clear hr I5 HN
    go_wp2_with fail
    try clear q0 q1 q2
    try clear f1
    try clear f2
    generalize (w5.setCell ⟨zi, 2, none⟩ (.int .i64 x5)) = wc at *
    refine (one_any Y C (k + 8) 60 _ (by omega) (by omega) I0.out.cur).mono ?_
    rintro e w6 ⟨r, rfl, hc, hm⟩
    have I1 : Hid (Ib Y w w6 C (k + 8 + 2) zi) := I0.out.cur' hC hz hc hm
    clear I0 hc hm
    cases r
    · obtain ⟨a, b, c, hr⟩ := I1.out.ex
      obtain ⟨q0, q1, q2⟩ := get3 hr
      obtain ⟨t0, t1, t2⟩ := get3 I1.out.rz
      have g0 := I1.out.rz.frozen 0; have g1 := I1.out.rz.frozen 1; have g2 := I1.out.rz.frozen 2
      have m2 := ((Mod.setCell (X := fun b => b = w.heap.size) w6 (p := ⟨w.heap.size, 0, none⟩) rfl (.int .i64 a)).trans (Mod.setCell (X := fun b => b = w.heap.size) _ (p := ⟨w.heap.size, 1, none⟩) rfl (.int .i64 b))).trans (Mod.setCell (X := fun b => b = w.heap.size) _ (p := ⟨w.heap.size, 2, none⟩) rfl (.int .i64 c))
      have HF : Hid (_ ∧ _) := And.intro ((I1.out.cur.mod m2 (by omega) (fun b hb e => by have := hY b hb; omega)).le (by omega : (k + 8 + 2) ≤ k + 20)) (I1.out.mod.newerC m2 (fun i e => by omega))
      clear m2 hr I1
      go_wp2
      refine bodyPost_ret (v := .agg #[.int .i64 a, .int .i64 b, .int .i64 c]) (by simp [results, Try.results171, go_sem, t0, t1, t2]) rfl ⟨a, b, c, rfl, HF.out.1, HF.out.2⟩
    · skip
      go_wp2_with fail
      refine (pick_any Y C (k + 8 + 2) 9 _ (by omega) (by omega) I1.out.cur).mono ?_
      rintro e w7 ⟨y7, rfl, -, hcy7, hmy7⟩
      have I2 : Hid (Ib Y w w7 C ((k + 8 + 2) + 2) zi) := I1.out.cur' hC hz hcy7 hmy7
      clear I1 hcy7 hmy7
      have I2a : Hid (Ib Y w (w7.alloc (.cells #[.int .i64 (-1), .int .i64 7, .int .i64 8] 3)) C (k + 8 + 2 + 2) zi) := I2.out.blw ((Blw.refl _).alloc _)
      have hlx8 : Hid (IntsAt (fun b => b = w7.heap.size) (w7.alloc (.cells #[.int .i64 (-1), .int .i64 7, .int .i64 8] 3)) (some ⟨w7.heap.size, 0, none⟩) 3 (fun i => ([-1, 7, 8] : List Int).getD i 0)) := ints_lit w7 [-1, 7, 8] (by simp)
      have hsx8 : C < w7.heap.size := Nat.lt_of_lt_of_le hC I2.out.mod.size
      clear I2
      go_wp2_with fail
      refine (among_any Y _ C (k + 8 + 2 + 2) _ 3 3 _ _ (by omega) (by omega) hlx8.out (fun b hb => by omega) I2a.out.cur).mono ?_
      rintro e w8 ⟨x8, rfl, hcx8, hmx8⟩
      have I3 : Hid (Ib Y w w8 C ((k + 8 + 2 + 2) + 2) zi) := I2a.out.cur' hC hz hcx8 hmx8
      clear I2a hlx8 hsx8 hcx8 hmx8
      have I3a : Hid (Ib Y w (w8.alloc (.cells #[.int .i64 (-1), .int .i64 16, .int .i64 65536] 3)) C (k + 8 + 2 + 2 + 2) zi) := I3.out.blw ((Blw.refl _).alloc _)
      have hlx9 : Hid (IntsAt (fun b => b = w8.heap.size) (w8.alloc (.cells #[.int .i64 (-1), .int .i64 16, .int .i64 65536] 3)) (some ⟨w8.heap.size, 0, none⟩) 3 (fun i => ([-1, 16, 65536] : List Int).getD i 0)) := ints_lit w8 [-1, 16, 65536] (by simp)
      have hsx9 : C < w8.heap.size := Nat.lt_of_lt_of_le hC I3.out.mod.size
      clear I3
      go_wp2_with fail
      refine (among_any Y _ C (k + 8 + 2 + 2 + 2) _ 3 3 _ _ (by omega) (by omega) hlx9.out (fun b hb => by omega) I3a.out.cur).mono ?_
      rintro e w9 ⟨x9, rfl, hcx9, hmx9⟩
      have I4 : Hid (Ib Y w w9 C ((k + 8 + 2 + 2 + 2) + 2) zi) := I3a.out.cur' hC hz hcx9 hmx9
      clear I3a hlx9 hsx9 hcx9 hmx9
      obtain ⟨a0, b0, c0, hr0⟩ := I4.out.ex
      obtain ⟨q0, q1, q2⟩ := get3 hr0
      have f0 := hr0.frozen 0; have f1 := hr0.frozen 1; have f2 := hr0.frozen 2
      have hmz := ((Mod.setCell (X := fun b => b = zi) w9 (p := ⟨zi, 0, none⟩) rfl (.int .i64 (y7 : Int))).trans (Mod.setCell (X := fun b => b = zi) _ (p := ⟨zi, 1, none⟩) rfl (.int .i64 x8))).trans (Mod.setCell (X := fun b => b = zi) _ (p := ⟨zi, 2, none⟩) rfl (.int .i64 x9))
      have I5 : Hid (Ib Y w (((w9.setCell ⟨zi, 0, none⟩ (.int .i64 (y7 : Int))).setCell ⟨zi, 1, none⟩ (.int .i64 x8)).setCell ⟨zi, 2, none⟩ (.int .i64 x9)) C (k + 8 + 2 + 2 + 2 + 2) zi) := I4.out.newer hC hY hz hmz (a := (y7 : Int)) (b := x8) (c := x9) (set3_2 (set3_1 (set3_0 hr0 _) _) _)
      clear hmz hr0 I4
      go_upto_region 13 with fail
      clear q0 q1 q2 f0 f1 f2
      generalize (((w9.setCell ⟨zi, 0, none⟩ (.int .i64 (y7 : Int))).setCell ⟨zi, 1, none⟩ (.int .i64 x8)).setCell ⟨zi, 2, none⟩ (.int .i64 x9)) = w10 at *
      obtain ⟨a, b, c, hr⟩ := I5.out.ex
      obtain ⟨q0, q1, q2⟩ := get3 hr
      obtain ⟨t0, t1, t2⟩ := get3 I5.out.rz
      have g0 := I5.out.rz.frozen 0; have g1 := I5.out.rz.frozen 1; have g2 := I5.out.rz.frozen 2
      have m2 := ((Mod.setCell (X := fun b => b = w.heap.size) w10 (p := ⟨w.heap.size, 0, none⟩) rfl (.int .i64 a)).trans (Mod.setCell (X := fun b => b = w.heap.size) _ (p := ⟨w.heap.size, 1, none⟩) rfl (.int .i64 b))).trans (Mod.setCell (X := fun b => b = w.heap.size) _ (p := ⟨w.heap.size, 2, none⟩) rfl (.int .i64 c))
      have HF : Hid (_ ∧ _) := And.intro ((I5.out.cur.mod m2 (by omega) (fun b hb e => by have := hY b hb; omega)).le (by omega : (k + 8 + 2 + 2 + 2 + 2) ≤ k + 20)) (I5.out.mod.newerC m2 (fun i e => by omega))
      clear m2 hr I5
      go_wp2
      refine bodyPost_ret (v := .agg #[.int .i64 a, .int .i64 b, .int .i64 c]) (by simp [results, Try.results171, go_sem, t0, t1, t2]) rfl ⟨a, b, c, rfl, HF.out.1, HF.out.2⟩
  have n2 : (x == 2) = false := by simpa using h2
  by_cases h3 : x = 3
  · subst h3
    clear n1 h1 n2 h2
    go_wp2_with fail
    refine (pick_any Y C (k + 2) 8 _ (by omega) (by omega) IB.out.cur).mono ?_
    rintro e w4 ⟨y, rfl, -, hcy, hmy⟩
    have I4 : Hid (Ib Y w w4 C ((k + 2) + 2) zi) := IB.out.cur' hC hz hcy hmy
    clear IB hcy hmy
    obtain ⟨a, b, c, hr⟩ := I4.out.ex
    obtain ⟨q0, q1, q2⟩ := get3 hr
    have f1 := hr.frozen 1
    have HN : Hid (Ib Y w (w4.setCell ⟨zi, 1, none⟩ (.int .i64 (y : Int))) C _ zi) := I4.out.newer hC hY hz (Mod.setCell (X := fun b => b = zi) _ (p := ⟨zi, 1, none⟩) rfl _) (a := a) (b := (y : Int)) (c := c) (set3_1 hr _)
    have I0 : Hid (Ib Y w (w4.setCell ⟨zi, 1, none⟩ (.int .i64 (y : Int))) C (k + 8) zi) := ⟨HN.out.mod, HN.out.cur.le (by omega), HN.out.ex, HN.out.rz⟩
    clear hr I4 HN
    go_wp2_with fail
    try clear q0 q1 q2
    try clear f1
    try clear f2
    generalize (w4.setCell ⟨zi, 1, none⟩ (.int .i64 (y : Int))) = wc at *
    refine (one_any Y C (k + 8) 60 _ (by omega) (by omega) I0.out.cur).mono ?_
    rintro e w6 ⟨r, rfl, hc, hm⟩
    have I1 : Hid (Ib Y w w6 C (k + 8 + 2) zi) := I0.out.cur' hC hz hc hm
    clear I0 hc hm
    cases r
    · obtain ⟨a, b, c, hr⟩ := I1.out.ex
      obtain ⟨q0, q1, q2⟩ := get3 hr
      obtain ⟨t0, t1, t2⟩ := get3 I1.out.rz
      have g0 := I1.out.rz.frozen 0; have g1 := I1.out.rz.frozen 1; have g2 := I1.out.rz.frozen 2
      have m2 := ((Mod.setCell (X := fun b => b = w.heap.size) w6 (p := ⟨w.heap.size, 0, none⟩) rfl (.int .i64 a)).trans (Mod.setCell (X := fun b => b = w.heap.size) _ (p := ⟨w.heap.size, 1, none⟩) rfl (.int .i64 b))).trans (Mod.setCell (X := fun b => b = w.heap.size) _ (p := ⟨w.heap.size, 2, none⟩) rfl (.int .i64 c))
      have HF : Hid (_ ∧ _) := And.intro ((I1.out.cur.mod m2 (by omega) (fun b hb e => by have := hY b hb; omega)).le (by omega : (k + 8 + 2) ≤ k + 20)) (I1.out.mod.newerC m2 (fun i e => by omega))
      clear m2 hr I1
      go_wp2
      refine bodyPost_ret (v := .agg #[.int .i64 a, .int .i64 b, .int .i64 c]) (by simp [results, Try.results171, go_sem, t0, t1, t2]) rfl ⟨a, b, c, rfl, HF.out.1, HF.out.2⟩
    · skip
      go_wp2_with fail
      refine (pick_any Y C (k + 8 + 2) 9 _ (by omega) (by omega) I1.out.cur).mono ?_
      rintro e w7 ⟨y7, rfl, -, hcy7, hmy7⟩
      have I2 : Hid (Ib Y w w7 C ((k + 8 + 2) + 2) zi) := I1.out.cur' hC hz hcy7 hmy7
      clear I1 hcy7 hmy7
      have I2a : Hid (Ib Y w (w7.alloc (.cells #[.int .i64 (-1), .int .i64 7, .int .i64 8] 3)) C (k + 8 + 2 + 2) zi) := I2.out.blw ((Blw.refl _).alloc _)
      have hlx8 : Hid (IntsAt (fun b => b = w7.heap.size) (w7.alloc (.cells #[.int .i64 (-1), .int .i64 7, .int .i64 8] 3)) (some ⟨w7.heap.size, 0, none⟩) 3 (fun i => ([-1, 7, 8] : List Int).getD i 0)) := ints_lit w7 [-1, 7, 8] (by simp)
      have hsx8 : C < w7.heap.size := Nat.lt_of_lt_of_le hC I2.out.mod.size
      clear I2
      go_wp2_with fail
      refine (among_any Y _ C (k + 8 + 2 + 2) _ 3 3 _ _ (by omega) (by omega) hlx8.out (fun b hb => by omega) I2a.out.cur).mono ?_
      rintro e w8 ⟨x8, rfl, hcx8, hmx8⟩
      have I3 : Hid (Ib Y w w8 C ((k + 8 + 2 + 2) + 2) zi) := I2a.out.cur' hC hz hcx8 hmx8
      clear I2a hlx8 hsx8 hcx8 hmx8
      have I3a : Hid (Ib Y w (w8.alloc (.cells #[.int .i64 (-1), .int .i64 16, .int .i64 65536] 3)) C (k + 8 + 2 + 2 + 2) zi) := I3.out.blw ((Blw.refl _).alloc _)
      have hlx9 : Hid (IntsAt (fun b => b = w8.heap.size) (w8.alloc (.cells #[.int .i64 (-1), .int .i64 16, .int .i64 65536] 3)) (some ⟨w8.heap.size, 0, none⟩) 3 (fun i => ([-1, 16, 65536] : List Int).getD i 0)) := ints_lit w8 [-1, 16, 65536] (by simp)
      have hsx9 : C < w8.heap.size := Nat.lt_of_lt_of_le hC I3.out.mod.size
      clear I3
      go_wp2_with fail
      refine (among_any Y _ C (k + 8 + 2 + 2 + 2) _ 3 3 _ _ (by omega) (by omega) hlx9.out (fun b hb => by omega) I3a.out.cur).mono ?_
      rintro e w9 ⟨x9, rfl, hcx9, hmx9⟩
      have I4 : Hid (Ib Y w w9 C ((k + 8 + 2 + 2 + 2) + 2) zi) := I3a.out.cur' hC hz hcx9 hmx9
      clear I3a hlx9 hsx9 hcx9 hmx9
      obtain ⟨a0, b0, c0, hr0⟩ := I4.out.ex
      obtain ⟨q0, q1, q2⟩ := get3 hr0
      have f0 := hr0.frozen 0; have f1 := hr0.frozen 1; have f2 := hr0.frozen 2
      have hmz := ((Mod.setCell (X := fun b => b = zi) w9 (p := ⟨zi, 0, none⟩) rfl (.int .i64 (y7 : Int))).trans (Mod.setCell (X := fun b => b = zi) _ (p := ⟨zi, 1, none⟩) rfl (.int .i64 x8))).trans (Mod.setCell (X := fun b => b = zi) _ (p := ⟨zi, 2, none⟩) rfl (.int .i64 x9))
      have I5 : Hid (Ib Y w (((w9.setCell ⟨zi, 0, none⟩ (.int .i64 (y7 : Int))).setCell ⟨zi, 1, none⟩ (.int .i64 x8)).setCell ⟨zi, 2, none⟩ (.int .i64 x9)) C (k + 8 + 2 + 2 + 2 + 2) zi) := I4.out.newer hC hY hz hmz (a := (y7 : Int)) (b := x8) (c := x9) (set3_2 (set3_1 (set3_0 hr0 _) _) _)
      clear hmz hr0 I4
      go_upto_region 13 with fail
      clear q0 q1 q2 f0 f1 f2
      generalize (((w9.setCell ⟨zi, 0, none⟩ (.int .i64 (y7 : Int))).setCell ⟨zi, 1, none⟩ (.int .i64 x8)).setCell ⟨zi, 2, none⟩ (.int .i64 x9)) = w10 at *
      obtain ⟨a, b, c, hr⟩ := I5.out.ex
      obtain ⟨q0, q1, q2⟩ := get3 hr
      obtain ⟨t0, t1, t2⟩ := get3 I5.out.rz
      have g0 := I5.out.rz.frozen 0; have g1 := I5.out.rz.frozen 1; have g2 := I5.out.rz.frozen 2
      have m2 := ((Mod.setCell (X := fun b => b = w.heap.size) w10 (p := ⟨w.heap.size, 0, none⟩) rfl (.int .i64 a)).trans (Mod.setCell (X := fun b => b = w.heap.size) _ (p := ⟨w.heap.size, 1, none⟩) rfl (.int .i64 b))).trans (Mod.setCell (X := fun b => b = w.heap.size) _ (p := ⟨w.heap.size, 2, none⟩) rfl (.int .i64 c))
      have HF : Hid (_ ∧ _) := And.intro ((I5.out.cur.mod m2 (by omega) (fun b hb e => by have := hY b hb; omega)).le (by omega : (k + 8 + 2 + 2 + 2 + 2) ≤ k + 20)) (I5.out.mod.newerC m2 (fun i e => by omega))
      clear m2 hr I5
      go_wp2
      refine bodyPost_ret (v := .agg #[.int .i64 a, .int .i64 b, .int .i64 c]) (by simp [results, Try.results171, go_sem, t0, t1, t2]) rfl ⟨a, b, c, rfl, HF.out.1, HF.out.2⟩
  have n3 : (x == 3) = false := by simpa using h3
  by_cases h4 : x = 4
  · subst h4
    clear n1 h1 n2 h2 n3 h3
    go_wp2_with fail
    refine (pick_any Y C (k + 2) 8 _ (by omega) (by omega) IB.out.cur).mono ?_
    rintro e w4 ⟨y, rfl, -, hcy, hmy⟩
    have I4 : Hid (Ib Y w w4 C ((k + 2) + 2) zi) := IB.out.cur' hC hz hcy hmy
    clear IB hcy hmy
    obtain ⟨a, b, c, hr⟩ := I4.out.ex
    obtain ⟨q0, q1, q2⟩ := get3 hr
    have f1 := hr.frozen 1
    have HN : Hid (Ib Y w (w4.setCell ⟨zi, 1, none⟩ (.int .i64 (y : Int))) C _ zi) := I4.out.newer hC hY hz (Mod.setCell (X := fun b => b = zi) _ (p := ⟨zi, 1, none⟩) rfl _) (a := a) (b := (y : Int)) (c := c) (set3_1 hr _)
    have I0 : Hid (Ib Y w (w4.setCell ⟨zi, 1, none⟩ (.int .i64 (y : Int))) C (k + 8) zi) := ⟨HN.out.mod, HN.out.cur.le (by omega), HN.out.ex, HN.out.rz⟩
    clear hr I4 HN
    go_wp2_with fail
    try clear q0 q1 q2
    try clear f1
    try clear f2
    generalize (w4.setCell ⟨zi, 1, none⟩ (.int .i64 (y : Int))) = wc at *
    refine (one_any Y C (k + 8) 60 _ (by omega) (by omega) I0.out.cur).mono ?_
    rintro e w6 ⟨r, rfl, hc, hm⟩
    have I1 : Hid (Ib Y w w6 C (k + 8 + 2) zi) := I0.out.cur' hC hz hc hm
    clear I0 hc hm
    cases r
    · obtain ⟨a, b, c, hr⟩ := I1.out.ex
      obtain ⟨q0, q1, q2⟩ := get3 hr
      obtain ⟨t0, t1, t2⟩ := get3 I1.out.rz
      have g0 := I1.out.rz.frozen 0; have g1 := I1.out.rz.frozen 1; have g2 := I1.out.rz.frozen 2
      have m2 := ((Mod.setCell (X := fun b => b = w.heap.size) w6 (p := ⟨w.heap.size, 0, none⟩) rfl (.int .i64 a)).trans (Mod.setCell (X := fun b => b = w.heap.size) _ (p := ⟨w.heap.size, 1, none⟩) rfl (.int .i64 b))).trans (Mod.setCell (X := fun b => b = w.heap.size) _ (p := ⟨w.heap.size, 2, none⟩) rfl (.int .i64 c))
      have HF : Hid (_ ∧ _) := And.intro ((I1.out.cur.mod m2 (by omega) (fun b hb e => by have := hY b hb; omega)).le (by omega : (k + 8 + 2) ≤ k + 20)) (I1.out.mod.newerC m2 (fun i e => by omega))
      clear m2 hr I1
      go_wp2
      refine bodyPost_ret (v := .agg #[.int .i64 a, .int .i64 b, .int .i64 c]) (by simp [results, Try.results171, go_sem, t0, t1, t2]) rfl ⟨a, b, c, rfl, HF.out.1, HF.out.2⟩
    · skip
      go_wp2_with fail
      refine (pick_any Y C (k + 8 + 2) 9 _ (by omega) (by omega) I1.out.cur).mono ?_
      rintro e w7 ⟨y7, rfl, -, hcy7, hmy7⟩
      have I2 : Hid (Ib Y w w7 C ((k + 8 + 2) + 2) zi) := I1.out.cur' hC hz hcy7 hmy7
      clear I1 hcy7 hmy7
      have I2a : Hid (Ib Y w (w7.alloc (.cells #[.int .i64 (-1), .int .i64 7, .int .i64 8] 3)) C (k + 8 + 2 + 2) zi) := I2.out.blw ((Blw.refl _).alloc _)
      have hlx8 : Hid (IntsAt (fun b => b = w7.heap.size) (w7.alloc (.cells #[.int .i64 (-1), .int .i64 7, .int .i64 8] 3)) (some ⟨w7.heap.size, 0, none⟩) 3 (fun i => ([-1, 7, 8] : List Int).getD i 0)) := ints_lit w7 [-1, 7, 8] (by simp)
      have hsx8 : C < w7.heap.size := Nat.lt_of_lt_of_le hC I2.out.mod.size
      clear I2
      go_wp2_with fail
      refine (among_any Y _ C (k + 8 + 2 + 2) _ 3 3 _ _ (by omega) (by omega) hlx8.out (fun b hb => by omega) I2a.out.cur).mono ?_
      rintro e w8 ⟨x8, rfl, hcx8, hmx8⟩
      have I3 : Hid (Ib Y w w8 C ((k + 8 + 2 + 2) + 2) zi) := I2a.out.cur' hC hz hcx8 hmx8
      clear I2a hlx8 hsx8 hcx8 hmx8
      have I3a : Hid (Ib Y w (w8.alloc (.cells #[.int .i64 (-1), .int .i64 16, .int .i64 65536] 3)) C (k + 8 + 2 + 2 + 2) zi) := I3.out.blw ((Blw.refl _).alloc _)
      have hlx9 : Hid (IntsAt (fun b => b = w8.heap.size) (w8.alloc (.cells #[.int .i64 (-1), .int .i64 16, .int .i64 65536] 3)) (some ⟨w8.heap.size, 0, none⟩) 3 (fun i => ([-1, 16, 65536] : List Int).getD i 0)) := ints_lit w8 [-1, 16, 65536] (by simp)
      have hsx9 : C < w8.heap.size := Nat.lt_of_lt_of_le hC I3.out.mod.size
      clear I3
      go_wp2_with fail
      refine (among_any Y _ C (k + 8 + 2 + 2 + 2) _ 3 3 _ _ (by omega) (by omega) hlx9.out (fun b hb => by omega) I3a.out.cur).mono ?_
      rintro e w9 ⟨x9, rfl, hcx9, hmx9⟩
      have I4 : Hid (Ib Y w w9 C ((k + 8 + 2 + 2 + 2) + 2) zi) := I3a.out.cur' hC hz hcx9 hmx9
      clear I3a hlx9 hsx9 hcx9 hmx9
      obtain ⟨a0, b0, c0, hr0⟩ := I4.out.ex
      obtain ⟨q0, q1, q2⟩ := get3 hr0
      have f0 := hr0.frozen 0; have f1 := hr0.frozen 1; have f2 := hr0.frozen 2
      have hmz := ((Mod.setCell (X := fun b => b = zi) w9 (p := ⟨zi, 0, none⟩) rfl (.int .i64 (y7 : Int))).trans (Mod.setCell (X := fun b => b = zi) _ (p := ⟨zi, 1, none⟩) rfl (.int .i64 x8))).trans (Mod.setCell (X := fun b => b = zi) _ (p := ⟨zi, 2, none⟩) rfl (.int .i64 x9))
      have I5 : Hid (Ib Y w (((w9.setCell ⟨zi, 0, none⟩ (.int .i64 (y7 : Int))).setCell ⟨zi, 1, none⟩ (.int .i64 x8)).setCell ⟨zi, 2, none⟩ (.int .i64 x9)) C (k + 8 + 2 + 2 + 2 + 2) zi) := I4.out.newer hC hY hz hmz (a := (y7 : Int)) (b := x8) (c := x9) (set3_2 (set3_1 (set3_0 hr0 _) _) _)
      clear hmz hr0 I4
      go_upto_region 13 with fail
      clear q0 q1 q2 f0 f1 f2
      generalize (((w9.setCell ⟨zi, 0, none⟩ (.int .i64 (y7 : Int))).setCell ⟨zi, 1, none⟩ (.int .i64 x8)).setCell ⟨zi, 2, none⟩ (.int .i64 x9)) = w10 at *
      obtain ⟨a, b, c, hr⟩ := I5.out.ex
      obtain ⟨q0, q1, q2⟩ := get3 hr
      obtain ⟨t0, t1, t2⟩ := get3 I5.out.rz
      have g0 := I5.out.rz.frozen 0; have g1 := I5.out.rz.frozen 1; have g2 := I5.out.rz.frozen 2
      have m2 := ((Mod.setCell (X := fun b => b = w.heap.size) w10 (p := ⟨w.heap.size, 0, none⟩) rfl (.int .i64 a)).trans (Mod.setCell (X := fun b => b = w.heap.size) _ (p := ⟨w.heap.size, 1, none⟩) rfl (.int .i64 b))).trans (Mod.setCell (X := fun b => b = w.heap.size) _ (p := ⟨w.heap.size, 2, none⟩) rfl (.int .i64 c))
      have HF : Hid (_ ∧ _) := And.intro ((I5.out.cur.mod m2 (by omega) (fun b hb e => by have := hY b hb; omega)).le (by omega : (k + 8 + 2 + 2 + 2 + 2) ≤ k + 20)) (I5.out.mod.newerC m2 (fun i e => by omega))
      clear m2 hr I5
      go_wp2
      refine bodyPost_ret (v := .agg #[.int .i64 a, .int .i64 b, .int .i64 c]) (by simp [results, Try.results171, go_sem, t0, t1, t2]) rfl ⟨a, b, c, rfl, HF.out.1, HF.out.2⟩
  have n4 : (x == 4) = false := by simpa using h4
  by_cases h5 : x = 5
  · subst h5
    clear n1 h1 n2 h2 n3 h3 n4 h4
    go_wp2_with fail
    refine (pick_any Y C (k + 2) 9 _ (by omega) (by omega) IB.out.cur).mono ?_
    rintro e w4 ⟨y, rfl, -, hcy, hmy⟩
    have I4 : Hid (Ib Y w w4 C ((k + 2) + 2) zi) := IB.out.cur' hC hz hcy hmy
    clear IB hcy hmy
    obtain ⟨a, b, c, hr⟩ := I4.out.ex
    obtain ⟨q0, q1, q2⟩ := get3 hr
    have f2 := hr.frozen 2
    have HN : Hid (Ib Y w (w4.setCell ⟨zi, 2, none⟩ (.int .i64 (y : Int))) C _ zi) := I4.out.newer hC hY hz (Mod.setCell (X := fun b => b = zi) _ (p := ⟨zi, 2, none⟩) rfl _) (a := a) (b := b) (c := (y : Int)) (set3_2 hr _)
    have I0 : Hid (Ib Y w (w4.setCell ⟨zi, 2, none⟩ (.int .i64 (y : Int))) C (k + 8) zi) := ⟨HN.out.mod, HN.out.cur.le (by omega), HN.out.ex, HN.out.rz⟩
    clear hr I4 HN
    go_wp2_with fail
    try clear q0 q1 q2
    try clear f1
    try clear f2
    generalize (w4.setCell ⟨zi, 2, none⟩ (.int .i64 (y : Int))) = wc at *
    refine (one_any Y C (k + 8) 60 _ (by omega) (by omega) I0.out.cur).mono ?_
    rintro e w6 ⟨r, rfl, hc, hm⟩
    have I1 : Hid (Ib Y w w6 C (k + 8 + 2) zi) := I0.out.cur' hC hz hc hm
    clear I0 hc hm
    cases r
    · obtain ⟨a, b, c, hr⟩ := I1.out.ex
      obtain ⟨q0, q1, q2⟩ := get3 hr
      obtain ⟨t0, t1, t2⟩ := get3 I1.out.rz
      have g0 := I1.out.rz.frozen 0; have g1 := I1.out.rz.frozen 1; have g2 := I1.out.rz.frozen 2
      have m2 := ((Mod.setCell (X := fun b => b = w.heap.size) w6 (p := ⟨w.heap.size, 0, none⟩) rfl (.int .i64 a)).trans (Mod.setCell (X := fun b => b = w.heap.size) _ (p := ⟨w.heap.size, 1, none⟩) rfl (.int .i64 b))).trans (Mod.setCell (X := fun b => b = w.heap.size) _ (p := ⟨w.heap.size, 2, none⟩) rfl (.int .i64 c))
      have HF : Hid (_ ∧ _) := And.intro ((I1.out.cur.mod m2 (by omega) (fun b hb e => by have := hY b hb; omega)).le (by omega : (k + 8 + 2) ≤ k + 20)) (I1.out.mod.newerC m2 (fun i e => by omega))
      clear m2 hr I1
      go_wp2
      refine bodyPost_ret (v := .agg #[.int .i64 a, .int .i64 b, .int .i64 c]) (by simp [results, Try.results171, go_sem, t0, t1, t2]) rfl ⟨a, b, c, rfl, HF.out.1, HF.out.2⟩
    · skip
      go_wp2_with fail
      refine (pick_any Y C (k + 8 + 2) 9 _ (by omega) (by omega) I1.out.cur).mono ?_
      rintro e w7 ⟨y7, rfl, -, hcy7, hmy7⟩
      have I2 : Hid (Ib Y w w7 C ((k + 8 + 2) + 2) zi) := I1.out.cur' hC hz hcy7 hmy7
      clear I1 hcy7 hmy7
      have I2a : Hid (Ib Y w (w7.alloc (.cells #[.int .i64 (-1), .int .i64 7, .int .i64 8] 3)) C (k + 8 + 2 + 2) zi) := I2.out.blw ((Blw.refl _).alloc _)
      have hlx8 : Hid (IntsAt (fun b => b = w7.heap.size) (w7.alloc (.cells #[.int .i64 (-1), .int .i64 7, .int .i64 8] 3)) (some ⟨w7.heap.size, 0, none⟩) 3 (fun i => ([-1, 7, 8] : List Int).getD i 0)) := ints_lit w7 [-1, 7, 8] (by simp)
      have hsx8 : C < w7.heap.size := Nat.lt_of_lt_of_le hC I2.out.mod.size
      clear I2
      go_wp2_with fail
      refine (among_any Y _ C (k + 8 + 2 + 2) _ 3 3 _ _ (by omega) (by omega) hlx8.out (fun b hb => by omega) I2a.out.cur).mono ?_
      rintro e w8 ⟨x8, rfl, hcx8, hmx8⟩
      have I3 : Hid (Ib Y w w8 C ((k + 8 + 2 + 2) + 2) zi) := I2a.out.cur' hC hz hcx8 hmx8
      clear I2a hlx8 hsx8 hcx8 hmx8
      have I3a : Hid (Ib Y w (w8.alloc (.cells #[.int .i64 (-1), .int .i64 16, .int .i64 65536] 3)) C (k + 8 + 2 + 2 + 2) zi) := I3.out.blw ((Blw.refl _).alloc _)
      have hlx9 : Hid (IntsAt (fun b => b = w8.heap.size) (w8.alloc (.cells #[.int .i64 (-1), .int .i64 16, .int .i64 65536] 3)) (some ⟨w8.heap.size, 0, none⟩) 3 (fun i => ([-1, 16, 65536] : List Int).getD i 0)) := ints_lit w8 [-1, 16, 65536] (by simp)
      have hsx9 : C < w8.heap.size := Nat.lt_of_lt_of_le hC I3.out.mod.size
      clear I3
      go_wp2_with fail
      refine (among_any Y _ C (k + 8 + 2 + 2 + 2) _ 3 3 _ _ (by omega) (by omega) hlx9.out (fun b hb => by omega) I3a.out.cur).mono ?_
      rintro e w9 ⟨x9, rfl, hcx9, hmx9⟩
      have I4 : Hid (Ib Y w w9 C ((k + 8 + 2 + 2 + 2) + 2) zi) := I3a.out.cur' hC hz hcx9 hmx9
      clear I3a hlx9 hsx9 hcx9 hmx9
      obtain ⟨a0, b0, c0, hr0⟩ := I4.out.ex
      obtain ⟨q0, q1, q2⟩ := get3 hr0
      have f0 := hr0.frozen 0; have f1 := hr0.frozen 1; have f2 := hr0.frozen 2
      have hmz := ((Mod.setCell (X := fun b => b = zi) w9 (p := ⟨zi, 0, none⟩) rfl (.int .i64 (y7 : Int))).trans (Mod.setCell (X := fun b => b = zi) _ (p := ⟨zi, 1, none⟩) rfl (.int .i64 x8))).trans (Mod.setCell (X := fun b => b = zi) _ (p := ⟨zi, 2, none⟩) rfl (.int .i64 x9))
      have I5 : Hid (Ib Y w (((w9.setCell ⟨zi, 0, none⟩ (.int .i64 (y7 : Int))).setCell ⟨zi, 1, none⟩ (.int .i64 x8)).setCell ⟨zi, 2, none⟩ (.int .i64 x9)) C (k + 8 + 2 + 2 + 2 + 2) zi) := I4.out.newer hC hY hz hmz (a := (y7 : Int)) (b := x8) (c := x9) (set3_2 (set3_1 (set3_0 hr0 _) _) _)
      clear hmz hr0 I4
      go_upto_region 13 with fail
      clear q0 q1 q2 f0 f1 f2
      generalize (((w9.setCell ⟨zi, 0, none⟩ (.int .i64 (y7 : Int))).setCell ⟨zi, 1, none⟩ (.int .i64 x8)).setCell ⟨zi, 2, none⟩ (.int .i64 x9)) = w10 at *
      obtain ⟨a, b, c, hr⟩ := I5.out.ex
      obtain ⟨q0, q1, q2⟩ := get3 hr
      obtain ⟨t0, t1, t2⟩ := get3 I5.out.rz
      have g0 := I5.out.rz.frozen 0; have g1 := I5.out.rz.frozen 1; have g2 := I5.out.rz.frozen 2
      have m2 := ((Mod.setCell (X := fun b => b = w.heap.size) w10 (p := ⟨w.heap.size, 0, none⟩) rfl (.int .i64 a)).trans (Mod.setCell (X := fun b => b = w.heap.size) _ (p := ⟨w.heap.size, 1, none⟩) rfl (.int .i64 b))).trans (Mod.setCell (X := fun b => b = w.heap.size) _ (p := ⟨w.heap.size, 2, none⟩) rfl (.int .i64 c))
      have HF : Hid (_ ∧ _) := And.intro ((I5.out.cur.mod m2 (by omega) (fun b hb e => by have := hY b hb; omega)).le (by omega : (k + 8 + 2 + 2 + 2 + 2) ≤ k + 20)) (I5.out.mod.newerC m2 (fun i e => by omega))
      clear m2 hr I5
      go_wp2
      refine bodyPost_ret (v := .agg #[.int .i64 a, .int .i64 b, .int .i64 c]) (by simp [results, Try.results171, go_sem, t0, t1, t2]) rfl ⟨a, b, c, rfl, HF.out.1, HF.out.2⟩
  have n5 : (x == 5) = false := by simpa using h5
  clear h1 h2 h3 h4 h5
  have I0 : Hid (Ib Y w w3 C (k + 8) zi) := ⟨IB.out.mod, IB.out.cur.le (by omega), IB.out.ex, IB.out.rz⟩
  clear IB
  go_wp2_with fail
  try clear q0 q1 q2
  try clear f1
  try clear f2
  generalize w3 = wc at *
  refine (one_any Y C (k + 8) 60 _ (by omega) (by omega) I0.out.cur).mono ?_
  rintro e w6 ⟨r, rfl, hc, hm⟩
  have I1 : Hid (Ib Y w w6 C (k + 8 + 2) zi) := I0.out.cur' hC hz hc hm
  clear I0 hc hm
  cases r
  · obtain ⟨a, b, c, hr⟩ := I1.out.ex
    obtain ⟨q0, q1, q2⟩ := get3 hr
    obtain ⟨t0, t1, t2⟩ := get3 I1.out.rz
    have g0 := I1.out.rz.frozen 0; have g1 := I1.out.rz.frozen 1; have g2 := I1.out.rz.frozen 2
    have m2 := ((Mod.setCell (X := fun b => b = w.heap.size) w6 (p := ⟨w.heap.size, 0, none⟩) rfl (.int .i64 a)).trans (Mod.setCell (X := fun b => b = w.heap.size) _ (p := ⟨w.heap.size, 1, none⟩) rfl (.int .i64 b))).trans (Mod.setCell (X := fun b => b = w.heap.size) _ (p := ⟨w.heap.size, 2, none⟩) rfl (.int .i64 c))
    have HF : Hid (_ ∧ _) := And.intro ((I1.out.cur.mod m2 (by omega) (fun b hb e => by have := hY b hb; omega)).le (by omega : (k + 8 + 2) ≤ k + 20)) (I1.out.mod.newerC m2 (fun i e => by omega))
    clear m2 hr I1
    go_wp2
    refine bodyPost_ret (v := .agg #[.int .i64 a, .int .i64 b, .int .i64 c]) (by simp [results, Try.results171, go_sem, t0, t1, t2]) rfl ⟨a, b, c, rfl, HF.out.1, HF.out.2⟩
  · skip
    go_wp2_with fail
    refine (pick_any Y C (k + 8 + 2) 9 _ (by omega) (by omega) I1.out.cur).mono ?_
    rintro e w7 ⟨y7, rfl, -, hcy7, hmy7⟩
    have I2 : Hid (Ib Y w w7 C ((k + 8 + 2) + 2) zi) := I1.out.cur' hC hz hcy7 hmy7
    clear I1 hcy7 hmy7
    have I2a : Hid (Ib Y w (w7.alloc (.cells #[.int .i64 (-1), .int .i64 7, .int .i64 8] 3)) C (k + 8 + 2 + 2) zi) := I2.out.blw ((Blw.refl _).alloc _)
    have hlx8 : Hid (IntsAt (fun b => b = w7.heap.size) (w7.alloc (.cells #[.int .i64 (-1), .int .i64 7, .int .i64 8] 3)) (some ⟨w7.heap.size, 0, none⟩) 3 (fun i => ([-1, 7, 8] : List Int).getD i 0)) := ints_lit w7 [-1, 7, 8] (by simp)
    have hsx8 : C < w7.heap.size := Nat.lt_of_lt_of_le hC I2.out.mod.size
    clear I2
    go_wp2_with fail
    refine (among_any Y _ C (k + 8 + 2 + 2) _ 3 3 _ _ (by omega) (by omega) hlx8.out (fun b hb => by omega) I2a.out.cur).mono ?_
    rintro e w8 ⟨x8, rfl, hcx8, hmx8⟩
    have I3 : Hid (Ib Y w w8 C ((k + 8 + 2 + 2) + 2) zi) := I2a.out.cur' hC hz hcx8 hmx8
    clear I2a hlx8 hsx8 hcx8 hmx8
    have I3a : Hid (Ib Y w (w8.alloc (.cells #[.int .i64 (-1), .int .i64 16, .int .i64 65536] 3)) C (k + 8 + 2 + 2 + 2) zi) := I3.out.blw ((Blw.refl _).alloc _)
    have hlx9 : Hid (IntsAt (fun b => b = w8.heap.size) (w8.alloc (.cells #[.int .i64 (-1), .int .i64 16, .int .i64 65536] 3)) (some ⟨w8.heap.size, 0, none⟩) 3 (fun i => ([-1, 16, 65536] : List Int).getD i 0)) := ints_lit w8 [-1, 16, 65536] (by simp)
    have hsx9 : C < w8.heap.size := Nat.lt_of_lt_of_le hC I3.out.mod.size
    clear I3
    go_wp2_with fail
    refine (among_any Y _ C (k + 8 + 2 + 2 + 2) _ 3 3 _ _ (by omega) (by omega) hlx9.out (fun b hb => by omega) I3a.out.cur).mono ?_
    rintro e w9 ⟨x9, rfl, hcx9, hmx9⟩
    have I4 : Hid (Ib Y w w9 C ((k + 8 + 2 + 2 + 2) + 2) zi) := I3a.out.cur' hC hz hcx9 hmx9
    clear I3a hlx9 hsx9 hcx9 hmx9
    obtain ⟨a0, b0, c0, hr0⟩ := I4.out.ex
    obtain ⟨q0, q1, q2⟩ := get3 hr0
    have f0 := hr0.frozen 0; have f1 := hr0.frozen 1; have f2 := hr0.frozen 2
    have hmz := ((Mod.setCell (X := fun b => b = zi) w9 (p := ⟨zi, 0, none⟩) rfl (.int .i64 (y7 : Int))).trans (Mod.setCell (X := fun b => b = zi) _ (p := ⟨zi, 1, none⟩) rfl (.int .i64 x8))).trans (Mod.setCell (X := fun b => b = zi) _ (p := ⟨zi, 2, none⟩) rfl (.int .i64 x9))
    have I5 : Hid (Ib Y w (((w9.setCell ⟨zi, 0, none⟩ (.int .i64 (y7 : Int))).setCell ⟨zi, 1, none⟩ (.int .i64 x8)).setCell ⟨zi, 2, none⟩ (.int .i64 x9)) C (k + 8 + 2 + 2 + 2 + 2) zi) := I4.out.newer hC hY hz hmz (a := (y7 : Int)) (b := x8) (c := x9) (set3_2 (set3_1 (set3_0 hr0 _) _) _)
    clear hmz hr0 I4
    go_upto_region 13 with fail
    clear q0 q1 q2 f0 f1 f2
    generalize (((w9.setCell ⟨zi, 0, none⟩ (.int .i64 (y7 : Int))).setCell ⟨zi, 1, none⟩ (.int .i64 x8)).setCell ⟨zi, 2, none⟩ (.int .i64 x9)) = w10 at *
    obtain ⟨a, b, c, hr⟩ := I5.out.ex
    obtain ⟨q0, q1, q2⟩ := get3 hr
    obtain ⟨t0, t1, t2⟩ := get3 I5.out.rz
    have g0 := I5.out.rz.frozen 0; have g1 := I5.out.rz.frozen 1; have g2 := I5.out.rz.frozen 2
    have m2 := ((Mod.setCell (X := fun b => b = w.heap.size) w10 (p := ⟨w.heap.size, 0, none⟩) rfl (.int .i64 a)).trans (Mod.setCell (X := fun b => b = w.heap.size) _ (p := ⟨w.heap.size, 1, none⟩) rfl (.int .i64 b))).trans (Mod.setCell (X := fun b => b = w.heap.size) _ (p := ⟨w.heap.size, 2, none⟩) rfl (.int .i64 c))
    have HF : Hid (_ ∧ _) := And.intro ((I5.out.cur.mod m2 (by omega) (fun b hb e => by have := hY b hb; omega)).le (by omega : (k + 8 + 2 + 2 + 2 + 2) ≤ k + 20)) (I5.out.mod.newerC m2 (fun i e => by omega))
    clear m2 hr I5
    go_wp2
    refine bodyPost_ret (v := .agg #[.int .i64 a, .int .i64 b, .int .i64 c]) (by simp [results, Try.results171, go_sem, t0, t1, t2]) rfl ⟨a, b, c, rfl, HF.out.1, HF.out.2⟩
end Go.Proofs.Ytbpdopcdhnemfaa
/- Programs that are drawn. -/
namespace Go.Proofs.Ytbpdopcdhnemfaa
open Go.RowKit
set_option linter.unusedSimpArgs false
set_option linter.unusedVariables false
def catJ (k : Nat) (F G : Nat → Nat → Int) : Nat → Nat → Int := fun i c => if i < k then F i c else G (i - k) c
theorem cat_kj (K k : Nat) (hK : 0 < K) (F G : Nat → Nat → Int) (j : Nat) : cat (k * K) (kc K F) (kc K G) j = kc K (catJ k F G) j := by
  unfold cat kc catJ
  by_cases h : j < k * K
  · rw [if_pos h, if_pos (Nat.div_lt_of_lt_mul (by rw [Nat.mul_comm]; exact h))]
  · have h1 : ¬ j / K < k := fun q => h (by have := Nat.lt_mul_of_div_lt q hK; rw [Nat.mul_comm]; rw [Nat.mul_comm] at this; exact Nat.mul_comm K k ▸ this)
    rw [if_neg h, if_neg h1]
    obtain ⟨q, rfl⟩ : ∃ q, j = k * K + q := ⟨j - k * K, by omega⟩
    rw [Nat.add_sub_cancel_left, Nat.mul_comm k K, Nat.mul_add_div hK, Nat.mul_add_mod, Nat.add_sub_cancel_left]
theorem among_mem (Y Y2 : Nat → Prop) (C k : Nat) (ao : Option Addr) (n c : Nat) (f : Nat → Int) (w : World) (hk : k ≤ 900000) (hn : 1 < n) (hI : IntsAt Y2 w ao n f) (hY2 : ∀ b, Y2 b → b ≠ C) (h : Cur Y w C k) :
    Calls Try.prog 113 #[.pointer (some ⟨C, 0, none⟩), .slice ao n c] w fun e w' => ∃ i : Nat, i < n ∧ e = .returned (.int .i64 (f i)) ∧ Cur Y w' C (k + 2) ∧ Mod (fun b => b = C) w w' := by
  have HI : Hid (IntsAt Y2 w ao n f) := hI
  clear hI
  go_enter Try.func113, Try.ntmps113
  go_wp2_with fail
  refine (pick_any Y C k n _ hk (by omega) h).mono ?_
  rintro e w1 ⟨x, rfl, hx, c1, m1⟩
  obtain ⟨b, o, rfl, -, q⟩ := (HI.out.mod m1 (fun b hb => hY2 b hb)).2 x (by omega)
  clear h
  go_wp2
  go_ret
  exact ⟨x, by omega, rfl, c1, m1⟩
theorem Buf.ins1 {w : World} (x0 x1 x2 : Int) : KOwn 3 (fun b => b = w.heap.size) (w.alloc (.cells #[.int .i64 x0, .int .i64 x1, .int .i64 x2] 170)) (some ⟨w.heap.size, 0, none⟩) 1 (fun _ c => if c = 0 then x0 else if c = 1 then x1 else x2) :=
  ⟨by omega, fun _ => ⟨w.heap.size, rfl, rfl, _, 170, heap_alloc_new _ _, by simp, fun i hi => by
    match i, hi with
    | 0, _ => rfl
    | 1, _ => rfl
    | 2, _ => rfl⟩⟩
theorem pushIns {X : Nat → Prop} {w : World} {v : Value} {n : Nat} {F : Nat → Nat → Int} (h : Buf 170 3 X w v n (kc 3 F)) (hn : n ≤ 1000) (a b c : Int) :
    ∃ ao cap w', (Builtin.append_ #[59, 59] 59 #[v, .slice (some ⟨w.heap.size, 0, none⟩) 1 1]).run Try.prog (w.alloc (.cells #[.int .i64 a, .int .i64 b, .int .i64 c] 170)) = .ok (.slice ao (n + 1) cap) w' ∧ (∃ F', Buf 170 3 (fun b => (X b ∨ w.heap.size ≤ b) ∧ b < w'.heap.size) w' (.slice ao (n + 1) cap) (n + 1) (kc 3 F')) ∧ Mod (fun b => v.ownBlock = some b) w w' := by
  obtain ⟨i0, hi, hz0, hz1, hz2⟩ := info_parts infoInsS
  have hb : Blw w (w.alloc (.cells #[.int .i64 a, .int .i64 b, .int .i64 c] 170)) := (Blw.refl _).alloc _
  obtain ⟨a', c', w', hrun, hB, hM⟩ := Buf.append (t := 59) Try.underlying59 hi hz0 hz1 hz2 (by rfl) (by omega) (Buf.blw h hb) (ao := some ⟨w.heap.size, 0, none⟩) (m := 1) 1 (G := kc 3 (fun _ c_ => if c_ = 0 then a else if c_ = 1 then b else c)) (fun e => by cases e) (fun ad e j hj => by
    obtain ⟨g, -, e2, r⟩ := (Buf.ins1 (w := w) a b c).2 (by omega)
    rw [e] at e2
    cases e2
    rw [Addr.add_lit, Nat.zero_add]
    exact r.cell hj) (fun j => rfl) (by omega) (by omega) 59
  refine ⟨a', c', w', hrun, ⟨catJ n F _, (hB.congr (fun i _ => cat_kj 3 n (by omega) F _ i)).mono (fun b hb => ⟨?_, hb.2⟩)⟩, (hb.mod _).trans hM⟩
  rcases hb.1 with h1 | h1
  · exact Or.inl h1
  · rw [World.size_alloc] at h1; exact Or.inr (by omega)
/-- A program of i instructions that is built behind w, while the cursor at C goes on. -/
structure Bp (Y : Nat → Prop) (w wr : World) (C k : Nat) (v : Value) (i : Nat) : Prop where
  mod : Mod (fun b => b = C) w wr
  cur : Cur Y wr C k
  ex : ∃ F, Buf 170 3 (fun b => w.heap.size ≤ b ∧ b < wr.heap.size) wr v i (kc 3 F)
theorem Bp.cur' {Y : Nat → Prop} {w wr w1 : World} {C k k' : Nat} {v : Value} {i : Nat} (h : Bp Y w wr C k v i) (hC : C < w.heap.size) (hc : Cur Y w1 C k') (hm : Mod (fun b => b = C) wr w1) : Bp Y w w1 C k' v i := by
  obtain ⟨c, hb⟩ := h.ex
  have hs := hm.size
  exact ⟨h.mod.trans hm, hc, c, (Buf.mod hb hm (fun b hb e => by omega)).mono (fun b hb => by omega)⟩
theorem Bp.push {Y : Nat → Prop} {w wr : World} {C k : Nat} {v : Value} {i : Nat} (h : Bp Y w wr C k v i) (hi : i ≤ 100) (hC : C < w.heap.size) (hY : ∀ b, Y b → b < w.heap.size) (x y z : Int) :
    ∃ ao cap w', (Builtin.append_ #[59, 59] 59 #[v, .slice (some ⟨wr.heap.size, 0, none⟩) 1 1]).run Try.prog (wr.alloc (.cells #[.int .i64 x, .int .i64 y, .int .i64 z] 170)) = .ok (.slice ao (i + 1) cap) w' ∧ Bp Y w w' C k (.slice ao (i + 1) cap) (i + 1) := by
  obtain ⟨c, hb⟩ := h.ex
  obtain ⟨ao, cap, w', hr, ⟨F', hB⟩, hM⟩ := pushIns hb (by omega) x y z
  have hx : ∀ b, v.ownBlock = some b → w.heap.size ≤ b := fun b hh => (hb.2 b hh).1
  have hs := h.mod.size
  refine ⟨ao, cap, w', hr, h.mod.newerC hM hx, h.cur.mod hM (fun e => by have := hx _ e; omega) (fun b hb' e => by have := hY b hb'; have := hx b e; omega), F', hB.mono (fun b hb' => ⟨?_, hb'.2⟩)⟩
  rcases hb'.1 with h1 | h1
  · exact h1.1
  · omega
set_option maxRecDepth 10000 in
set_option maxHeartbeats 3200000 in
theorem program_any (Y : Nat → Prop) (C k : Nat) (w : World) (hk : k ≤ 700000) (hY : ∀ b, Y b → b < w.heap.size ∧ b ≠ C) (h : Cur Y w C k) :
    Calls Try.prog 111 #[.pointer (some ⟨C, 0, none⟩)] w fun e w' => ∃ v n, e = .returned v ∧ n ≤ 17 ∧ Bp Y w w' C (k + 400) v n := by
  have hC := h.lt
  have HC : Hid (Cur Y w C k) := h
  clear h
  go_enter Try.func111, Try.ntmps111
  go_wp2_with fail
  refine (pick_any Y C k 9 _ (by omega) (by omega) HC.out).mono ?_
  rintro e w1 ⟨x, rfl, hx, hc1, hm1⟩
  have HM1 : Hid (Mod (fun b => b = C) w w1) := hm1
  have HC1 : Hid (Cur Y w1 C (k + 2)) := hc1
  have HX : Hid ((x : Int) < 9) := hx
  clear hm1 hc1 hx HC
  go_wp2_with fail
  refine (one_any Y C (k + 2) 30 _ (by omega) (by omega) HC1.out).mono ?_
  rintro e w2 ⟨r, rfl, hc2, hm2⟩
  have HM2 : Hid (Mod (fun b => b = C) w w2) := HM1.out.trans hm2
  have HC2 : Hid (Cur Y w2 C (k + 2 + 2)) := hc2
  clear hm2 hc2 HM1 HC1
  cases r
  · have H0 : Hid (Bp Y w w2 C (k + 6) (.slice none 0 0) 0) := ⟨HM2.out, HC2.out.le (by omega), fun _ _ => 0, Buf.nil _ _ _ _ _⟩
    have hq : ∃ q : Nat, q ≤ 17 ∧ (1 + (x : Int)) = q := ⟨1 + x, by have := HX.out; omega, by omega⟩
    obtain ⟨q, hq17, hqe⟩ := hq
    have HQ : Hid ((1 + (x : Int)) = q) := hqe
    clear hqe HM2 HC2
    go_wp2_with fail
    go_loopw [3, 4] (fun v i wr => ∃ (j l : Nat), j + l = q ∧ i = .int .i64 l ∧ Bp Y w wr C (k + 6 + 20 * j) v j) (fun _ i _ => (intOf i).toNat)
    case atStart => exact ⟨0, q, by omega, by rw [HQ.out]; refine congrArg _ ?_; exact (by unfold wrap64; omega), H0.out⟩
    case round =>
      obtain ⟨j, l, hjl, rfl, hb⟩ := hrel
      clear H0
      have HB : Hid (Bp Y w _ C (k + 6 + 20 * j) _ j) := hb
      clear hb
      by_cases hlt : 0 < l
      · have hlt' : (l : Int) > 0 := by omega
        go_wp2_with fail
        refine (ins_any Y C (k + 6 + 20 * j) _ (by omega) (fun b hb => ⟨Nat.lt_of_lt_of_le (hY b hb).1 HB.out.mod.size, (hY b hb).2⟩) HB.out.cur).mono ?_
        rintro e w6 ⟨a, b, c, rfl, hc6, hm6⟩
        obtain ⟨ao, cap, w7, hrun, hB7⟩ := (HB.out.cur' hC hc6 hm6).push (by omega) hC (fun b hb => (hY b hb).1) a b c
        have HRN : Hid _ := hrun
        have HB7 : Hid (Bp Y w w7 C (k + 6 + 20 * j + 20) (.slice ao (j + 1) cap) (j + 1)) := hB7
        clear hrun hB7 hc6 hm6 HB
        go_wp2_with (first | (at_builtin; refine wpList_app (.tmp 17) (.tmp 20) 59 (by rfl) ?_; refine ⟨_, _, HRN.out, ?_⟩) | fail)
        go_wp2
        go_roundw
        case rel => exact ⟨j + 1, l - 1, by omega, by go_num, by rw [show k + 6 + 20 * (j + 1) = k + 6 + 20 * j + 20 by omega]; exact HB7.out⟩
        case measure => simp [intOf]; omega
      · obtain rfl : l = 0 := by omega
        go_wp2
        go_ret
        exact ⟨_, j, rfl, by omega, HB.out.mod, HB.out.cur.le (by omega), HB.out.ex⟩
  · have hA : Blw w2 (w2.alloc (.cells #[.int .i64 0, .int .i64 16, .int .i64 17] 3)) := (Blw.refl _).alloc _
    have hl : Hid (IntsAt (fun b => b = w2.heap.size) (w2.alloc (.cells #[.int .i64 0, .int .i64 16, .int .i64 17] 3)) (some ⟨w2.heap.size, 0, none⟩) 3 (fun i => ([0, 16, 17] : List Int).getD i 0)) := ints_lit w2 [0, 16, 17] (by simp)
    have HM3 : Hid (Mod (fun b => b = C) w (w2.alloc (.cells #[.int .i64 0, .int .i64 16, .int .i64 17] 3))) := HM2.out.trans (hA.mod _)
    have HC3 : Hid (Cur Y (w2.alloc (.cells #[.int .i64 0, .int .i64 16, .int .i64 17] 3)) C (k + 2 + 2)) := HC2.out.blw hA
    have hsC : C < w2.heap.size := Nat.lt_of_lt_of_le hC HM2.out.size
    clear hA HM2 HC2
    go_wp2_with fail
    refine (among_mem Y _ C (k + 2 + 2) _ 3 3 _ _ (by omega) (by omega) hl.out (fun b hb => by omega) HC3.out).mono ?_
    rintro e w3 ⟨i, hi, rfl, hc3, hm3⟩
    have H0 : Hid (Bp Y w w3 C (k + 6) (.slice none 0 0) 0) := ⟨HM3.out.trans hm3, hc3, fun _ _ => 0, Buf.nil _ _ _ _ _⟩
    have hq : ∃ q : Nat, q ≤ 17 ∧ ([0, 16, 17] : List Int).getD i 0 = q := by
      match i, hi with
      | 0, _ => exact ⟨0, by omega, rfl⟩
      | 1, _ => exact ⟨16, by omega, rfl⟩
      | 2, _ => exact ⟨17, by omega, rfl⟩
    obtain ⟨q, hq17, hqe⟩ := hq
    rw [hqe]
    clear hqe hi hm3 hc3 HM3 HC3 hl hsC
    go_wp2_with fail
    go_loopw [3, 4] (fun v i wr => ∃ (j l : Nat), j + l = q ∧ i = .int .i64 l ∧ Bp Y w wr C (k + 6 + 20 * j) v j) (fun _ i _ => (intOf i).toNat)
    case atStart => exact ⟨0, q, by omega, rfl, H0.out⟩
    case round =>
      obtain ⟨j, l, hjl, rfl, hb⟩ := hrel
      clear H0
      have HB : Hid (Bp Y w _ C (k + 6 + 20 * j) _ j) := hb
      clear hb
      by_cases hlt : 0 < l
      · have hlt' : (l : Int) > 0 := by omega
        go_wp2_with fail
        refine (ins_any Y C (k + 6 + 20 * j) _ (by omega) (fun b hb => ⟨Nat.lt_of_lt_of_le (hY b hb).1 HB.out.mod.size, (hY b hb).2⟩) HB.out.cur).mono ?_
        rintro e w6 ⟨a, b, c, rfl, hc6, hm6⟩
        obtain ⟨ao, cap, w7, hrun, hB7⟩ := (HB.out.cur' hC hc6 hm6).push (by omega) hC (fun b hb => (hY b hb).1) a b c
        have HRN : Hid _ := hrun
        have HB7 : Hid (Bp Y w w7 C (k + 6 + 20 * j + 20) (.slice ao (j + 1) cap) (j + 1)) := hB7
        clear hrun hB7 hc6 hm6 HB
        go_wp2_with (first | (at_builtin; refine wpList_app (.tmp 17) (.tmp 20) 59 (by rfl) ?_; refine ⟨_, _, HRN.out, ?_⟩) | fail)
        go_wp2
        go_roundw
        case rel => exact ⟨j + 1, l - 1, by omega, by go_num, by rw [show k + 6 + 20 * (j + 1) = k + 6 + 20 * j + 20 by omega]; exact HB7.out⟩
        case measure => simp [intOf]; omega
      · obtain rfl : l = 0 := by omega
        go_wp2
        go_ret
        exact ⟨_, j, rfl, by omega, HB.out.mod, HB.out.cur.le (by omega), HB.out.ex⟩
end Go.Proofs.Ytbpdopcdhnemfaa
/- Small machines: what a step and a run leave, without any walk. -/
namespace Go.Proofs.Ytbpdopcdhnemfaa
open Go.RowKit
set_option linter.unusedSimpArgs false
set_option linter.unusedVariables false
/-- What a guest holds. -/
structure GD where
  at_ : Int
  acc : Int
  nc : Nat
  c : Nat → Int
  nt : Nat
  t : Nat → Int
  d : Bool
structure GD.Good (g : GD) : Prop where
  a0 : 0 ≤ g.at_
  a1 : g.at_ ≤ 16
  acc : wordOK g.acc
  nc : g.nc = 8
  c : ∀ i, i < g.nc → wordOK (g.c i)
  nt : g.nt ≤ 20
  t : ∀ i, i < g.nt → wordOK (g.t i)
/-- Two that read alike. -/
structure GD.Alike (g h : GD) : Prop where
  a : g.at_ = h.at_
  acc : g.acc = h.acc
  nc : g.nc = h.nc
  c : ∀ i, i < g.nc → g.c i = h.c i
  nt : g.nt = h.nt
  t : ∀ i, i < g.nt → g.t i = h.t i
  d : g.d = h.d
theorem GD.Alike.refl (g : GD) : g.Alike g := ⟨rfl, rfl, rfl, fun _ _ => rfl, rfl, fun _ _ => rfl, rfl⟩
theorem GD.Alike.symm {g h : GD} (e : g.Alike h) : h.Alike g := ⟨e.a.symm, e.acc.symm, e.nc.symm, fun i hi => (e.c i (by rw [e.nc]; exact hi)).symm, e.nt.symm, fun i hi => (e.t i (by rw [e.nt]; exact hi)).symm, e.d.symm⟩
theorem GD.Alike.trans {g h k : GD} (e : g.Alike h) (f : h.Alike k) : g.Alike k := ⟨e.a.trans f.a, e.acc.trans f.acc, e.nc.trans f.nc, fun i hi => (e.c i hi).trans (f.c i (by rw [← e.nc]; exact hi)), e.nt.trans f.nt, fun i hi => (e.t i hi).trans (f.t i (by rw [← e.nt]; exact hi)), e.d.trans f.d⟩
theorem GD.Alike.good {g h : GD} (e : g.Alike h) (k : g.Good) : h.Good := ⟨e.a ▸ k.a0, e.a ▸ k.a1, e.acc ▸ k.acc, e.nc ▸ k.nc, fun i hi => by rw [← e.c i (by rw [e.nc]; exact hi)]; exact k.c i (by rw [e.nc]; exact hi), e.nt ▸ k.nt, fun i hi => by rw [← e.t i (by rw [e.nt]; exact hi)]; exact k.t i (by rw [e.nt]; exact hi)⟩
/-- An instruction of a good program. -/
def insOK (k a x : Int) : Prop :=
  ((k = 1 ∨ k = 2) ∧ a = 0 ∧ wordOK x) ∨ ((k = 3 ∨ k = 4) ∧ (0 ≤ a ∧ a ≤ 7) ∧ x = 0) ∨ (k = 5 ∧ a = 0 ∧ 0 ≤ x ∧ x ≤ 15) ∨ ((k = 6 ∨ k = 7) ∧ a = 0 ∧ x = 0)
structure progOK (n : Nat) (F : Nat → Nat → Int) : Prop where
  n1 : 1 ≤ n
  n2 : n ≤ 16
  i : ∀ i, i < n → insOK (F i 0) (F i 1) (F i 2)
def updI (f : Nat → Int) (k : Nat) (v : Int) : Nat → Int := fun i => if i = k then v else f i
/-- Where a guest stops. -/
def stopsAt (n : Nat) (F : Nat → Nat → Int) (g : GD) : Prop := (n : Int) ≤ g.at_ ∨ F g.at_.toNat 0 = 7 ∨ (F g.at_.toNat 0 = 6 ∧ g.nt = 20)
instance (n : Nat) (F : Nat → Nat → Int) (g : GD) : Decidable (stopsAt n F g) := by unfold stopsAt; infer_instance
/-- What an instruction does where it does not stop. -/
def doG (k a x : Int) (g : GD) : GD :=
  if k = 1 then { g with acc := x, at_ := g.at_ + 1 }
  else if k = 2 then { g with acc := (g.acc + x) % 65536, at_ := g.at_ + 1 }
  else if k = 3 then { g with acc := g.c a.toNat, at_ := g.at_ + 1 }
  else if k = 4 then { g with c := updI g.c a.toNat g.acc, at_ := g.at_ + 1 }
  else if k = 5 then { g with at_ := if g.acc = 0 then g.at_ + 1 else x }
  else { g with nt := g.nt + 1, t := updI g.t g.nt g.acc, at_ := g.at_ + 1 }
def stepG (n : Nat) (F : Nat → Nat → Int) (g : GD) : GD := if stopsAt n F g then { g with d := true } else doG (F g.at_.toNat 0) (F g.at_.toNat 1) (F g.at_.toNat 2) g
theorem stepG_good {n : Nat} {F : Nat → Nat → Int} {g : GD} (hp : progOK n F) (hg : g.Good) : (stepG n F g).Good := by
  unfold stepG
  by_cases h : stopsAt n F g
  · rw [if_pos h]; exact ⟨hg.a0, hg.a1, hg.acc, hg.nc, hg.c, hg.nt, hg.t⟩
  · rw [if_neg h]
    unfold stopsAt at h
    have h1 : ¬ (n : Int) ≤ g.at_ := fun e => h (Or.inl e)
    have h2 : ¬ F g.at_.toNat 0 = 7 := fun e => h (Or.inr (Or.inl e))
    have h3 : F g.at_.toNat 0 = 6 → ¬ g.nt = 20 := fun e e' => h (Or.inr (Or.inr ⟨e, e'⟩))
    have hn := hp.n2
    have ha0 := hg.a0
    have hi := hp.i g.at_.toNat (by omega)
    have hnt := hg.nt
    have hnc := hg.nc
    generalize F g.at_.toNat 0 = k at *
    generalize F g.at_.toNat 1 = a at *
    generalize F g.at_.toNat 2 = x at *
    unfold doG
    split
    · rename_i e
      have hx : wordOK x := by rcases hi with q | q | q | q <;> first | exact q.2.2 | (exfalso; omega)
      exact ⟨by dsimp only; omega, by dsimp only; omega, hx, hg.nc, hg.c, hg.nt, hg.t⟩
    · split
      · have h4 := hg.acc
        exact ⟨by dsimp only; omega, by dsimp only; omega, ⟨by dsimp only; omega, by dsimp only; omega⟩, hg.nc, hg.c, hg.nt, hg.t⟩
      · split
        · rename_i e
          have ha : 0 ≤ a ∧ a ≤ 7 := by rcases hi with q | q | q | q <;> first | exact q.2.1 | (exfalso; omega)
          exact ⟨by dsimp only; omega, by dsimp only; omega, hg.c a.toNat (by omega), hg.nc, hg.c, hg.nt, hg.t⟩
        · split
          · exact ⟨by dsimp only; omega, by dsimp only; omega, hg.acc, hg.nc, fun i hi => by dsimp only; unfold updI; split; exact hg.acc; exact hg.c i hi, hg.nt, hg.t⟩
          · split
            · rename_i e
              have hx : 0 ≤ x ∧ x ≤ 15 := by rcases hi with q | q | q | q <;> first | exact q.2.2 | (exfalso; omega)
              exact ⟨by dsimp only; split <;> omega, by dsimp only; split <;> omega, hg.acc, hg.nc, hg.c, hg.nt, hg.t⟩
            · have e : k = 6 := by rcases hi with q | q | q | q <;> omega
              have := h3 e
              exact ⟨by dsimp only; omega, by dsimp only; omega, hg.acc, hg.nc, hg.c, by dsimp only; omega, fun i hi => by dsimp only at *; unfold updI; split; exact hg.acc; exact hg.t i (by omega)⟩
theorem stepG_alike {n : Nat} {F : Nat → Nat → Int} {g h : GD} (hp : progOK n F) (hg : g.Good) (e : g.Alike h) : (stepG n F g).Alike (stepG n F h) := by
  obtain ⟨ga, gacc, gnc, gc, gnt, gt, gd⟩ := g
  obtain ⟨ha, hacc, hnc, hc, hnt, ht, hd⟩ := h
  obtain ⟨ea, eacc, enc, ec, ent, et, ed⟩ := e
  dsimp only at ea eacc enc ec ent et ed
  subst ea eacc enc ent ed
  have hnc8 : gnc = 8 := hg.nc
  unfold stepG
  by_cases hs : stopsAt n F ⟨ga, gacc, gnc, gc, gnt, gt, gd⟩
  · have hs' : stopsAt n F ⟨ga, gacc, gnc, hc, gnt, ht, gd⟩ := hs
    rw [if_pos hs, if_pos hs']
    exact ⟨rfl, rfl, rfl, ec, rfl, et, rfl⟩
  · have hs' : ¬ stopsAt n F ⟨ga, gacc, gnc, hc, gnt, ht, gd⟩ := hs
    rw [if_neg hs, if_neg hs']
    have h1 : ¬ (n : Int) ≤ ga := fun e => hs (Or.inl e)
    have ha0 : 0 ≤ ga := hg.a0
    have hi := hp.i ga.toNat (by omega)
    dsimp only
    generalize F ga.toNat 0 = k at *
    generalize F ga.toNat 1 = a at *
    generalize F ga.toNat 2 = x at *
    unfold doG
    split
    · exact ⟨rfl, rfl, rfl, ec, rfl, et, rfl⟩
    · split
      · exact ⟨rfl, rfl, rfl, ec, rfl, et, rfl⟩
      · split
        · have ha : 0 ≤ a ∧ a ≤ 7 := by rcases hi with q | q | q | q <;> first | exact q.2.1 | (exfalso; omega)
          exact ⟨rfl, ec a.toNat (by omega), rfl, ec, rfl, et, rfl⟩
        · split
          · exact ⟨rfl, rfl, rfl, fun i hi => by dsimp only at *; unfold updI; split; rfl; exact ec i hi, rfl, et, rfl⟩
          · split
            · exact ⟨rfl, rfl, rfl, ec, rfl, et, rfl⟩
            · exact ⟨rfl, rfl, rfl, ec, rfl, fun i hi => by dsimp only at *; unfold updI; split; rfl; exact et i (by omega), rfl⟩
/-- A run of so many steps: the guest, and how many. -/
def runG (n : Nat) (F : Nat → Nat → Int) : Nat → GD → GD
  | 0, g => g
  | s + 1, g => if g.d = true then g else runG n F s (stepG n F g)
def manyG (n : Nat) (F : Nat → Nat → Int) : Nat → GD → Nat
  | 0, _ => 0
  | s + 1, g => if g.d = true then 0 else manyG n F s (stepG n F g) + 1
/-- The cell that the next step stores to. -/
def storesG (n : Nat) (F : Nat → Nat → Int) (g : GD) (i : Nat) : Prop := g.at_ < (n : Int) ∧ F g.at_.toNat 0 = 4 ∧ F g.at_.toNat 1 = (i : Int)
/-- The cells that a run stores to. -/
def tchG (n : Nat) (F : Nat → Nat → Int) : Nat → GD → Nat → Prop
  | 0, _, _ => False
  | s + 1, g, i => g.d = false ∧ (storesG n F g i ∨ tchG n F s (stepG n F g) i)
theorem runG_done {n : Nat} {F : Nat → Nat → Int} {g : GD} (h : g.d = true) (s : Nat) : runG n F s g = g ∧ manyG n F s g = 0 := by
  cases s with
  | zero => exact ⟨rfl, rfl⟩
  | succ s => exact ⟨by unfold runG; rw [if_pos h], by unfold manyG; rw [if_pos h]⟩
theorem tchG_done {n : Nat} {F : Nat → Nat → Int} {g : GD} (h : g.d = true) (s i : Nat) : ¬ tchG n F s g i := by
  cases s with
  | zero => exact id
  | succ s => exact fun k => by have := k.1; rw [h] at this; cases this
theorem runG_next {n : Nat} {F : Nat → Nat → Int} {g : GD} (h : g.d = false) (s : Nat) : runG n F (s + 1) g = runG n F s (stepG n F g) ∧ manyG n F (s + 1) g = manyG n F s (stepG n F g) + 1 := by
  have h' : ¬ g.d = true := by rw [h]; decide
  exact ⟨by show (if g.d = true then g else _) = _; rw [if_neg h'], by show (if g.d = true then 0 else _) = _; rw [if_neg h']⟩
theorem runG_good {n : Nat} {F : Nat → Nat → Int} (hp : progOK n F) : ∀ (s : Nat) {g : GD}, g.Good → (runG n F s g).Good := by
  intro s
  induction s with
  | zero => exact fun h => h
  | succ s ih =>
    intro g h
    cases hd : g.d
    · rw [(runG_next hd s).1]; exact ih (stepG_good hp h)
    · rw [(runG_done hd _).1]; exact h
theorem runG_alike {n : Nat} {F : Nat → Nat → Int} (hp : progOK n F) : ∀ (s : Nat) {g h : GD}, g.Good → g.Alike h → (runG n F s g).Alike (runG n F s h) ∧ manyG n F s g = manyG n F s h := by
  intro s
  induction s with
  | zero => exact fun _ e => ⟨e, rfl⟩
  | succ s ih =>
    intro g h hg e
    cases hd : g.d
    · have hd' : h.d = false := e.d ▸ hd
      rw [(runG_next hd s).1, (runG_next hd s).2, (runG_next hd' s).1, (runG_next hd' s).2]
      have := ih (stepG_good hp hg) (stepG_alike hp hg e)
      exact ⟨this.1, by rw [this.2]⟩
    · have hd' : h.d = true := e.d ▸ hd
      rw [(runG_done hd _).1, (runG_done hd _).2, (runG_done hd' _).1, (runG_done hd' _).2]
      exact ⟨e, rfl⟩
theorem manyG_le {n : Nat} {F : Nat → Nat → Int} : ∀ (s : Nat) (g : GD), manyG n F s g ≤ s ∧ (manyG n F s g < s → (runG n F s g).d = true) := by
  intro s
  induction s with
  | zero => exact fun g => ⟨Nat.le_refl _, fun h => absurd h (Nat.not_lt_zero _)⟩
  | succ s ih =>
    intro g
    cases hd : g.d
    · rw [(runG_next hd s).1, (runG_next hd s).2]
      have := ih (stepG n F g)
      exact ⟨by omega, fun h => this.2 (by omega)⟩
    · rw [(runG_done hd _).1, (runG_done hd _).2]
      exact ⟨by omega, fun _ => hd⟩
/-- A run in two parts. -/
theorem runG_add {n : Nat} {F : Nat → Nat → Int} : ∀ (k s : Nat) (g : GD), runG n F (k + s) g = runG n F s (runG n F k g) ∧ manyG n F (k + s) g = manyG n F k g + manyG n F s (runG n F k g) := by
  intro k
  induction k with
  | zero => intro s g; rw [Nat.zero_add]; exact ⟨rfl, by show _ = 0 + _; rw [Nat.zero_add]; rfl⟩
  | succ k ih =>
    intro s g
    cases hd : g.d
    · rw [show k + 1 + s = (k + s) + 1 by omega, (runG_next hd _).1, (runG_next hd _).2, (runG_next hd _).1, (runG_next hd _).2]
      have := ih s (stepG n F g)
      exact ⟨this.1, by rw [this.2]; omega⟩
    · rw [(runG_done hd _).1, (runG_done hd _).2, (runG_done hd _).1, (runG_done hd _).2, (runG_done hd _).1, (runG_done hd _).2]
      exact ⟨rfl, rfl⟩
theorem stepG_cell {n : Nat} {F : Nat → Nat → Int} {g : GD} (hp : progOK n F) (hg : g.Good) {i : Nat} (h : ¬ storesG n F g i) : (stepG n F g).c i = g.c i := by
  unfold stepG
  by_cases hs : stopsAt n F g
  · rw [if_pos hs]
  · rw [if_neg hs]
    have h1 : ¬ (n : Int) ≤ g.at_ := fun e => hs (Or.inl e)
    have ha0 := hg.a0
    have hi := hp.i g.at_.toNat (by omega)
    have hst : F g.at_.toNat 0 = 4 → ¬ F g.at_.toNat 1 = (i : Int) := fun e e' => h ⟨by omega, e, e'⟩
    clear h hs
    generalize F g.at_.toNat 0 = k at *
    generalize F g.at_.toNat 1 = a at *
    generalize F g.at_.toNat 2 = x at *
    unfold doG
    split
    · rfl
    · split
      · rfl
      · split
        · rfl
        · split
          · rename_i e
            have ha : 0 ≤ a ∧ a ≤ 7 := by rcases hi with q | q | q | q <;> first | exact q.2.1 | (exfalso; omega)
            have := hst e
            show updI g.c a.toNat g.acc i = _
            unfold updI
            rw [if_neg (by omega)]
          · split <;> rfl
theorem runG_cell {n : Nat} {F : Nat → Nat → Int} (hp : progOK n F) : ∀ (s : Nat) {g : GD}, g.Good → ∀ i, ¬ tchG n F s g i → (runG n F s g).c i = g.c i := by
  intro s
  induction s with
  | zero => exact fun _ _ _ => rfl
  | succ s ih =>
    intro g hg i h
    cases hd : g.d
    · rw [(runG_next hd s).1, ih (stepG_good hp hg) i (fun k => h ⟨hd, Or.inr k⟩)]
      exact stepG_cell hp hg (fun k => h ⟨hd, Or.inl k⟩)
    · rw [(runG_done hd _).1]
theorem stepG_told {n : Nat} {F : Nat → Nat → Int} {g : GD} : g.nt ≤ (stepG n F g).nt ∧ ∀ i, i < g.nt → (stepG n F g).t i = g.t i := by
  unfold stepG doG
  split
  · exact ⟨Nat.le_refl _, fun _ _ => rfl⟩
  · split
    · exact ⟨Nat.le_refl _, fun _ _ => rfl⟩
    · split
      · exact ⟨Nat.le_refl _, fun _ _ => rfl⟩
      · split
        · exact ⟨Nat.le_refl _, fun _ _ => rfl⟩
        · split
          · exact ⟨Nat.le_refl _, fun _ _ => rfl⟩
          · split
            · exact ⟨Nat.le_refl _, fun _ _ => rfl⟩
            · exact ⟨by dsimp only; omega, fun i hi => by dsimp only; unfold updI; rw [if_neg (by omega)]⟩
theorem runG_told {n : Nat} {F : Nat → Nat → Int} : ∀ (s : Nat) (g : GD), g.nt ≤ (runG n F s g).nt ∧ ∀ i, i < g.nt → (runG n F s g).t i = g.t i := by
  intro s
  induction s with
  | zero => exact fun _ => ⟨Nat.le_refl _, fun _ _ => rfl⟩
  | succ s ih =>
    intro g
    cases hd : g.d
    · rw [(runG_next hd s).1]
      have h1 := stepG_told (n := n) (F := F) (g := g)
      have h2 := ih (stepG n F g)
      exact ⟨by omega, fun i hi => (h2.2 i (by omega)).trans (h1.2 i hi)⟩
    · rw [(runG_done hd _).1]; exact ⟨Nat.le_refl _, fun _ _ => rfl⟩
theorem tchG_lt {n : Nat} {F : Nat → Nat → Int} (hp : progOK n F) : ∀ (s : Nat) {g : GD}, g.Good → ∀ i, tchG n F s g i → i < 8 := by
  intro s
  induction s with
  | zero => exact fun _ _ h => h.elim
  | succ s ih =>
    intro g hg i h
    rcases h.2 with h1 | h1
    · have ha0 := hg.a0
      have hi := hp.i g.at_.toNat (by have := h1.1; omega)
      have h2 := h1.2.1
      have h3 := h1.2.2
      rcases hi with q | q | q | q <;> omega
    · exact ih (stepG_good hp hg) i h1
end Go.Proofs.Ytbpdopcdhnemfaa
/- The program's leaves and lists of leaves. -/
namespace Go.Proofs.Ytbpdopcdhnemfaa
open Go.RowKit
set_option linter.unusedSimpArgs false
set_option linter.unusedVariables false
def mayOK (n : Int) : Prop := 1 ≤ n ∧ n ≤ 3
instance (n : Int) : Decidable (mayOK n) := by unfold mayOK; exact inferInstance
def pgOK (n : Int) : Prop := 0 ≤ n ∧ n ≤ 15
instance (n : Int) : Decidable (pgOK n) := by unfold pgOK; exact inferInstance
def cntOK (n : Int) : Prop := 1 ≤ n ∧ n ≤ 4
instance (n : Int) : Decidable (cntOK n) := by unfold cntOK; exact inferInstance
set_option maxHeartbeats 400000 in
theorem isMay_yes (n : Int) (w : World) (h : mayOK n) : Calls Try.prog 104 #[.int .i64 n] w fun e w' => e = .returned (.bool true) ∧ w' = w := by
  obtain ⟨h1, h2⟩ := h
  skip
  go_enter Try.func104, Try.ntmps104
  go_wp2
  go_ret
  exact ⟨rfl, rfl⟩
set_option maxHeartbeats 400000 in
theorem isMay_no (n : Int) (w : World) (h : ¬ mayOK n) : Calls Try.prog 104 #[.int .i64 n] w fun e w' => e = .returned (.bool false) ∧ w' = w := by
  by_cases h1 : 1 ≤ n
  · have h2 : ¬ n ≤ 3 := fun h3 => h ⟨h1, by omega⟩
    clear h
    go_enter Try.func104, Try.ntmps104
    go_wp2
    go_ret
    exact ⟨rfl, rfl⟩
  · clear h
    have hd : decide (n ≥ 1) = false := by simpa using h1
    go_enter Try.func104, Try.ntmps104
    go_wp2
    go_ret
    exact ⟨rfl, rfl⟩
theorem isMay_any (n : Int) (w : World) : Calls Try.prog 104 #[.int .i64 n] w fun e w' => ∃ r, e = .returned (.bool r) ∧ (r = true ↔ mayOK n) ∧ w' = w := by
  by_cases h : mayOK n
  · exact (isMay_yes n w h).mono fun e w' ⟨h1, h2⟩ => ⟨true, h1, ⟨fun _ => h, fun _ => rfl⟩, h2⟩
  · exact (isMay_no n w h).mono fun e w' ⟨h1, h2⟩ => ⟨false, h1, iff_f h, h2⟩
set_option maxHeartbeats 400000 in
theorem isPage_yes (n : Int) (w : World) (h : pgOK n) : Calls Try.prog 160 #[.int .i64 n] w fun e w' => e = .returned (.bool true) ∧ w' = w := by
  obtain ⟨h1, h2⟩ := h
  have h2 : n < 16 := by omega
  go_enter Try.func160, Try.ntmps160
  go_wp2
  go_ret
  exact ⟨rfl, rfl⟩
set_option maxHeartbeats 400000 in
theorem isPage_no (n : Int) (w : World) (h : ¬ pgOK n) : Calls Try.prog 160 #[.int .i64 n] w fun e w' => e = .returned (.bool false) ∧ w' = w := by
  by_cases h1 : 0 ≤ n
  · have h2 : ¬ n < 16 := fun h3 => h ⟨h1, by omega⟩
    clear h
    go_enter Try.func160, Try.ntmps160
    go_wp2
    go_ret
    exact ⟨rfl, rfl⟩
  · clear h
    have hd : decide (n ≥ 0) = false := by simpa using h1
    go_enter Try.func160, Try.ntmps160
    go_wp2
    go_ret
    exact ⟨rfl, rfl⟩
theorem isPage_any (n : Int) (w : World) : Calls Try.prog 160 #[.int .i64 n] w fun e w' => ∃ r, e = .returned (.bool r) ∧ (r = true ↔ pgOK n) ∧ w' = w := by
  by_cases h : pgOK n
  · exact (isPage_yes n w h).mono fun e w' ⟨h1, h2⟩ => ⟨true, h1, ⟨fun _ => h, fun _ => rfl⟩, h2⟩
  · exact (isPage_no n w h).mono fun e w' ⟨h1, h2⟩ => ⟨false, h1, iff_f h, h2⟩
set_option maxHeartbeats 400000 in
theorem isCnt_yes (n : Int) (w : World) (h : cntOK n) : Calls Try.prog 166 #[.int .i64 n] w fun e w' => e = .returned (.bool true) ∧ w' = w := by
  obtain ⟨h1, h2⟩ := h
  skip
  go_enter Try.func166, Try.ntmps166
  go_wp2
  go_ret
  exact ⟨rfl, rfl⟩
set_option maxHeartbeats 400000 in
theorem isCnt_no (n : Int) (w : World) (h : ¬ cntOK n) : Calls Try.prog 166 #[.int .i64 n] w fun e w' => e = .returned (.bool false) ∧ w' = w := by
  by_cases h1 : 1 ≤ n
  · have h2 : ¬ n ≤ 4 := fun h3 => h ⟨h1, by omega⟩
    clear h
    go_enter Try.func166, Try.ntmps166
    go_wp2
    go_ret
    exact ⟨rfl, rfl⟩
  · clear h
    have hd : decide (n ≥ 1) = false := by simpa using h1
    go_enter Try.func166, Try.ntmps166
    go_wp2
    go_ret
    exact ⟨rfl, rfl⟩
theorem isCnt_any (n : Int) (w : World) : Calls Try.prog 166 #[.int .i64 n] w fun e w' => ∃ r, e = .returned (.bool r) ∧ (r = true ↔ cntOK n) ∧ w' = w := by
  by_cases h : cntOK n
  · exact (isCnt_yes n w h).mono fun e w' ⟨h1, h2⟩ => ⟨true, h1, ⟨fun _ => h, fun _ => rfl⟩, h2⟩
  · exact (isCnt_no n w h).mono fun e w' ⟨h1, h2⟩ => ⟨false, h1, iff_f h, h2⟩
set_option maxHeartbeats 400000 in
theorem isPlace_yes (n : Int) (w : World) (h : pgOK n) : Calls Try.prog 101 #[.int .i64 n] w fun e w' => e = .returned (.bool true) ∧ w' = w := by
  obtain ⟨h1, h2⟩ := h
  have h2 : n < 16 := by omega
  go_enter Try.func101, Try.ntmps101
  go_wp2
  go_ret
  exact ⟨rfl, rfl⟩
set_option maxHeartbeats 400000 in
theorem isPlace_no (n : Int) (w : World) (h : ¬ pgOK n) : Calls Try.prog 101 #[.int .i64 n] w fun e w' => e = .returned (.bool false) ∧ w' = w := by
  by_cases h1 : 0 ≤ n
  · have h2 : ¬ n < 16 := fun h3 => h ⟨h1, by omega⟩
    clear h
    go_enter Try.func101, Try.ntmps101
    go_wp2
    go_ret
    exact ⟨rfl, rfl⟩
  · clear h
    have hd : decide (n ≥ 0) = false := by simpa using h1
    go_enter Try.func101, Try.ntmps101
    go_wp2
    go_ret
    exact ⟨rfl, rfl⟩
theorem isPlace_any (n : Int) (w : World) : Calls Try.prog 101 #[.int .i64 n] w fun e w' => ∃ r, e = .returned (.bool r) ∧ (r = true ↔ pgOK n) ∧ w' = w := by
  by_cases h : pgOK n
  · exact (isPlace_yes n w h).mono fun e w' ⟨h1, h2⟩ => ⟨true, h1, ⟨fun _ => h, fun _ => rfl⟩, h2⟩
  · exact (isPlace_no n w h).mono fun e w' ⟨h1, h2⟩ => ⟨false, h1, iff_f h, h2⟩
theorem leaf_zero {p m : Int} (h : m = 0) : leafOK p m ↔ p = 0 := by unfold leafOK; omega
theorem leaf_some {p m : Int} (h : ¬ m = 0) : leafOK p m ↔ mayOK m ∧ pgOK p := by unfold leafOK mayOK pgOK; omega
set_option maxHeartbeats 1600000 in
theorem isLeaf_any (p m : Int) (w : World) : Calls Try.prog 195 #[.agg #[.int .i64 p, .int .i64 m]] w fun e w' => ∃ r, e = .returned (.bool r) ∧ (r = true ↔ leafOK p m) ∧ Blw w w' := by
  have hb0 : Blw w (w.alloc (.cells #[.int .i64 p, .int .i64 m] 189)) := (Blw.refl _).alloc _
  obtain ⟨p0, p1⟩ := get2 (box2 w (.int .i64 p) (.int .i64 m) 189)
  by_cases hm : m = 0
  · have HI : Hid (leafOK p m ↔ p = 0) := leaf_zero hm
    have d1 : (m == 0) = true := by simp [hm]
    clear hm
    by_cases hp : p = 0
    · have HO : Hid (leafOK p m) := HI.out.2 hp
      have d2 : (p == 0) = true := by simp [hp]
      clear hp HI
      go_enter Try.func195, Try.ntmps195
      go_wp2
      go_ret
      exact ⟨true, rfl, iff_t HO.out, hb0⟩
    · have HO : Hid (¬ leafOK p m) := fun g => hp (HI.out.1 g)
      have d2 : (p == 0) = false := by simp [hp]
      clear hp HI
      go_enter Try.func195, Try.ntmps195
      go_wp2
      go_ret
      exact ⟨false, rfl, iff_f HO.out, hb0⟩
  have HI : Hid (leafOK p m ↔ mayOK m ∧ pgOK p) := leaf_some hm
  have d1 : (m == 0) = false := by simp [hm]
  clear hm
  go_enter Try.func195, Try.ntmps195
  go_wp2_with fail
  revert hb0 p0 p1
  generalize w.alloc (.cells #[.int .i64 p, .int .i64 m] 189) = w0
  intro hb0 p0 p1
  refine (isMay_any m _).mono ?_
  rintro e w0 ⟨r, rfl, hr, rfl⟩
  have HR : Hid (r = true ↔ mayOK m) := hr
  clear hr
  cases r
  · have HN : Hid (¬ leafOK p m) := fun g => by have := HR.out.2 (HI.out.1 g).1; simp at this
    clear HR HI
    go_wp2
    go_ret
    exact ⟨false, rfl, iff_f HN.out, hb0⟩
  have H1 : Hid (mayOK m) := HR.out.1 (by first | rfl | trivial)
  clear HR
  go_wp2_with fail
  refine (isPage_any p _).mono ?_
  rintro e w0 ⟨r, rfl, hr, rfl⟩
  have HR : Hid (r = true ↔ leafOK p m) := hr.trans ⟨fun q => HI.out.2 ⟨H1.out, q⟩, fun g => (HI.out.1 g).2⟩
  clear hr HI
  go_wp2
  go_ret
  exact ⟨r, rfl, HR.out, hb0⟩
set_option maxHeartbeats 1600000 in
theorem notLeaf_any (p m : Int) (w : World) : Calls Try.prog 194 #[.agg #[.int .i64 p, .int .i64 m]] w fun e w' => ∃ r, e = .returned (.bool r) ∧ (r = true ↔ ¬ leafOK p m) ∧ Blw w w' := by
  have hb0 : Blw w (w.alloc (.cells #[.int .i64 p, .int .i64 m] 189)) := (Blw.refl _).alloc _
  obtain ⟨p0, p1⟩ := get2 (box2 w (.int .i64 p) (.int .i64 m) 189)
  go_enter Try.func194, Try.ntmps194
  go_wp2_with fail
  clear p0 p1
  refine (isLeaf_any p m _).mono ?_
  rintro e w1 ⟨r, rfl, hr, hb1⟩
  have HR : Hid (r = true ↔ leafOK p m) := hr
  replace hb0 := hb0.trans hb1
  clear hr hb1
  cases r
  · have HN : Hid (¬ leafOK p m) := fun g => by have := HR.out.2 g; simp at this
    clear HR
    go_wp2
    go_ret
    exact ⟨true, rfl, iff_t HN.out, hb0⟩
  · have HN : Hid (leafOK p m) := HR.out.1 (by first | rfl | trivial)
    clear HR
    go_wp2
    go_ret
    exact ⟨false, rfl, iff_f (fun q => q HN.out), hb0⟩
def allLeaf (f g : Nat → Int) (n : Nat) : Prop := ∀ j, j < n → leafOK (f j) (g j)
set_option maxRecDepth 10000 in
set_option maxHeartbeats 1600000 in
theorem indexLeaf_any (ao : Option Addr) (c0 n : Nat) (f g : Nat → Int) (Y : Nat → Prop) (w : World) (h : UndosAt Y w ao n f g) :
    Calls Try.prog 204 #[.slice ao n c0, .func (.func 194) #[] #[]] w fun e w' => ∃ r : Int, e = .returned (.int .i64 r) ∧ (0 ≤ r ↔ ¬ allLeaf f g n) ∧ Blw w w' := by
  have hn := h.1
  have H : Hid (UndosAt Y w ao n f g) := h
  clear h
  go_enter Try.func204, Try.ntmps204
  go_wp2_with fail
  go_loopw [8] (fun i wr => ∃ j : Nat, j ≤ n ∧ i = .int .i64 j ∧ allLeaf f g j ∧ Blw w wr) (fun i _ => n - (intOf i).toNat)
  case atStart => exact ⟨0, Nat.zero_le _, rfl, fun t ht => absurd ht (Nat.not_lt_zero _), Blw.refl _⟩
  case round =>
    obtain ⟨j, hj, rfl, hok, hb⟩ := hrel
    have HO : Hid (allLeaf f g j) := hok
    have HB : Hid (Blw w wr) := hb
    clear hok hb
    by_cases hlt : j < n
    · obtain ⟨b, o, e, -, q0, q1⟩ := (H.out.blw HB.out).2 j hlt
      subst e
      go_wp2_with fail
      clear q0 q1
      refine (notLeaf_any (f j) (g j) _).mono ?_
      rintro e w1 ⟨r, rfl, hr, hb1⟩
      have HR : Hid (r = true ↔ ¬ leafOK (f j) (g j)) := hr
      replace HB : Hid (Blw w w1) := HB.out.trans hb1
      clear hr hb1
      cases r
      · have HN : Hid (allLeaf f g (j + 1)) := fun t ht => by
          by_cases e : t = j
          · subst e; exact Classical.byContradiction fun q => by have := HR.out.2 q; simp at this
          · exact HO.out t (by omega)
        clear HR HO
        go_wp2
        go_roundw
        case rel => exact ⟨j + 1, by omega, by go_num, HN.out, HB.out⟩
        case measure => simp [intOf]; omega
      · have HN : Hid (0 ≤ (j : Int) ↔ ¬ allLeaf f g n) := ⟨fun _ q => HR.out.1 (by first | rfl | trivial) (q j hlt), fun _ => by omega⟩
        clear HR HO
        go_wp2
        exact bodyPost_ret (v := .int .i64 (j : Int)) (by simp [results, Try.results204, go_sem]) rfl ⟨_, rfl, HN.out, HB.out⟩
    · obtain rfl : j = n := by omega
      have HN : Hid (0 ≤ (-1 : Int) ↔ ¬ allLeaf f g j) := ⟨fun q => by omega, fun q => absurd HO.out q⟩
      clear HO
      go_wp2
      exact bodyPost_ret (v := .int .i64 (-1)) (by simp [results, Try.results204, go_sem]) rfl ⟨_, rfl, HN.out, HB.out⟩
set_option maxHeartbeats 800000 in
theorem anyBad_any (ao : Option Addr) (c0 n : Nat) (f g : Nat → Int) (Y : Nat → Prop) (w : World) (h : UndosAt Y w ao n f g) :
    Calls Try.prog 193 #[.slice ao n c0, .func (.func 194) #[] #[]] w fun e w' => ∃ r, e = .returned (.bool r) ∧ (r = true ↔ ¬ allLeaf f g n) ∧ Blw w w' := by
  go_enter Try.func193, Try.ntmps193
  go_wp2_with fail
  refine (indexLeaf_any ao c0 n f g Y _ h).mono ?_
  rintro e w1 ⟨r, rfl, hr, hb1⟩
  have HR : Hid (0 ≤ r ↔ ¬ allLeaf f g n) := hr
  clear hr h
  by_cases h0 : 0 ≤ r
  · have d0 : decide (r ≥ 0) = true := by simp; omega
    have HN : Hid (¬ allLeaf f g n) := HR.out.1 h0
    clear h0 HR
    go_wp2
    go_ret
    exact ⟨true, rfl, iff_t HN.out, hb1⟩
  · have d0 : decide (r ≥ 0) = false := by simp; omega
    have HN : Hid (¬ ¬ allLeaf f g n) := fun q => h0 (HR.out.2 q)
    clear h0 HR
    go_wp2
    go_ret
    exact ⟨false, rfl, iff_f HN.out, hb1⟩
end Go.Proofs.Ytbpdopcdhnemfaa
/- The program's lists of leaves, held as values. -/
namespace Go.Proofs.Ytbpdopcdhnemfaa
open Go.RowKit
set_option linter.unusedSimpArgs false
set_option linter.unusedVariables false
abbrev eight (f g : Nat → Int) : Array Value := #[.int .i64 (f 0), .int .i64 (g 0), .int .i64 (f 1), .int .i64 (g 1), .int .i64 (f 2), .int .i64 (g 2), .int .i64 (f 3), .int .i64 (g 3)]
abbrev zf : Nat → Int := fun _ => 0
theorem undo8 {Y : Nat → Prop} {w : World} {b o : Nat} {f g : Nat → Int} (h : UndosAt Y w (some ⟨b, o, none⟩) 4 f g) :
    w.cell? ⟨b, o, none⟩ = some (.int .i64 (f 0)) ∧ w.cell? ⟨b, o + 1, none⟩ = some (.int .i64 (g 0)) ∧ w.cell? ⟨b, o + 2, none⟩ = some (.int .i64 (f 1)) ∧ w.cell? ⟨b, o + 3, none⟩ = some (.int .i64 (g 1)) ∧
    w.cell? ⟨b, o + 4, none⟩ = some (.int .i64 (f 2)) ∧ w.cell? ⟨b, o + 5, none⟩ = some (.int .i64 (g 2)) ∧ w.cell? ⟨b, o + 6, none⟩ = some (.int .i64 (f 3)) ∧ w.cell? ⟨b, o + 7, none⟩ = some (.int .i64 (g 3)) := by
  have hh : ∀ i, i < 4 → w.cell? ⟨b, o + i * 2, none⟩ = some (.int .i64 (f i)) ∧ w.cell? ⟨b, o + i * 2 + 1, none⟩ = some (.int .i64 (g i)) := fun i hi => by
    obtain ⟨b', o', e, -, h1, h2⟩ := h.2 i hi
    cases e
    exact ⟨h1, h2⟩
  exact ⟨(hh 0 (by omega)).1, (hh 0 (by omega)).2, (hh 1 (by omega)).1, (hh 1 (by omega)).2, (hh 2 (by omega)).1, (hh 2 (by omega)).2, (hh 3 (by omega)).1, (hh 3 (by omega)).2⟩
theorem row8 {w : World} {b n : Nat} {f : Nat → Value} (r : Row w b n f) (h : 8 ≤ n) : w.cell? ⟨b, 0, none⟩ = some (f 0) ∧ w.cell? ⟨b, 1, none⟩ = some (f 1) ∧ w.cell? ⟨b, 2, none⟩ = some (f 2) ∧ w.cell? ⟨b, 3, none⟩ = some (f 3) ∧ w.cell? ⟨b, 4, none⟩ = some (f 4) ∧ w.cell? ⟨b, 5, none⟩ = some (f 5) ∧ w.cell? ⟨b, 6, none⟩ = some (f 6) ∧ w.cell? ⟨b, 7, none⟩ = some (f 7) :=
  ⟨r.cell (by omega), r.cell (by omega), r.cell (by omega), r.cell (by omega), r.cell (by omega), r.cell (by omega), r.cell (by omega), r.cell (by omega)⟩
theorem row_zero8 (w : World) (t : TypeId) : Row (w.alloc (.cells #[.int .i64 0, .int .i64 0, .int .i64 0, .int .i64 0, .int .i64 0, .int .i64 0, .int .i64 0, .int .i64 0] t)) w.heap.size 8 (fun _ => .int .i64 0) :=
  ⟨_, t, heap_alloc_new _ _, by simp, fun i hi => by
    match i, hi with
    | 0, _ => rfl
    | 1, _ => rfl
    | 2, _ => rfl
    | 3, _ => rfl
    | 4, _ => rfl
    | 5, _ => rfl
    | 6, _ => rfl
    | 7, _ => rfl⟩
theorem set8_blw {w W : World} {z : Nat} (h : Blw w W) (hz : w.heap.size ≤ z) (v0 v1 v2 v3 v4 v5 v6 v7 : Value) : Blw w ((((((((W.setCell ⟨z, 0, none⟩ v0).setCell ⟨z, 1, none⟩ v1).setCell ⟨z, 2, none⟩ v2).setCell ⟨z, 3, none⟩ v3).setCell ⟨z, 4, none⟩ v4).setCell ⟨z, 5, none⟩ v5).setCell ⟨z, 6, none⟩ v6).setCell ⟨z, 7, none⟩ v7) :=
  ((((((((h.setCell hz _).setCell hz _).setCell hz _).setCell hz _).setCell hz _).setCell hz _).setCell hz _).setCell hz _)
theorem arrayAt4 (b o c : Nat) (w : World) : (Instr.arrayAt 202 (.slice (some ⟨b, o, none⟩) 4 c)).run Try.prog w = .ok (.pointer (some ⟨b, o, none⟩)) w := by
  simp [Instr.arrayAt, run_underlying Try.underlying202]
def lsOK (n : Nat) (f g : Nat → Int) : Prop := n = 4 ∧ allLeaf f g 4
set_option maxRecDepth 10000 in
set_option maxHeartbeats 1000000 in
theorem holdLeaves_any (ao : Option Addr) (c0 n : Nat) (f g : Nat → Int) (Y : Nat → Prop) (w : World) (h : UndosAt Y w ao n f g) :
    Calls Try.prog 167 #[.slice ao n c0] w fun e w' => ((lsOK n f g ∧ e = .returned (.tuple #[.agg (eight f g), .bool true])) ∨ (¬ lsOK n f g ∧ e = .returned (.tuple #[.agg (eight zf zf), .bool false]))) ∧ Blw w w' := by
  have hb0 : Blw w (w.alloc (.cells #[.int .i64 0, .int .i64 0, .int .i64 0, .int .i64 0, .int .i64 0, .int .i64 0, .int .i64 0, .int .i64 0] 202)) := (Blw.refl _).alloc _
  have r0 := row_zero8 w 202
  have H : Hid (UndosAt Y (w.alloc (.cells #[.int .i64 0, .int .i64 0, .int .i64 0, .int .i64 0, .int .i64 0, .int .i64 0, .int .i64 0, .int .i64 0] 202)) ao n f g) := h.blw hb0
  have hn := h.1
  clear h
  go_enter Try.func167, Try.ntmps167
  by_cases h4 : n = 4
  case neg =>
    have HN : Hid (¬ lsOK n f g) := fun q => h4 q.1
    have d4 : ((n : Int) != 4) = true := by simp; omega
    obtain ⟨z0, z1, z2, z3, z4, z5, z6, z7⟩ := row8 r0 (by omega)
    have f0 := r0.frozen 0; have f1 := r0.frozen 1; have f2 := r0.frozen 2; have f3 := r0.frozen 3; have f4 := r0.frozen 4; have f5 := r0.frozen 5; have f6 := r0.frozen 6; have f7 := r0.frozen 7
    clear h4 r0
    go_wp2
    refine bodyPost_ret (v := .tuple #[.agg (eight zf zf), .bool false]) (by simp [results, Try.results167, go_sem, z0, z1, z2, z3, z4, z5, z6, z7]) rfl ?_
    refine ⟨Or.inr ⟨HN.out, rfl⟩, ?_⟩
    exact hb0
  subst h4
  go_wp2_with fail
  refine (anyBad_any ao c0 4 f g Y _ H.out).mono ?_
  rintro e w1 ⟨r, rfl, hr, hb1⟩
  have HR : Hid (r = true ↔ ¬ allLeaf f g 4) := hr
  have HB : Hid (Blw w w1) := hb0.trans hb1
  replace H : Hid (UndosAt Y w1 ao 4 f g) := H.out.blw hb1
  replace r0 := r0.blw hb1
  obtain ⟨z0, z1, z2, z3, z4, z5, z6, z7⟩ := row8 r0 (by omega)
  have f0 := r0.frozen 0; have f1 := r0.frozen 1; have f2 := r0.frozen 2; have f3 := r0.frozen 3; have f4 := r0.frozen 4; have f5 := r0.frozen 5; have f6 := r0.frozen 6; have f7 := r0.frozen 7
  clear hr hb1 hb0 r0
  cases r
  · have HO : Hid (lsOK 4 f g) := ⟨rfl, Classical.byContradiction fun q => by have := HR.out.2 q; simp at this⟩
    clear HR
    obtain ⟨b, o, e, -⟩ := H.out.2 0 (by omega)
    subst e
    obtain ⟨q0, q1, q2, q3, q4, q5, q6, q7⟩ := undo8 H.out
    have hat := arrayAt4 b o c0
    clear H
    go_wp2
    refine bodyPost_ret (v := .tuple #[.agg (eight f g), .bool true]) (by simp [results, Try.results167, go_sem, z0, z1, z2, z3, z4, z5, z6, z7]) rfl ?_
    refine ⟨Or.inl ⟨HO.out, rfl⟩, ?_⟩
    exact set8_blw HB.out (by omega) _ _ _ _ _ _ _ _
  · have HN : Hid (¬ lsOK 4 f g) := fun q => HR.out.1 (by first | rfl | trivial) q.2
    clear HR H
    go_wp2
    refine bodyPost_ret (v := .tuple #[.agg (eight zf zf), .bool false]) (by simp [results, Try.results167, go_sem, z0, z1, z2, z3, z4, z5, z6, z7]) rfl ?_
    refine ⟨Or.inr ⟨HN.out, rfl⟩, ?_⟩
    exact set8_blw HB.out (by omega) _ _ _ _ _ _ _ _
end Go.Proofs.Ytbpdopcdhnemfaa
