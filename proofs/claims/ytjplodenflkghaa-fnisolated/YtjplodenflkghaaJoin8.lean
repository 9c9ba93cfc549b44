/- Merged by program, in this order: PutS, RchF, Flat, FlatG, Rch, RchI, RchS, Iso. -/
import Derived.Test.YtjplodenflkghaaJoin7
/- The model's copies of lists, and 'l1Put': a number put to its place, once. -/
namespace Go.Proofs.Ytjplodenflkghaa
open Go.RowKit
set_option linter.unusedSimpArgs false
set_option linter.unusedVariables false
/-- append([]int{}, l...). -/
theorem copyI {Y : Nat → Prop} {W : World} {ao : Option Addr} {n : Nat} {f : Nat → Int} (h : IntsAt Y W ao n f) (hn : n ≤ 1048576) (c : Nat) :
    ∃ ao' cap w', (Builtin.append_ #[26, 26] 26 #[.slice (some ⟨W.heap.size, 0, none⟩) 0 0, .slice ao n c]).run Try.prog (W.alloc (.cells #[] 3)) = .ok (.slice ao' n cap) w' ∧ BufI (fun b => W.heap.size ≤ b ∧ b < w'.heap.size) w' (.slice ao' n cap) n f ∧ Blw W w' := by
  have hb : Buf 3 1 (fun b => b = W.heap.size) (W.alloc (.cells #[] 3)) (.slice (some ⟨W.heap.size, 0, none⟩) 0 0) 0 (ic (fun _ => 0)) := Buf.lit (X := fun b => b = W.heap.size) (heap_alloc_new W _) 1 rfl _
  obtain ⟨a, cap, w', h1, h2, h3⟩ := BufI.append hb c (h.blw ((Blw.refl _).alloc _)) (by omega) 26
  rw [Nat.zero_add] at h1 h2
  refine ⟨a, cap, w', h1, (Buf.congr h2 (fun i hi => by simp [ic, icat])).mono (fun b hb => ?_), Mod.blw ((Blw.refl _).alloc _) h3 (fun i hi => ?_)⟩
  · simp at hb
    omega
  · simp [Value.ownBlock] at hi
    omega
def rising (n : Nat) (f : Nat → Int) : Prop := ∀ i j, i < j → j < n → f i < f j
def isIn (n : Nat) (f : Nat → Int) (x : Int) : Prop := ∃ i, i < n ∧ f i = x
def ins (k : Nat) (x : Int) (f : Nat → Int) : Nat → Int := fun i => if i < k then f i else if i = k then x else f (i - 1)
theorem ins_rising {n k : Nat} {x : Int} {f : Nat → Int} (hr : rising n f) (hk : k ≤ n) (h1 : ∀ t, t < k → f t < x) (h2 : ∀ t, k ≤ t → t < n → x < f t) : rising (n + 1) (ins k x f) := by
  intro i j hij hj
  unfold ins
  by_cases a : j < k
  · have b : i < k := by omega
    simp only [a, b, if_true]
    exact hr i j hij (by omega)
  · by_cases b : i < k
    · simp only [a, b, if_true, if_false]
      split
      · exact h1 i b
      · exact hr i (j - 1) (by omega) (by omega)
    · simp only [a, b, if_false]
      have c : ¬ j = k := by omega
      simp only [c, if_false]
      split
      · exact h2 (j - 1) (by omega) (by omega)
      · exact hr (i - 1) (j - 1) (by omega) (by omega)
theorem ins_isIn {n k : Nat} {x : Int} {f : Nat → Int} (hk : k ≤ n) (y : Int) : isIn (n + 1) (ins k x f) y ↔ isIn n f y ∨ y = x := by
  constructor
  · rintro ⟨i, hi, e⟩
    unfold ins at e
    split at e
    · exact Or.inl ⟨i, by omega, e⟩
    · split at e
      · exact Or.inr e.symm
      · exact Or.inl ⟨i - 1, by omega, e⟩
  · rintro (⟨i, hi, e⟩ | e)
    · by_cases h : i < k
      · exact ⟨i, by omega, by simp [ins, h, e]⟩
      · have h1 : ¬ i + 1 < k := by omega
        have h2 : ¬ i + 1 = k := by omega
        exact ⟨i + 1, by omega, by simp [ins, h1, h2, e]⟩
    · exact ⟨k, by omega, by simp [ins, e]⟩
/-- The list with x in its place. -/
structure Putted (n : Nat) (f : Nat → Int) (x : Int) (n' : Nat) (f' : Nat → Int) : Prop where
  r : rising n' f'
  m : ∀ y, isIn n' f' y ↔ isIn n f y ∨ y = x
  le : n' ≤ n + 1
/-- The three appends of l1Put. -/
theorem put_facts {Y : Nat → Prop} {w : World} {ao1 ao3 : Option Addr} {n k c1 c3 : Nat} {f : Nat → Int} (x : Int) (hn : n ≤ 1000) (hk : k ≤ n) (hY : ∀ b, Y b → b < w.heap.size) (s1 : IntsAt Y w ao1 k f) (s3 : IntsAt Y w ao3 (n - k) (fun i => f (k + i))) :
    ∃ a1 p1 w1 a2 p2 w2 a3 p3 w3, (Builtin.append_ #[26, 26] 26 #[.slice (some ⟨w.heap.size, 0, none⟩) 0 0, .slice ao1 k c1]).run Try.prog (w.alloc (.cells #[] 3)) = .ok (.slice a1 k p1) w1 ∧
      (Builtin.append_ #[26, 26] 26 #[.slice a1 k p1, .slice (some ⟨w1.heap.size, 0, none⟩) 1 1]).run Try.prog (w1.alloc (.cells #[.int .i64 x] 3)) = .ok (.slice a2 (k + 1) p2) w2 ∧
      (Builtin.append_ #[26, 26] 26 #[.slice a2 (k + 1) p2, .slice ao3 (n - k) c3]).run Try.prog w2 = .ok (.slice a3 (n + 1) p3) w3 ∧
      BufI (fun b => w.heap.size ≤ b ∧ b < w3.heap.size) w3 (.slice a3 (n + 1) p3) (n + 1) (ins k x f) ∧ Blw w w3 := by
  obtain ⟨a1, p1, w1, r1, b1, m1⟩ := copyI s1 (by omega) c1
  obtain ⟨a2, p2, w2, r2, b2, m2⟩ := pushI b1 (by omega) x
  have hx : ∀ b, (Value.slice a1 k p1).ownBlock = some b → w.heap.size ≤ b := fun b hb => (b1.2 b hb).1
  have hw2 : Blw w w2 := Mod.blw m1 m2 (fun i hi => hx i hi)
  obtain ⟨a3, p3, w3, r3, b3, m3⟩ := BufI.append b2 c3 (s3.blw hw2) (by omega) 26
  have e1 : k + 1 + (n - k) = n + 1 := by omega
  rw [e1] at r3 b3
  have hx3 : ∀ b, (Value.slice a2 (k + 1) p2).ownBlock = some b → w.heap.size ≤ b := fun b hb => by
    have := m1.size
    rcases (b2.2 b hb).1 with h | h <;> omega
  have s2 := hw2.size
  refine ⟨a1, p1, w1, a2, p2, w2, a3, p3, w3, r1, r2, r3, (Buf.congr b3 (fun i hi => ?_)).mono (fun b hb => ?_), Mod.blw hw2 m3 (fun i hi => hx3 i hi)⟩
  · rw [Nat.mul_one] at hi
    simp only [ic, icat, ins, snoc']
    by_cases h1 : i < k
    · have h2 : i < k + 1 := by omega
      have h3 : i ≠ k := by omega
      simp [h1, h2, h3]
    · by_cases h2 : i = k
      · simp [h2]
      · have h3 : ¬ i < k + 1 := by omega
        have h4 : k + (i - (k + 1)) = i - 1 := by omega
        simp [h1, h2, h3, h4]
  · have := m1.size
    rcases hb.1 with h | h
    · rcases h.1 with h | h
      · exact ⟨h.1, hb.2⟩
      · exact ⟨by omega, hb.2⟩
    · exact ⟨by omega, hb.2⟩
set_option maxRecDepth 20000 in
set_option maxHeartbeats 3200000 in
theorem l1Put_any (X : Nat → Prop) (v : Value) (n : Nat) (f : Nat → Int) (x : Int) (w : World) (hn : n ≤ 1000) (hX : ∀ b, X b → b < w.heap.size) (hr : rising n f) (h : BufI X w v n f) :
    Calls Try.prog 175 #[v, .int .i64 x] w fun e w' => ∃ v', e = .returned v' ∧ ∃ n' f', Putted n f x n' f' ∧ BufI (fun b => (X b ∨ w.heap.size ≤ b) ∧ b < w'.heap.size) w' v' n' f' ∧ Blw w w' := by
  rcases h.1.2 with ⟨rfl, rfl⟩ | ⟨g, cap, cur, rfl, -, hb, hnc, hcm, -, -⟩
  · have s0 : IntsAt (fun _ => False) w none 0 f := ⟨by omega, fun i hi => absurd hi (Nat.not_lt_zero _)⟩
    obtain ⟨a1, p1, w1, a2, p2, w2, a3, p3, w3, r1, r2, r3, bf, hw⟩ := put_facts (n := 0) (k := 0) (c1 := 0) (c3 := 0) (ao3 := none) (f := f) x (by omega) (by omega) (fun b hb => hb.elim) s0 ⟨by omega, fun i hi => absurd hi (by omega)⟩
    have R1 : Hid _ := r1
    have R2 : Hid _ := r2
    have R3 : Hid _ := r3
    have HF : Hid (BufI (fun b => w.heap.size ≤ b ∧ b < w3.heap.size) w3 (.slice a3 (0 + 1) p3) (0 + 1) (ins 0 x f)) := bf
    clear r1 r2 r3 bf h
    go_enter Try.func175, Try.ntmps175
    go_wp2_with fail
    go_loop [5] (fun i => i = .int .i64 0) (fun i => 0)
    case atStart => rfl
    case round =>
      subst hrel
      go_wp2_with (first | (at_builtin; refine wpList_append_at rfl (.tmp 34) (.tmp 37) 26 rfl ?_; refine ⟨_, _, R1.out, ?_⟩) | (at_builtin; refine wpList_append_at rfl (.tmp 39) (.tmp 41) 26 rfl ?_; refine ⟨_, _, R2.out, ?_⟩) | (at_builtin; refine wpList_append_at rfl (.tmp 43) (.tmp 46) 26 rfl ?_; refine ⟨_, _, R3.out, ?_⟩) | go_in)
      go_ret
      exact ⟨_, rfl, 1, _, ⟨ins_rising hr (Nat.le_refl _) (fun t ht => absurd ht (Nat.not_lt_zero _)) (fun t _ ht => absurd ht (Nat.not_lt_zero _)), ins_isIn (Nat.le_refl _), by omega⟩, HF.out.mono (fun b hb => ⟨Or.inr hb.1, hb.2⟩), hw⟩
  · obtain ⟨_, _, e0, hrow⟩ := h.form
    cases e0
    have hlt0 : g < w.heap.size := (Array.getElem?_eq_some_iff.1 hb).1
    have hrow' : ∀ i, i < n → w.cell? ⟨g, i, none⟩ = some (.int .i64 (f i)) := fun i hi => by
      obtain ⟨g', -, e, r⟩ := hrow (by omega)
      cases e
      exact r.cell (by omega)
    have HB : Hid (BufI X w (.slice (some ⟨g, 0, none⟩) n cap) n f) := h
    have HR : Hid (rising n f) := hr
    have HC : Hid (∀ i, i < n → w.cell? ⟨g, i, none⟩ = some (.int .i64 (f i))) := hrow'
    have hcap : cap ≤ 9223372036854775807 := by unfold maxLen at hcm; omega
    have HP : Hid (∀ k, k ≤ n → ∃ a1 p1 w1 a2 p2 w2 a3 p3 w3, (Builtin.append_ #[26, 26] 26 #[.slice (some ⟨w.heap.size, 0, none⟩) 0 0, .slice (some ⟨g, 0, none⟩) k cap]).run Try.prog (w.alloc (.cells #[] 3)) = .ok (.slice a1 k p1) w1 ∧
      (Builtin.append_ #[26, 26] 26 #[.slice a1 k p1, .slice (some ⟨w1.heap.size, 0, none⟩) 1 1]).run Try.prog (w1.alloc (.cells #[.int .i64 x] 3)) = .ok (.slice a2 (k + 1) p2) w2 ∧
      (Builtin.append_ #[26, 26] 26 #[.slice a2 (k + 1) p2, .slice (some ⟨g, k, none⟩) (n - k) (cap - k)]).run Try.prog w2 = .ok (.slice a3 (n + 1) p3) w3 ∧
      BufI (fun b => w.heap.size ≤ b ∧ b < w3.heap.size) w3 (.slice a3 (n + 1) p3) (n + 1) (ins k x f) ∧ Blw w w3) := fun k hk =>
      put_facts (Y := fun b => b = g) x hn hk (fun b hb => by omega) ⟨by omega, fun i hi => ⟨g, 0, rfl, rfl, by rw [Nat.zero_add]; exact hrow' i (by omega)⟩⟩ ⟨by omega, fun i hi => ⟨g, k, rfl, rfl, hrow' (k + i) (by omega)⟩⟩
    have HPN : Hid (∀ (ao3 : Option Addr) (c3 : Nat), ∃ a1 p1 w1 a2 p2 w2 a3 p3 w3, (Builtin.append_ #[26, 26] 26 #[.slice (some ⟨w.heap.size, 0, none⟩) 0 0, .slice (some ⟨g, 0, none⟩) n cap]).run Try.prog (w.alloc (.cells #[] 3)) = .ok (.slice a1 n p1) w1 ∧
      (Builtin.append_ #[26, 26] 26 #[.slice a1 n p1, .slice (some ⟨w1.heap.size, 0, none⟩) 1 1]).run Try.prog (w1.alloc (.cells #[.int .i64 x] 3)) = .ok (.slice a2 (n + 1) p2) w2 ∧
      (Builtin.append_ #[26, 26] 26 #[.slice a2 (n + 1) p2, .slice ao3 (n - n) c3]).run Try.prog w2 = .ok (.slice a3 (n + 1) p3) w3 ∧
      BufI (fun b => w.heap.size ≤ b ∧ b < w3.heap.size) w3 (.slice a3 (n + 1) p3) (n + 1) (ins n x f) ∧ Blw w w3) :=
      fun ao3 c3 => put_facts (Y := fun b => b = g) x hn (Nat.le_refl _) (fun b hb => by omega) ⟨by omega, fun i hi => ⟨g, 0, rfl, rfl, by rw [Nat.zero_add]; exact hrow' i (by omega)⟩⟩ ⟨by omega, fun i hi => absurd hi (by omega)⟩
    clear h hr hb hcm hrow hrow'
    go_enter Try.func175, Try.ntmps175
    go_wp2_with fail
    go_loop [5] (fun i => ∃ k : Nat, k ≤ n ∧ i = .int .i64 k ∧ ∀ t, t < k → f t < x) (fun i => n - (intOf i).toNat)
    case atStart => exact ⟨0, Nat.zero_le _, rfl, fun t ht => absurd ht (Nat.not_lt_zero _)⟩
    case round =>
      obtain ⟨k, hk, rfl, hlo⟩ := hrel
      have HLO : Hid (∀ t, t < k → f t < x) := hlo
      clear hlo
      by_cases hlt : k < n
      · have hlt' : (k : Int) < n := by omega
        have c0 := HC.out k hlt
        by_cases h1 : f k < x
        · go_wp2
          go_round
          case rel => exact ⟨k + 1, by omega, by go_num, fun t ht => by
            by_cases e : t = k
            · subst e; exact h1
            · exact HLO.out t (by omega)⟩
          case measure => simp [intOf]; omega
        · by_cases h2 : f k = x
          · have h3 : (f k == x) = true := by simp [h2]
            have H2 : Hid (f k = x) := h2
            clear h2
            go_wp2
            go_ret
            exact ⟨_, rfl, n, f, ⟨HR.out, fun y => ⟨Or.inl, fun hy => hy.elim id (fun e => ⟨k, hlt, by rw [H2.out, e]⟩)⟩, by omega⟩, HB.out.mono (fun b hb => ⟨Or.inl hb, hX b hb⟩), Blw.refl _⟩
          · have h3 : (f k == x) = false := by simp [h2]
            have HX : Hid (x < f k) := by show x < f k; omega
            have hkc : (k : Int) ≤ cap := by omega
            obtain ⟨a1, p1, w1, a2, p2, w2, a3, p3, w3, r1, r2, r3, bf, hw⟩ := HP.out k hk
            have R1 : Hid _ := r1
            have R2 : Hid _ := r2
            have R3 : Hid _ := r3
            have HF : Hid (BufI (fun b => w.heap.size ≤ b ∧ b < w3.heap.size) w3 (.slice a3 (n + 1) p3) (n + 1) (ins k x f)) := bf
            have HW : Hid (Blw w w3) := hw
            clear r1 r2 r3 bf HP HPN h2 hw
            go_wp2_with (first | (at_builtin; refine wpList_append_at rfl (.tmp 34) (.tmp 37) 26 rfl ?_; refine ⟨_, _, R1.out, ?_⟩) | (at_builtin; refine wpList_append_at rfl (.tmp 39) (.tmp 41) 26 rfl ?_; refine ⟨_, _, R2.out, ?_⟩) | (at_builtin; refine wpList_append_at rfl (.tmp 43) (.tmp 46) 26 rfl ?_; refine ⟨_, _, R3.out, ?_⟩) | go_in)
            go_ret
            exact ⟨_, rfl, n + 1, _, ⟨ins_rising HR.out hk HLO.out (fun t h4 h5 => by
              by_cases e : t = k
              · subst e; exact HX.out
              · have := HR.out k t (by omega) h5
                have := HX.out
                omega), ins_isIn hk, by omega⟩, HF.out.mono (fun b hb => ⟨Or.inr hb.1, hb.2⟩), HW.out⟩
      · obtain rfl : k = n := by omega
        have hkc : (k : Int) ≤ cap := by omega
        by_cases hck : cap = k
        · subst hck
          obtain ⟨a1, p1, w1, a2, p2, w2, a3, p3, w3, r1, r2, r3, bf, hw⟩ := HPN.out (some ⟨g, 0, none⟩) 0
          rw [Nat.sub_self] at r3
          have R1 : Hid _ := r1
          have R2 : Hid _ := r2
          have R3 : Hid _ := r3
          have HF : Hid (BufI (fun b => w.heap.size ≤ b ∧ b < w3.heap.size) w3 (.slice a3 (cap + 1) p3) (cap + 1) (ins cap x f)) := bf
          have HW : Hid (Blw w w3) := hw
          clear r1 r2 r3 bf HP HPN hw
          go_wp2_with (first | (at_builtin; refine wpList_append_at rfl (.tmp 34) (.tmp 37) 26 rfl ?_; refine ⟨_, _, R1.out, ?_⟩) | (at_builtin; refine wpList_append_at rfl (.tmp 39) (.tmp 41) 26 rfl ?_; refine ⟨_, _, R2.out, ?_⟩) | (at_builtin; refine wpList_append_at rfl (.tmp 43) (.tmp 46) 26 rfl ?_; refine ⟨_, _, R3.out, ?_⟩) | go_in)
          go_ret
          exact ⟨_, rfl, cap + 1, _, ⟨ins_rising HR.out hk HLO.out (fun t h4 h5 => by omega), ins_isIn hk, by omega⟩, HF.out.mono (fun b hb => ⟨Or.inr hb.1, hb.2⟩), HW.out⟩
        · obtain ⟨a1, p1, w1, a2, p2, w2, a3, p3, w3, r1, r2, r3, bf, hw⟩ := HPN.out (some ⟨g, k, none⟩) (cap - k)
          rw [Nat.sub_self] at r3
          have R1 : Hid _ := r1
          have R2 : Hid _ := r2
          have R3 : Hid _ := r3
          have HF : Hid (BufI (fun b => w.heap.size ≤ b ∧ b < w3.heap.size) w3 (.slice a3 (k + 1) p3) (k + 1) (ins k x f)) := bf
          have HW : Hid (Blw w w3) := hw
          clear r1 r2 r3 bf HP HPN hw
          go_wp2_with (first | (at_builtin; refine wpList_append_at rfl (.tmp 34) (.tmp 37) 26 rfl ?_; refine ⟨_, _, R1.out, ?_⟩) | (at_builtin; refine wpList_append_at rfl (.tmp 39) (.tmp 41) 26 rfl ?_; refine ⟨_, _, R2.out, ?_⟩) | (at_builtin; refine wpList_append_at rfl (.tmp 43) (.tmp 46) 26 rfl ?_; refine ⟨_, _, R3.out, ?_⟩) | go_in)
          go_ret
          exact ⟨_, rfl, k + 1, _, ⟨ins_rising HR.out hk HLO.out (fun t h4 h5 => by omega), ins_isIn hk, by omega⟩, HF.out.mono (fun b hb => ⟨Or.inr hb.1, hb.2⟩), HW.out⟩
end Go.Proofs.Ytjplodenflkghaa
/- Rising lists of pages: what is reached, without any walk. -/
namespace Go.Proofs.Ytjplodenflkghaa
open Go.RowKit
set_option linter.unusedSimpArgs false
set_option linter.unusedVariables false
theorem rising_same {n n' : Nat} {f f' : Nat → Int} (r : rising n f) (r' : rising n' f') (h : ∀ y, isIn n f y ↔ isIn n' f' y) : n = n' ∧ ∀ i, i < n → f i = f' i := by
  have key : ∀ i, i < n → i < n' → f i = f' i := by
    intro i
    induction i using Nat.strongRecOn with
    | _ i ih =>
      intro h1 h2
      obtain ⟨j, hj, e⟩ := (h (f i)).1 ⟨i, h1, rfl⟩
      obtain ⟨k, hk, e'⟩ := (h (f' i)).2 ⟨i, h2, rfl⟩
      have a1 : i ≤ j := by
        rcases Nat.lt_or_ge j i with q | q
        · have := ih j q (by omega) hj
          have := r j i q h1
          omega
        · exact q
      have a2 : i ≤ k := by
        rcases Nat.lt_or_ge k i with q | q
        · have := ih k q hk (by omega)
          have := r' k i q h2
          omega
        · exact q
      have b1 : f' i ≤ f i := by
        rcases Nat.lt_or_ge i j with q | q
        · have := r' i j q hj; omega
        · obtain rfl : i = j := by omega
          omega
      have b2 : f i ≤ f' i := by
        rcases Nat.lt_or_ge i k with q | q
        · have := r i k q hk; omega
        · obtain rfl : i = k := by omega
          omega
      omega
  have hn : n = n' := by
    rcases Nat.lt_trichotomy n n' with q | q | q
    · obtain ⟨k, hk, e⟩ := (h (f' n)).2 ⟨n, q, rfl⟩
      have := key k hk (by omega)
      have := r' k n hk q
      omega
    · exact q
    · obtain ⟨k, hk, e⟩ := (h (f n')).1 ⟨n', q, rfl⟩
      have := key k (by omega) hk
      have := r k n' hk q
      omega
  subst hn
  exact ⟨rfl, fun i hi => key i hi hi⟩
/-- The pages that are reached. -/
def rbSet (G H : BD) (y : Int) : Prop := ∃ a, a < 16 ∧ ¬ fY G H a = 0 ∧ fX G H a = y
def rbL (G H : BD) (n : Nat) (f : Nat → Int) : Prop := rising n f ∧ ∀ y, isIn n f y ↔ rbSet G H y
def rbOut (G H : BD) (n : Nat) (f : Nat → Int) (r : Bool) : Prop := (NGood G H ∧ rbL G H n f ∧ r = true) ∨ (¬ NGood G H ∧ n = 0 ∧ r = false)
theorem rbOut_same {G H : BD} {n n' : Nat} {f f' : Nat → Int} {r r' : Bool} (h : rbOut G H n f r) (k : rbOut G H n' f' r') : (n = n' ∧ ∀ i, i < n → f i = f' i) ∧ r = r' := by
  rcases h with ⟨g, a, rfl⟩ | ⟨g, rfl, rfl⟩ <;> rcases k with ⟨g', a', rfl⟩ | ⟨g', rfl, rfl⟩
  · exact ⟨rising_same a.1 a'.1 (fun y => (a.2 y).trans (a'.2 y).symm), rfl⟩
  · exact absurd g g'
  · exact absurd g' g
  · exact ⟨⟨rfl, fun i hi => absurd hi (Nat.not_lt_zero _)⟩, rfl⟩
/-- What is reached by the places ahead of j, and at j by mays ahead of t. -/
def rbS (G H : BD) (j t : Nat) (y : Int) : Prop :=
  (∃ a, a < j ∧ ¬ fY G H a = 0 ∧ fX G H a = y) ∨ (∃ k : Nat, 1 ≤ k ∧ k < t ∧ hasMay (gM G j) (k : Int) ∧ hasMay (gM H (gP G j).toNat) (k : Int) ∧ fX G H j = y)
theorem rbS_zero (G H : BD) (y : Int) : ¬ rbS G H 0 1 y := by
  rintro (⟨a, h, _⟩ | ⟨k, h1, h2, _⟩)
  · omega
  · omega
theorem rbS_next {G H : BD} (N : NGood G H) {j : Nat} (hj : j < 16) (y : Int) : rbS G H j 3 y ↔ rbS G H (j + 1) 1 y := by
  have ri := reach_iff N hj
  constructor
  · rintro (⟨a, h, h2⟩ | ⟨k, h1, h2, h3, h4, h5⟩)
    · exact Or.inl ⟨a, by omega, h2⟩
    · refine Or.inl ⟨j, by omega, ri.2 ?_, h5⟩
      rcases (show k = 1 ∨ k = 2 by omega) with rfl | rfl
      · exact Or.inl ⟨h3, h4⟩
      · exact Or.inr ⟨h3, h4⟩
  · rintro (⟨a, h, h2, h3⟩ | ⟨k, h1, h2, _⟩)
    · by_cases e : a = j
      · subst e
        rcases ri.1 h2 with ⟨q1, q2⟩ | ⟨q1, q2⟩
        · exact Or.inr ⟨1, by omega, by omega, q1, q2, h3⟩
        · exact Or.inr ⟨2, by omega, by omega, q1, q2, h3⟩
      · exact Or.inl ⟨a, by omega, h2, h3⟩
    · omega
theorem rbS_yes {G H : BD} {j t : Nat} (ht : 1 ≤ t) {x c : Int} (h : nwOut G H j (t : Int) x c) (hc : c = 0) (y : Int) : rbS G H j (t + 1) y ↔ rbS G H j t y ∨ y = x := by
  rcases h with ⟨_, _, e⟩ | ⟨_, _, _, e⟩ | ⟨p, q, e, _⟩
  · omega
  · omega
  · subst e
    constructor
    · rintro (h | ⟨k, h1, h2, h3, h4, h5⟩)
      · exact Or.inl (Or.inl h)
      · by_cases e : k = t
        · exact Or.inr h5.symm
        · exact Or.inl (Or.inr ⟨k, h1, by omega, h3, h4, h5⟩)
    · rintro ((h | ⟨k, h1, h2, h3⟩) | h)
      · exact Or.inl h
      · exact Or.inr ⟨k, h1, by omega, h3⟩
      · exact Or.inr ⟨t, ht, by omega, p, q, h.symm⟩
theorem rbS_no {G H : BD} {j t : Nat} {x c : Int} (h : nwOut G H j (t : Int) x c) (hc : ¬ c = 0) (y : Int) : rbS G H j (t + 1) y ↔ rbS G H j t y := by
  constructor
  · rintro (h' | ⟨k, h1, h2, h3, h4, h5⟩)
    · exact Or.inl h'
    · by_cases e : k = t
      · subst e
        rcases h with ⟨p, _, _⟩ | ⟨_, q, _, _⟩ | ⟨_, _, _, e⟩
        · exact absurd h3 p
        · exact absurd h4 q
        · exact absurd e hc
      · exact Or.inr ⟨k, h1, by omega, h3, h4, h5⟩
  · rintro (h | ⟨k, h1, h2, h3⟩)
    · exact Or.inl h
    · exact Or.inr ⟨k, h1, by omega, h3⟩
theorem rbS_end {G H : BD} (y : Int) : rbS G H 16 1 y ↔ rbSet G H y := by
  constructor
  · rintro (⟨a, h, h2⟩ | ⟨k, h1, h2, _⟩)
    · exact ⟨a, h, h2⟩
    · omega
  · rintro ⟨a, h, h2⟩
    exact Or.inl ⟨a, h, h2⟩
/-! ### The program's set -/
def setR (R : Nat → Bool) (x y : Int) : Nat → Bool := fun i => if y = 0 then R i else if (i : Int) = x then true else R i
def RR (B : BD) : Nat → Nat → Bool
  | 0 => fun _ => false
  | j + 1 => setR (RR B j) (gP B j) (gM B j)
theorem RR_iff (B : BD) (i : Nat) : ∀ j, RR B j i = true ↔ ∃ a, a < j ∧ ¬ gM B a = 0 ∧ gP B a = (i : Int)
  | 0 => ⟨fun h => by simp [RR] at h, fun ⟨a, h, _⟩ => absurd h (Nat.not_lt_zero _)⟩
  | j + 1 => by
    have ih := RR_iff B i j
    show setR (RR B j) (gP B j) (gM B j) i = true ↔ _
    unfold setR
    by_cases h0 : gM B j = 0
    · rw [if_pos h0, ih]
      refine ⟨fun ⟨a, h, q⟩ => ⟨a, by omega, q⟩, fun ⟨a, h, q1, q2⟩ => ?_⟩
      by_cases e : a = j
      · exact absurd (by rw [e]; exact h0) q1
      · exact ⟨a, by omega, q1, q2⟩
    · rw [if_neg h0]
      by_cases h1 : (i : Int) = gP B j
      · rw [if_pos h1]
        exact ⟨fun _ => ⟨j, by omega, h0, h1.symm⟩, fun _ => rfl⟩
      · rw [if_neg h1, ih]
        refine ⟨fun ⟨a, h, q⟩ => ⟨a, by omega, q⟩, fun ⟨a, h, q1, q2⟩ => ?_⟩
        by_cases e : a = j
        · exact absurd (by rw [← q2, e]) h1
        · exact ⟨a, by omega, q1, q2⟩
theorem RR_flat {G H B : BD} (N : NGood G H) (h : Fl G H 16 B) (i : Nat) : RR B 16 i = true ↔ rbSet G H (i : Int) := by
  rw [RR_iff]
  have o := h.ok N (by omega)
  constructor
  · rintro ⟨a, ha, q1, q2⟩
    obtain ⟨e1, e2⟩ := o.leaf a ha
    rw [if_pos ha] at e1 e2
    rw [e1] at q1
    rw [e2, if_neg q1] at q2
    exact ⟨a, ha, q1, q2⟩
  · rintro ⟨a, ha, q1, q2⟩
    obtain ⟨e1, e2⟩ := o.leaf a ha
    rw [if_pos ha] at e1 e2
    exact ⟨a, ha, by rw [e1]; exact q1, by rw [e2, if_neg q1]; exact q2⟩
theorem lf_last (L : List Nat) (x : Nat) (i : Nat) : lf (L ++ [x]) i = if i < L.length then lf L i else if i = L.length then (x : Int) else 0 := by
  unfold lf
  by_cases h : i < L.length
  · rw [if_pos h]; simp [List.getD, List.getElem?_append_left h]
  · rw [if_neg h]
    by_cases e : i = L.length
    · subst e; simp [List.getD]
    · rw [if_neg e]
      have : (L ++ [x]).length ≤ i := by simp; omega
      simp [List.getD, List.getElem?_eq_none this]
theorem pk_rising (P : Nat → Bool) : ∀ n, rising (pk P n).length (lf (pk P n)) ∧ ∀ i, i < (pk P n).length → 0 ≤ lf (pk P n) i ∧ lf (pk P n) i < n
  | 0 => ⟨fun i j _ hj => absurd hj (Nat.not_lt_zero _), fun i hi => absurd hi (Nat.not_lt_zero _)⟩
  | n + 1 => by
    obtain ⟨h1, h2⟩ := pk_rising P n
    cases hp : P n
    · rw [pk_no hp]
      exact ⟨h1, fun i hi => by have := h2 i hi; omega⟩
    · rw [pk_yes hp]
      have hl : (pk P n ++ [n]).length = (pk P n).length + 1 := by simp
      rw [hl]
      refine ⟨fun i j hij hj => ?_, fun i hi => ?_⟩
      · rw [lf_last, lf_last, if_pos (by omega)]
        by_cases e : j < (pk P n).length
        · rw [if_pos e]; exact h1 i j hij e
        · rw [if_neg e, if_pos (by omega)]
          have := h2 i (by omega)
          omega
      · rw [lf_last]
        by_cases e : i < (pk P n).length
        · rw [if_pos e]; have := h2 i e; omega
        · rw [if_neg e, if_pos (by omega)]; omega
theorem pk_set {G H B : BD} (N : NGood G H) (h : Fl G H 16 B) : rbL G H (pk (RR B 16) 16).length (lf (pk (RR B 16) 16)) := by
  obtain ⟨h1, h2⟩ := pk_rising (RR B 16) 16
  refine ⟨h1, fun y => ⟨fun ⟨i, hi, e⟩ => ?_, fun hs => ?_⟩⟩
  · have hb := h2 i hi
    obtain ⟨x, hx⟩ : ∃ x : Nat, y = x := ⟨y.toNat, by omega⟩
    subst hx
    exact (RR_flat N h x).1 ((has_pk (by omega)).1 ⟨i, hi, e⟩)
  · obtain ⟨a, ha, q1, q2⟩ := hs
    have hx := fX_ok N ha
    obtain ⟨x, hxx⟩ : ∃ x : Nat, y = x := ⟨y.toNat, by omega⟩
    subst hxx
    exact (has_pk (by omega)).2 ((RR_flat N h x).2 ⟨a, ha, q1, q2⟩)
end Go.Proofs.Ytjplodenflkghaa
/- Flat tables: the program's. -/
namespace Go.Proofs.Ytjplodenflkghaa
open Go.RowKit
set_option linter.unusedSimpArgs false
set_option linter.unusedVariables false
set_option maxRecDepth 10000 in
set_option maxHeartbeats 1600000 in
theorem behind_any (d : Nat → Int) (z2 : Nat) (p m : Nat → Nat → Int) (y : Nat) (gm : Int) (w : World) (ht : ∀ i, i < 4 → -1 ≤ d i ∧ d i ≤ ((4 : Nat) : Int) - 1) (hy : y < 16) (hl : Row w z2 (4 * 8) (lc p m)) :
    Calls Try.prog 167 #[.agg (held5 d z2 4), .agg #[.int .i64 (y : Int), .int .i64 gm]] w fun e w' => e = .returned (.agg #[.int .i64 (lfP d p y), .int .i64 (bits .and .i64 (lfP d m y) gm)]) ∧ Blw w w' := by
  have b1 : Blw w (w.alloc (.cells (held5 d z2 4) 136)) := (Blw.refl _).alloc _
  have b2 : Blw (w.alloc (.cells (held5 d z2 4) 136)) ((w.alloc (.cells (held5 d z2 4) 136)).alloc (.cells #[.int .i64 (y : Int), .int .i64 gm] 144)) := (Blw.refl _).alloc _
  have b3 : Blw ((w.alloc (.cells (held5 d z2 4) 136)).alloc (.cells #[.int .i64 (y : Int), .int .i64 gm] 144)) (((w.alloc (.cells (held5 d z2 4) 136)).alloc (.cells #[.int .i64 (y : Int), .int .i64 gm] 144)).alloc (.cells #[.int .i64 0, .int .i64 0] 144)) := (Blw.refl _).alloc _
  have H5 : Hid (Row (((w.alloc (.cells (held5 d z2 4) 136)).alloc (.cells #[.int .i64 (y : Int), .int .i64 gm] 144)).alloc (.cells #[.int .i64 0, .int .i64 0] 144)) w.heap.size 5 (row5f d (.slice (some ⟨z2, 0, none⟩) 4 4))) := (row5 w (.int .i64 (d 0)) (.int .i64 (d 1)) (.int .i64 (d 2)) (.int .i64 (d 3)) (.slice (some ⟨z2, 0, none⟩) 4 4) 136).blw (b2.trans b3)
  have r2 := (box2 (w.alloc (.cells (held5 d z2 4) 136)) (.int .i64 (y : Int)) (.int .i64 gm) 144).blw b3
  rw [World.size_alloc] at r2
  have r3 := box2 ((w.alloc (.cells (held5 d z2 4) 136)).alloc (.cells #[.int .i64 (y : Int), .int .i64 gm] 144)) (.int .i64 0) (.int .i64 0) 144
  rw [World.size_alloc, World.size_alloc] at r3
  have HLF : Hid (Row (((w.alloc (.cells (held5 d z2 4) 136)).alloc (.cells #[.int .i64 (y : Int), .int .i64 gm] 144)).alloc (.cells #[.int .i64 0, .int .i64 0] 144)) (w.heap.size + 1) 2 (fun i => if i = 0 then .int .i64 (y : Int) else .int .i64 gm)) := r2
  have HZ : Hid (Row (((w.alloc (.cells (held5 d z2 4) 136)).alloc (.cells #[.int .i64 (y : Int), .int .i64 gm] 144)).alloc (.cells #[.int .i64 0, .int .i64 0] 144)) (w.heap.size + 1 + 1) 2 (fun i => if i = 0 then .int .i64 0 else .int .i64 0)) := r3
  have HL : Hid (Row (((w.alloc (.cells (held5 d z2 4) 136)).alloc (.cells #[.int .i64 (y : Int), .int .i64 gm] 144)).alloc (.cells #[.int .i64 0, .int .i64 0] 144)) z2 (4 * 8) (lc p m)) := hl.blw ((b1.trans b2).trans b3)
  have HB : Hid (Blw w (((w.alloc (.cells (held5 d z2 4) 136)).alloc (.cells #[.int .i64 (y : Int), .int .i64 gm] 144)).alloc (.cells #[.int .i64 0, .int .i64 0] 144))) := (b1.trans b2).trans b3
  have HS : Hid ((((w.alloc (.cells (held5 d z2 4) 136)).alloc (.cells #[.int .i64 (y : Int), .int .i64 gm] 144)).alloc (.cells #[.int .i64 0, .int .i64 0] 144)).heap.size = w.heap.size + 1 + 1 + 1) := by show _ = _; simp
  have HT : Hid (∀ i, i < 4 → -1 ≤ d i ∧ d i ≤ ((4 : Nat) : Int) - 1) := ht
  clear b1 b2 b3 r2 r3 hl ht
  go_enter Try.func167, Try.ntmps167
  obtain ⟨p0, p1, p2, p3, p4⟩ := get5 H5.out
  obtain ⟨l0, l1⟩ := get2 HLF.out
  go_wp2_with fail
  clear p0 p1 p2 p3 p4 l0 l1
  generalize (((w.alloc (.cells (held5 d z2 4) 136)).alloc (.cells #[.int .i64 (y : Int), .int .i64 gm] 144)).alloc (.cells #[.int .i64 0, .int .i64 0] 144)) = w3 at *
  refine (leafAt_any d z2 4 p m y _ (by omega) HT.out hy HL.out).mono ?_
  rintro e w4 ⟨rfl, hb4⟩
  have hA : Blw w4 (w4.alloc (.cells #[.int .i64 (lfP d p y), .int .i64 (lfP d m y)] 144)) := (Blw.refl _).alloc _
  have rq := box2 w4 (.int .i64 (lfP d p y)) (.int .i64 (lfP d m y)) 144
  have hs4 := hb4.size
  have hs3 := HS.out
  have r5 := (HLF.out.blw hb4).blw hA
  have r6 := (HZ.out.blw hb4).blw hA
  have HBF : Hid (Blw w (w4.alloc (.cells #[.int .i64 (lfP d p y), .int .i64 (lfP d m y)] 144))) := (HB.out.trans hb4).trans hA
  have hzf : w.heap.size + 1 + 1 < w4.heap.size := by omega
  clear hb4 hA H5 HLF HZ HL HB hs4 hs3 HS
  go_upto_region 2 with fail
  generalize (w4.alloc (.cells #[.int .i64 (lfP d p y), .int .i64 (lfP d m y)] 144)) = w5 at *
  generalize w4.heap.size = zq at *
  obtain ⟨l0, l1⟩ := get2 r5
  obtain ⟨q0, q1⟩ := get2 rq
  have g1 := rq.frozen 1
  have HBG : Hid (Blw w (w5.setCell ⟨zq, 1, none⟩ (.int .i64 (bits .and .i64 (lfP d m y) gm)))) := HBF.out.setCell (by show _ ≤ zq; omega) _
  obtain ⟨t0, t1⟩ := get2 r6
  have f0 := r6.frozen 0
  have f1 := r6.frozen 1
  clear rq r5 r6 HBF
  go_wp2
  refine bodyPost_ret (v := .agg #[.int .i64 (lfP d p y), .int .i64 (bits .and .i64 (lfP d m y) gm)]) (by simp [results, Try.results167, go_sem, t0, t1]) rfl ?_
  exact ⟨rfl, set2_blw HBG.out (by omega) _ _⟩
theorem ng_topsG {D : ND} (g : D.Good) : ∀ i, i < 4 → -1 ≤ D.G.c i ∧ D.G.c i ≤ ((4 : Nat) : Int) - 1 := fun i hi => by have := g.g.top i (by rw [g.g.n]; exact hi); rw [g.ng] at this; exact this
theorem ng_topsH {D : ND} (g : D.Good) : ∀ i, i < 4 → -1 ≤ D.H.c i ∧ D.H.c i ≤ ((4 : Nat) : Int) - 1 := fun i hi => by have := g.h.top i (by rw [g.h.n]; exact hi); rw [g.nh] at this; exact this
theorem behindN_any (D : ND) (z2 j : Nat) (w : World) (g : D.Good) (hj : j < 16) (hl : Row w z2 (4 * 8) (lc D.H.D.p D.H.D.m)) :
    Calls Try.prog 167 #[.agg (held5 D.H.c z2 4), .agg #[.int .i64 (gP D.G j), .int .i64 (gM D.G j)]] w fun e w' => e = .returned (.agg #[.int .i64 (fX D.G D.H j), .int .i64 (fY D.G D.H j)]) ∧ Blw w w' := by
  have hgp : 0 ≤ gP D.G j ∧ gP D.G j ≤ 15 := (leafs g.g hj).1
  obtain ⟨y, hy⟩ : ∃ y : Nat, gP D.G j = y := ⟨(gP D.G j).toNat, by omega⟩
  have h := behind_any D.H.c z2 D.H.D.p D.H.D.m y (gM D.G j) w (ng_topsH g) (by omega) hl
  have e1 : fX D.G D.H j = lfP D.H.c D.H.D.p y := by unfold fX; rw [hy, Int.toNat_natCast]
  have e2 : fY D.G D.H j = bits .and .i64 (lfP D.H.c D.H.D.m y) (gM D.G j) := by unfold fY; rw [hy, Int.toNat_natCast]
  rw [e1, e2, hy]
  exact h
/-- What the walk for a flat table stands on. -/
structure FT (D : ND) (zh z1 z2 zf zl : Nat) (B : BD) (w : World) : Prop where
  h : Row w zh 10 (hten D.G.c D.H.c (.slice (some ⟨z1, 0, none⟩) 4 4) (.slice (some ⟨z2, 0, none⟩) 4 4))
  l1 : Row w z1 (4 * 8) (lc D.G.D.p D.G.D.m)
  l2 : Row w z2 (4 * 8) (lc D.H.D.p D.H.D.m)
  f : Row w zf 5 (row5f B.c (.slice (some ⟨zl, 0, none⟩) 4 4))
  lf : Row w zl (4 * 8) (lc B.D.p B.D.m)
  ne : (zh ≠ zf ∧ zh ≠ zl) ∧ (z1 ≠ zf ∧ z1 ≠ zl) ∧ (z2 ≠ zf ∧ z2 ≠ zl) ∧ zf ≠ zl
theorem FT.go {D : ND} {zh z1 z2 zf zl : Nat} {B : BD} {w w' : World} (h : FT D zh z1 z2 zf zl B w) (hb : Blw w w') : FT D zh z1 z2 zf zl B w' :=
  ⟨h.h.blw hb, h.l1.blw hb, h.l2.blw hb, h.f.blw hb, h.lf.blw hb, h.ne⟩
theorem FT.put {D : ND} {zh z1 z2 zf zl : Nat} {B B' : BD} {w w' : World} (h : FT D zh z1 z2 zf zl B w) (hm : Mod (fun b => b = zf ∨ b = zl) w w') (r1 : Row w' zf 5 (row5f B'.c (.slice (some ⟨zl, 0, none⟩) 4 4))) (r2 : Row w' zl (4 * 8) (lc B'.D.p B'.D.m)) : FT D zh z1 z2 zf zl B' w' := by
  obtain ⟨⟨a1, a2⟩, ⟨b1, b2⟩, ⟨c1, c2⟩, d⟩ := h.ne
  exact ⟨h.h.mod hm (by omega), h.l1.mod hm (by omega), h.l2.mod hm (by omega), r1, r2, h.ne⟩
set_option maxRecDepth 10000 in
set_option maxHeartbeats 3200000 in
theorem flatFn_any (D : ND) (zh z1 z2 zf zl j : Nat) (B : BD) (w : World) (g : D.Good) (hj : j < 16) (hF : Fl D.G D.H j B) (h : FT D zh z1 z2 zf zl B w) :
    Calls Try.prog 166 #[.int .i64 (j : Int), .agg #[.int .i64 (gP D.G j), .int .i64 (gM D.G j)], .pointer (some ⟨zh, 0, none⟩), .pointer (some ⟨zf, 0, none⟩)] w fun e w' => (∃ u, e = .returned u) ∧ ∃ B', Fl D.G D.H (j + 1) B' ∧ FT D zh z1 z2 zf zl B' w' ∧ Mod (fun b => b = zf ∨ b = zl) w w' := by
  have hA : Blw w (w.alloc (.cells #[.int .i64 (gP D.G j), .int .i64 (gM D.G j)] 144)) := (Blw.refl _).alloc _
  have HT : Hid (FT D zh z1 z2 zf zl B (w.alloc (.cells #[.int .i64 (gP D.G j), .int .i64 (gM D.G j)] 144))) := h.go hA
  have HLF : Hid (Row (w.alloc (.cells #[.int .i64 (gP D.G j), .int .i64 (gM D.G j)] 144)) w.heap.size 2 (fun i => if i = 0 then .int .i64 (gP D.G j) else .int .i64 (gM D.G j))) := box2 w _ _ 144
  have HM : Hid (Mod (fun b => b = zf ∨ b = zl) w (w.alloc (.cells #[.int .i64 (gP D.G j), .int .i64 (gM D.G j)] 144))) := hA.mod _
  have HF : Hid (Fl D.G D.H j B) := hF
  have HG : Hid D.Good := g
  clear hA h hF g
  go_enter Try.func166, Try.ntmps166
  obtain ⟨-, -, -, -, -, p5, p6, p7, p8, p9⟩ := get10 HT.out.h
  obtain ⟨l0, l1⟩ := get2 HLF.out
  go_wp2_with fail
  clear p5 p6 p7 p8 p9 l0 l1
  refine (behindN_any D z2 j _ HG.out hj HT.out.l2).mono ?_
  rintro e w2 ⟨rfl, hb2⟩
  have hA : Blw w2 (w2.alloc (.cells #[.int .i64 (fX D.G D.H j), .int .i64 (fY D.G D.H j)] 144)) := (Blw.refl _).alloc _
  have HQ : Hid (Row (w2.alloc (.cells #[.int .i64 (fX D.G D.H j), .int .i64 (fY D.G D.H j)] 144)) w2.heap.size 2 (fun i => if i = 0 then .int .i64 (fX D.G D.H j) else .int .i64 (fY D.G D.H j))) := box2 w2 _ _ 144
  replace HT : Hid (FT D zh z1 z2 zf zl B (w2.alloc (.cells #[.int .i64 (fX D.G D.H j), .int .i64 (fY D.G D.H j)] 144))) := (HT.out.go hb2).go hA
  replace HM : Hid (Mod (fun b => b = zf ∨ b = zl) w (w2.alloc (.cells #[.int .i64 (fX D.G D.H j), .int .i64 (fY D.G D.H j)] 144))) := HM.out.trans ((hb2.trans hA).mod _)
  clear hb2 hA HLF
  go_upto_region 2 with fail
  generalize (w2.alloc (.cells #[.int .i64 (fX D.G D.H j), .int .i64 (fY D.G D.H j)] 144)) = w3 at *
  generalize w2.heap.size = zq at *
  obtain ⟨q0, q1⟩ := get2 HQ.out
  by_cases hd : fY D.G D.H j = 0
  · have e1 : (fY D.G D.H j != 0) = false := by simp [hd]
    have FIN : Hid (∃ B', Fl D.G D.H (j + 1) B' ∧ FT D zh z1 z2 zf zl B' w3 ∧ Mod (fun b => b = zf ∨ b = zl) w w3) := ⟨B, .skip HF.out hd, HT.out, HM.out⟩
    clear hd HT HM HQ
    go_wp2
    refine bodyPost_end (results_none rfl _ _ _) rfl ?_
    exact ⟨⟨_, rfl⟩, FIN.out⟩
  have e1 : (fY D.G D.H j != 0) = true := by simp [hd]
  have HD : Hid (¬ fY D.G D.H j = 0) := hd
  clear hd
  have OK : Hid (FlOK D.G D.H j B) := HF.out.ok HG.out (by omega)
  have HTB : Hid (∀ i, i < 4 → -1 ≤ B.c i ∧ B.c i ≤ ((4 : Nat) : Int) - 1) := fun i hi => by have := OK.out.good.top i (by rw [OK.out.good.n]; exact hi); rw [OK.out.n] at this; exact this
  go_wp2_with fail
  clear q0 q1 e1
  refine (put_any B.c zl 4 B.D.p B.D.m zf j (fX D.G D.H j) (fY D.G D.H j) _ (by omega) HTB.out hj HT.out.ne.2.2.2 HT.out.f HT.out.lf).mono ?_
  rintro e w4 ho
  have HO : Hid (∃ q : Nat, goes B.c 4 (j / 4) q ∧ e = .returned (.bool true) ∧ Row w4 zf 5 (row5f (topsOf B.c (j / 4) q (upd2 B.D.p q (j % 4) (fX D.G D.H j) q) (upd2 B.D.m q (j % 4) (fY D.G D.H j) q)) (.slice (some ⟨zl, 0, none⟩) 4 4)) ∧ Row w4 zl (4 * 8) (lc (upd2 B.D.p q (j % 4) (fX D.G D.H j)) (upd2 B.D.m q (j % 4) (fY D.G D.H j))) ∧ Mod (fun b => b = zf ∨ b = zl) w3 w4) := by
    rcases ho with ho | ⟨hn, _⟩
    · exact ho
    · exact absurd (by have h9 := HF.out.can HG.out hj; rw [OK.out.n] at h9; exact h9) hn
  clear ho
  obtain ⟨q, hq, rfl, r1, r2, hm⟩ := HO.out
  have FIN : Hid (∃ B', Fl D.G D.H (j + 1) B' ∧ FT D zh z1 z2 zf zl B' w4 ∧ Mod (fun b => b = zf ∨ b = zl) w w4) := ⟨_, .put (q := q) HF.out HD.out (by rw [OK.out.n]; exact hq), HT.out.put hm r1 r2, HM.out.trans hm⟩
  clear HO hq r1 r2 hm HT HM HQ HTB
  go_wp2
  refine bodyPost_end (results_none rfl _ _ _) rfl ?_
  exact ⟨⟨_, rfl⟩, FIN.out⟩
set_option maxRecDepth 10000 in
set_option maxHeartbeats 3200000 in
theorem walkFlat_any (D : ND) (zh z1 z2 zf zl : Nat) (B : BD) (w0 : World) (g : D.Good) (hF : Fl D.G D.H 0 B) (h : FT D zh z1 z2 zf zl B w0) :
    Calls Try.prog 165 #[.agg (held5 D.G.c z1 4), .func (.func 166) #[] #[.pointer (some ⟨zh, 0, none⟩), .pointer (some ⟨zf, 0, none⟩)]] w0 fun e w' => (∃ u, e = .returned u) ∧ ∃ B', Fl D.G D.H 16 B' ∧ FT D zh z1 z2 zf zl B' w' ∧ Mod (fun b => b = zf ∨ b = zl) w0 w' := by
  have hA : Blw w0 (w0.alloc (.cells (held5 D.G.c z1 4) 129)) := (Blw.refl _).alloc _
  have HR5 : Hid (Row (w0.alloc (.cells (held5 D.G.c z1 4) 129)) w0.heap.size 5 (row5f D.G.c (.slice (some ⟨z1, 0, none⟩) 4 4))) := row5 w0 (.int .i64 (D.G.c 0)) (.int .i64 (D.G.c 1)) (.int .i64 (D.G.c 2)) (.int .i64 (D.G.c 3)) (.slice (some ⟨z1, 0, none⟩) 4 4) 129
  have HT0 : Hid (FT D zh z1 z2 zf zl B (w0.alloc (.cells (held5 D.G.c z1 4) 129))) := h.go hA
  have HM0 : Hid (Mod (fun b => b = zf ∨ b = zl) w0 (w0.alloc (.cells (held5 D.G.c z1 4) 129))) := hA.mod _
  have HNE : Hid (w0.heap.size ≠ zf ∧ w0.heap.size ≠ zl) := ⟨by have := h.f.lt; omega, by have := h.lf.lt; omega⟩
  have HG : Hid D.Good := g
  have HF0 : Hid (Fl D.G D.H 0 B) := hF
  clear hA h g hF
  go_enter Try.func165, Try.ntmps165
  go_wp2_with fail
  generalize w0.heap.size = z5 at *
  generalize (w0.alloc (.cells (held5 D.G.c z1 4) 129)) = w1 at *
  go_loopw [5] (fun i wq => ∃ j : Nat, j ≤ 16 ∧ i = .int .i64 j ∧ ∃ B', Fl D.G D.H j B' ∧ FT D zh z1 z2 zf zl B' wq ∧ Row wq z5 5 (row5f D.G.c (.slice (some ⟨z1, 0, none⟩) 4 4)) ∧ Mod (fun b => b = zf ∨ b = zl) w0 wq) (fun i _ => 16 - (intOf i).toNat)
  case atStart => exact ⟨0, by omega, rfl, B, HF0.out, HT0.out, HR5.out, HM0.out⟩
  case round =>
    obtain ⟨j, hj, rfl, B2, hF, hT, hR, hM⟩ := hrel
    clear HT0 HR5 HM0 HF0
    have HF : Hid (Fl D.G D.H j B2) := hF
    have HT : Hid (FT D zh z1 z2 zf zl B2 wr) := hT
    have HR : Hid (Row wr z5 5 (row5f D.G.c (.slice (some ⟨z1, 0, none⟩) 4 4))) := hR
    have HM : Hid (Mod (fun b => b = zf ∨ b = zl) w0 wr) := hM
    clear hF hT hR hM
    by_cases hlt : j < 16
    · have hlt' : (j : Int) < 16 := by omega
      obtain ⟨p0, p1, p2, p3, p4⟩ := get5 HR.out
      go_wp2_with fail
      clear p0 p1 p2 p3 p4
      refine (leafAt_any D.G.c z1 4 D.G.D.p D.G.D.m j _ (by omega) (ng_topsG HG.out) hlt HT.out.l1).mono ?_
      rintro e w2 ⟨rfl, hb2⟩
      replace HT : Hid (FT D zh z1 z2 zf zl B2 w2) := HT.out.go hb2
      replace HR : Hid (Row w2 z5 5 (row5f D.G.c (.slice (some ⟨z1, 0, none⟩) 4 4))) := HR.out.blw hb2
      replace HM : Hid (Mod (fun b => b = zf ∨ b = zl) w0 w2) := HM.out.trans (hb2.mod _)
      clear hb2
      go_wp2_with fail
      refine (flatFn_any D zh z1 z2 zf zl j B2 _ HG.out hlt HF.out HT.out).mono ?_
      rintro e w3 ⟨⟨u, rfl⟩, B3, hF3, hT3, hM3⟩
      have HN : Hid (∃ B', Fl D.G D.H (j + 1) B' ∧ FT D zh z1 z2 zf zl B' w3 ∧ Row w3 z5 5 (row5f D.G.c (.slice (some ⟨z1, 0, none⟩) 4 4)) ∧ Mod (fun b => b = zf ∨ b = zl) w0 w3) := ⟨B3, hF3, hT3, HR.out.mod hM3 (by have := HNE.out; omega), HM.out.trans hM3⟩
      clear HF HT HR HM hF3 hT3 hM3
      go_wp2
      go_roundw
      case rel => exact ⟨j + 1, by omega, by go_num, HN.out⟩
      case measure => simp [intOf]; omega
    · obtain rfl : j = 16 := by omega
      have HN : Hid (∃ B', Fl D.G D.H 16 B' ∧ FT D zh z1 z2 zf zl B' wr ∧ Mod (fun b => b = zf ∨ b = zl) w0 wr) := ⟨B2, HF.out, HT.out, HM.out⟩
      clear HF HT HR HM hlt
      go_wp2
      refine bodyPost_end (results_none rfl _ _ _) rfl ?_
      exact ⟨⟨_, rfl⟩, HN.out⟩
end Go.Proofs.Ytjplodenflkghaa
/- Flat tables: the program's FlatOf. -/
namespace Go.Proofs.Ytjplodenflkghaa
open Go.RowKit
set_option linter.unusedSimpArgs false
set_option linter.unusedVariables false
theorem Fl.form {G H : BD} : ∀ {j : Nat} {B : BD}, Fl G H j B → B = ⟨4, B.c, ⟨4, fun _ => 4, B.D.p, B.D.m⟩⟩
  | 0, _, .zero => rfl
  | j + 1, _, .skip h _ => h.form
  | j + 1, _, .put (B := B) h _ _ => by
    have e : B.D.n = 4 := by rw [h.form]
    rw [chB_eq e]
set_option maxRecDepth 10000 in
set_option maxHeartbeats 3200000 in
theorem flat_any (D : ND) (z1 z2 : Nat) (w : World) (g : D.Good) (h1 : Row w z1 (4 * 8) (lc D.G.D.p D.G.D.m)) (h2 : Row w z2 (4 * 8) (lc D.H.D.p D.H.D.m)) :
    Calls Try.prog 112 #[.agg (held10 D.G.c D.H.c z1 4 z2 4)] w fun e w' => (∃ B zl, Fl D.G D.H 16 B ∧ e = .returned (.agg (held5 B.c zl 4)) ∧ Row w' zl (4 * 8) (lc B.D.p B.D.m) ∧ w.heap.size ≤ zl) ∧ Blw w w' := by
  have hA1 : Blw w (w.alloc (.cells (held10 D.G.c D.H.c z1 4 z2 4) 138)) := (Blw.refl _).alloc _
  have hA2 : Blw (w.alloc (.cells (held10 D.G.c D.H.c z1 4 z2 4) 138)) ((w.alloc (.cells (held10 D.G.c D.H.c z1 4 z2 4) 138)).alloc (.cells zero5 129)) := (Blw.refl _).alloc _
  have rz := zrow5 (w.alloc (.cells (held10 D.G.c D.H.c z1 4 z2 4) 138)) (.slice none 0 0) 129
  rw [World.size_alloc] at rz
  have HZ : Hid (Row ((w.alloc (.cells (held10 D.G.c D.H.c z1 4 z2 4) 138)).alloc (.cells zero5 129)) (w.heap.size + 1) 5 (zrow (.slice none 0 0))) := rz
  have HR : Hid (Row ((w.alloc (.cells (held10 D.G.c D.H.c z1 4 z2 4) 138)).alloc (.cells zero5 129)) w.heap.size 10 (hten D.G.c D.H.c (.slice (some ⟨z1, 0, none⟩) 4 4) (.slice (some ⟨z2, 0, none⟩) 4 4))) := (box_hh w D.G.c D.H.c z1 z2).blw hA2
  have H1 : Hid (Row ((w.alloc (.cells (held10 D.G.c D.H.c z1 4 z2 4) 138)).alloc (.cells zero5 129)) z1 (4 * 8) (lc D.G.D.p D.G.D.m)) := h1.blw (hA1.trans hA2)
  have H2 : Hid (Row ((w.alloc (.cells (held10 D.G.c D.H.c z1 4 z2 4) 138)).alloc (.cells zero5 129)) z2 (4 * 8) (lc D.H.D.p D.H.D.m)) := h2.blw (hA1.trans hA2)
  have HB : Hid (Blw w ((w.alloc (.cells (held10 D.G.c D.H.c z1 4 z2 4) 138)).alloc (.cells zero5 129))) := hA1.trans hA2
  have HL : Hid (z1 < w.heap.size ∧ z2 < w.heap.size) := ⟨h1.lt, h2.lt⟩
  have HSZ : Hid (w.heap.size + 1 + 1 = ((w.alloc (.cells (held10 D.G.c D.H.c z1 4 z2 4) 138)).alloc (.cells zero5 129)).heap.size) := by show _ = _; simp
  have HG : Hid D.Good := g
  clear hA1 hA2 rz h1 h2 g
  go_enter Try.func112, Try.ntmps112
  go_upto_region 1 with fail
  generalize ((w.alloc (.cells (held10 D.G.c D.H.c z1 4 z2 4) 138)).alloc (.cells zero5 129)) = w0 at *
  go_wp2_with fail
  refine (emptyTable_any 4 _ (by omega) (by omega)).mono ?_
  rintro e w1 ⟨zl, rfl, rl, hzl, hb1⟩
  have hA : Blw w1 (w1.alloc (.cells (held5 (fun _ => -1) zl 4) 129)) := (Blw.refl _).alloc _
  have hs1 := hb1.size
  have hsz := HSZ.out
  have hl := HL.out
  have hrl := rl.lt
  have HFT : Hid (FT D w.heap.size z1 z2 w1.heap.size zl (newB 4) (w1.alloc (.cells (held5 (fun _ => -1) zl 4) 129))) :=
    ⟨(HR.out.blw hb1).blw hA, (H1.out.blw hb1).blw hA, (H2.out.blw hb1).blw hA, row5 w1 (.int .i64 (-1)) (.int .i64 (-1)) (.int .i64 (-1)) (.int .i64 (-1)) (.slice (some ⟨zl, 0, none⟩) 4 4) 129, rl.blw hA, ⟨by omega, by omega⟩, ⟨by omega, by omega⟩, ⟨by omega, by omega⟩, by omega⟩
  replace HZ : Hid (Row (w1.alloc (.cells (held5 (fun _ => -1) zl 4) 129)) (w.heap.size + 1) 5 (zrow (.slice none 0 0))) := (HZ.out.blw hb1).blw hA
  replace HB : Hid (Blw w (w1.alloc (.cells (held5 (fun _ => -1) zl 4) 129))) := (HB.out.trans hb1).trans hA
  have HZZ : Hid (w.heap.size + 1 + 1 ≤ zl ∧ w.heap.size + 1 + 1 ≤ w1.heap.size) := ⟨by omega, by omega⟩
  clear hb1 hA hs1 hsz hl hrl rl HR H1 H2 HL HSZ hzl
  go_upto_region 2 with fail
  generalize (w1.alloc (.cells (held5 (fun _ => -1) zl 4) 129)) = w2 at *
  generalize w1.heap.size = zf at *
  obtain ⟨p0, p1, p2, p3, p4, p5, p6, p7, p8, p9⟩ := get10 HFT.out.h
  go_wp2_with fail
  clear p0 p1 p2 p3 p4 p5 p6 p7 p8 p9
  refine (walkFlat_any D w.heap.size z1 z2 zf zl (newB 4) _ HG.out .zero HFT.out).mono ?_
  rintro e w3 ⟨⟨u, rfl⟩, B, hF, hT, hM⟩
  have HF : Hid (Fl D.G D.H 16 B) := hF
  have HT : Hid (FT D w.heap.size z1 z2 zf zl B w3) := hT
  have hzz := HZZ.out
  replace HZ : Hid (Row w3 (w.heap.size + 1) 5 (zrow (.slice none 0 0))) := HZ.out.mod hM (by omega)
  replace HB : Hid (Blw w w3) := Mod.blw HB.out hM (fun i hi => by omega)
  clear hF hT hM HFT hzz
  obtain ⟨t0, t1, t2, t3, t4⟩ := zget HZ.out
  have f0 := HZ.out.frozen 0; have f1 := HZ.out.frozen 1; have f2 := HZ.out.frozen 2; have f3 := HZ.out.frozen 3; have f4 := HZ.out.frozen 4
  obtain ⟨s0, s1, s2, s3, s4⟩ := get5 HT.out.f
  clear HZ
  go_wp2
  refine bodyPost_ret (v := .agg (held5 B.c zl 4)) (by simp [results, Try.results112, go_sem, t0, t1, t2, t3, t4]) rfl ?_
  have hzz := HZZ.out
  exact ⟨⟨B, zl, HF.out, rfl, HT.out.lf.mod (set5_mod _ (w.heap.size + 1) _ _ _ _ _) (by omega), by omega⟩, set5_blw HB.out (by omega) _ _ _ _ _⟩
/-- What FlatOf tells. -/
def foOut (D : ND) (R : BD) (r : Bool) : Prop := (D.Good ∧ Fl D.G D.H 16 R ∧ r = true) ∨ (¬ D.Good ∧ R = BD.zero ∧ r = false)
theorem foOut_same {D : ND} {R R' : BD} {r r' : Bool} (h : foOut D R r) (h' : foOut D R' r') : R = R' ∧ r = r' := by
  rcases h with ⟨g, a, rfl⟩ | ⟨g, rfl, rfl⟩ <;> rcases h' with ⟨g', a', rfl⟩ | ⟨g', rfl, rfl⟩
  · exact ⟨a.same a', rfl⟩
  · exact absurd g g'
  · exact absurd g' g
  · exact ⟨rfl, rfl⟩
set_option maxRecDepth 10000 in
set_option maxHeartbeats 3200000 in
theorem implFlat_any (v : NV) (D : ND) (Y : Nat → Prop) (w : World) (h : NAt Y w v D) (hY : ∀ x, Y x → x < w.heap.size) :
    Calls Try.prog 38 #[v.val D] w (GivesB (foOut D) w) := by
  have hA1 : Blw w (w.alloc (.cells #[.slice v.g.a1 D.G.n v.g.c1, .slice v.g.a2 D.G.D.n v.g.c2, .slice v.h.a1 D.H.n v.h.c1, .slice v.h.a2 D.H.D.n v.h.c2] 60)) := (Blw.refl _).alloc _
  have hA2 : Blw (w.alloc (.cells #[.slice v.g.a1 D.G.n v.g.c1, .slice v.g.a2 D.G.D.n v.g.c2, .slice v.h.a1 D.H.n v.h.c1, .slice v.h.a2 D.H.D.n v.h.c2] 60)) ((w.alloc (.cells #[.slice v.g.a1 D.G.n v.g.c1, .slice v.g.a2 D.G.D.n v.g.c2, .slice v.h.a1 D.H.n v.h.c1, .slice v.h.a2 D.H.D.n v.h.c2] 60)).alloc (.cells #[.slice none 0 0, .slice none 0 0] 29)) := (Blw.refl _).alloc _
  have rz := box2 (w.alloc (.cells #[.slice v.g.a1 D.G.n v.g.c1, .slice v.g.a2 D.G.D.n v.g.c2, .slice v.h.a1 D.H.n v.h.c1, .slice v.h.a2 D.H.D.n v.h.c2] 60)) (.slice none 0 0) (.slice none 0 0) 29
  rw [World.size_alloc] at rz
  have HZ : Hid (Row ((w.alloc (.cells #[.slice v.g.a1 D.G.n v.g.c1, .slice v.g.a2 D.G.D.n v.g.c2, .slice v.h.a1 D.H.n v.h.c1, .slice v.h.a2 D.H.D.n v.h.c2] 60)).alloc (.cells #[.slice none 0 0, .slice none 0 0] 29)) (w.heap.size + 1) 2 (fun i => if i = 0 then .slice none 0 0 else .slice none 0 0)) := rz
  have HR : Hid (Row ((w.alloc (.cells #[.slice v.g.a1 D.G.n v.g.c1, .slice v.g.a2 D.G.D.n v.g.c2, .slice v.h.a1 D.H.n v.h.c1, .slice v.h.a2 D.H.D.n v.h.c2] 60)).alloc (.cells #[.slice none 0 0, .slice none 0 0] 29)) w.heap.size 4 (nb v D)) := (box4 w _ _ _ _ 60).blw hA2
  have HN : Hid (NAt Y ((w.alloc (.cells #[.slice v.g.a1 D.G.n v.g.c1, .slice v.g.a2 D.G.D.n v.g.c2, .slice v.h.a1 D.H.n v.h.c1, .slice v.h.a2 D.H.D.n v.h.c2] 60)).alloc (.cells #[.slice none 0 0, .slice none 0 0] 29)) v D) := h.blw (hA1.trans hA2)
  have HB : Hid (Blw w ((w.alloc (.cells #[.slice v.g.a1 D.G.n v.g.c1, .slice v.g.a2 D.G.D.n v.g.c2, .slice v.h.a1 D.H.n v.h.c1, .slice v.h.a2 D.H.D.n v.h.c2] 60)).alloc (.cells #[.slice none 0 0, .slice none 0 0] 29))) := hA1.trans hA2
  have HSZ : Hid (w.heap.size + 1 + 1 = ((w.alloc (.cells #[.slice v.g.a1 D.G.n v.g.c1, .slice v.g.a2 D.G.D.n v.g.c2, .slice v.h.a1 D.H.n v.h.c1, .slice v.h.a2 D.H.D.n v.h.c2] 60)).alloc (.cells #[.slice none 0 0, .slice none 0 0] 29)).heap.size) := by show _ = _; simp
  have HYY : Hid (∀ x, Y x → x < ((w.alloc (.cells #[.slice v.g.a1 D.G.n v.g.c1, .slice v.g.a2 D.G.D.n v.g.c2, .slice v.h.a1 D.H.n v.h.c1, .slice v.h.a2 D.H.D.n v.h.c2] 60)).alloc (.cells #[.slice none 0 0, .slice none 0 0] 29)).heap.size) := fun x hx => by have := hY x hx; simp; omega
  clear hA1 hA2 rz h hY
  go_enter Try.func38, Try.ntmps38
  obtain ⟨p0, p1, p2, p3⟩ := get4 HR.out
  go_wp2_with fail
  clear p0 p1 p2 p3
  generalize ((w.alloc (.cells #[.slice v.g.a1 D.G.n v.g.c1, .slice v.g.a2 D.G.D.n v.g.c2, .slice v.h.a1 D.H.n v.h.c1, .slice v.h.a2 D.H.D.n v.h.c2] 60)).alloc (.cells #[.slice none 0 0, .slice none 0 0] 29)) = w0 at *
  refine (holdNest_any v D Y _ HN.out HYY.out).mono ?_
  rintro e w1 ⟨h1, hb1⟩
  rcases h1 with ⟨z1, z2, hg, rfl, hrow, hrow2, hlo, hlo2⟩ | ⟨hg, rfl⟩
  case inr =>
    have hA : Blw w1 (w1.alloc (.cells zero10 138)) := (Blw.refl _).alloc _
    replace HZ : Hid (Row (w1.alloc (.cells zero10 138)) (w.heap.size + 1) 2 (fun i => if i = 0 then .slice none 0 0 else .slice none 0 0)) := (HZ.out.blw hb1).blw hA
    replace HB : Hid (Blw w (w1.alloc (.cells zero10 138))) := (HB.out.trans hb1).trans hA
    have HG : Hid (¬ D.Good) := hg
    clear hA hb1 hg HN HYY HSZ HR
    go_upto_region 2 with fail
    generalize (w1.alloc (.cells zero10 138)) = w2 at *
    obtain ⟨t0, t1⟩ := get2 HZ.out
    have f0 := HZ.out.frozen 0; have f1 := HZ.out.frozen 1
    clear HZ
    go_wp2
    exact bodyPost_ret (v := .tuple #[BV.zero.val BD.zero, .bool false]) (by simp [results, Try.results38, go_sem, t0, t1]) rfl (zero_givesT (z := w.heap.size + 1) (by omega) (Or.inr ⟨HG.out, rfl, rfl⟩) HB.out)
  have hA : Blw w1 (w1.alloc (.cells (held10 D.G.c D.H.c z1 4 z2 4) 138)) := (Blw.refl _).alloc _
  have HG : Hid D.Good := hg
  have H10 : Hid (Row (w1.alloc (.cells (held10 D.G.c D.H.c z1 4 z2 4) 138)) w1.heap.size 10 (hten D.G.c D.H.c (.slice (some ⟨z1, 0, none⟩) 4 4) (.slice (some ⟨z2, 0, none⟩) 4 4))) := box_hh w1 D.G.c D.H.c z1 z2
  have HGL : Hid (Row (w1.alloc (.cells (held10 D.G.c D.H.c z1 4 z2 4) 138)) z1 (4 * 8) (lc D.G.D.p D.G.D.m)) := hrow.blw hA
  have HHL : Hid (Row (w1.alloc (.cells (held10 D.G.c D.H.c z1 4 z2 4) 138)) z2 (4 * 8) (lc D.H.D.p D.H.D.m)) := hrow2.blw hA
  replace HZ : Hid (Row (w1.alloc (.cells (held10 D.G.c D.H.c z1 4 z2 4) 138)) (w.heap.size + 1) 2 (fun i => if i = 0 then .slice none 0 0 else .slice none 0 0)) := (HZ.out.blw hb1).blw hA
  replace HB : Hid (Blw w (w1.alloc (.cells (held10 D.G.c D.H.c z1 4 z2 4) 138))) := (HB.out.trans hb1).trans hA
  clear hA hb1 hg HN HYY HSZ HR hrow hrow2 hlo hlo2
  go_upto_region 2 with fail
  generalize (w1.alloc (.cells (held10 D.G.c D.H.c z1 4 z2 4) 138)) = w2 at *
  generalize w1.heap.size = zb at *
  obtain ⟨p0, p1, p2, p3, p4, p5, p6, p7, p8, p9⟩ := get10 H10.out
  go_wp2_with fail
  clear p0 p1 p2 p3 p4 p5 p6 p7 p8 p9
  refine (flat_any D z1 z2 _ HG.out HGL.out HHL.out).mono ?_
  rintro e w3 ⟨⟨B, zl, hF, rfl, hrl, hzl⟩, hb3⟩
  have HF : Hid (Fl D.G D.H 16 B) := hF
  have HRL : Hid (Row w3 zl (4 * 8) (lc B.D.p B.D.m)) := hrl
  replace HZ : Hid (Row w3 (w.heap.size + 1) 2 (fun i => if i = 0 then .slice none 0 0 else .slice none 0 0)) := HZ.out.blw hb3
  replace HB : Hid (Blw w w3) := HB.out.trans hb3
  clear hF hrl hzl hb3 H10 HGL HHL
  go_wp2_with fail
  refine (giveOut_any B.c zl 4 B.D.p B.D.m _ (by omega) HRL.out).mono ?_
  rintro e w4 ⟨b4, rfl, own, hb4⟩
  have hr2 := HZ.out.blw hb4
  have hlt := HZ.out.lt
  have FIN : Hid _ := fin_givesT (out := foOut D) (w := w) (W := w4) (z := w.heap.size + 1) (b := b4) (R := ⟨4, B.c, ⟨4, fun _ => 4, B.D.p, B.D.m⟩⟩) (by omega) (Or.inl ⟨HG.out, by rw [← HF.out.form]; exact HF.out, rfl⟩) (small4 (by omega)) (HB.out.trans hb4) own (fun x hx => ⟨by have := HB.out.size; omega, by omega, hx.2⟩)
  obtain ⟨t0, t1⟩ := get2 hr2
  have f0 := hr2.frozen 0; have f1 := hr2.frozen 1
  clear HZ HB HRL HF hr2 hlt own hb4
  go_wp2
  exact bodyPost_ret (v := .tuple #[b4.val ⟨4, B.c, ⟨4, fun _ => 4, B.D.p, B.D.m⟩⟩, .bool true]) (by simp [results, Try.results38, go_sem, t0, t1]) rfl FIN.out
end Go.Proofs.Ytjplodenflkghaa
/- Reached pages: the program's. -/
namespace Go.Proofs.Ytjplodenflkghaa
open Go.RowKit
set_option linter.unusedSimpArgs false
set_option linter.unusedVariables false
abbrev b16 (R : Nat → Bool) : Array Value := #[.bool (R 0), .bool (R 1), .bool (R 2), .bool (R 3), .bool (R 4), .bool (R 5), .bool (R 6), .bool (R 7), .bool (R 8), .bool (R 9), .bool (R 10), .bool (R 11), .bool (R 12), .bool (R 13), .bool (R 14), .bool (R 15)]
abbrev f16 : Array Value := #[.bool false, .bool false, .bool false, .bool false, .bool false, .bool false, .bool false, .bool false, .bool false, .bool false, .bool false, .bool false, .bool false, .bool false, .bool false, .bool false]
theorem row16 (w : World) (R : Nat → Bool) (t : TypeId) : Row (w.alloc (.cells (b16 R) t)) w.heap.size 16 (fun i => .bool (R i)) :=
  ⟨_, t, heap_alloc_new _ _, by simp, fun k hk => by
    match k, hk with
    | 0, _ => rfl
    | 1, _ => rfl
    | 2, _ => rfl
    | 3, _ => rfl
    | 4, _ => rfl
    | 5, _ => rfl
    | 6, _ => rfl
    | 7, _ => rfl
    | 8, _ => rfl
    | 9, _ => rfl
    | 10, _ => rfl
    | 11, _ => rfl
    | 12, _ => rfl
    | 13, _ => rfl
    | 14, _ => rfl
    | 15, _ => rfl
    | n + 16, h => exact absurd h (by omega)⟩
theorem get16 {w : World} {B : Nat} {R : Nat → Bool} (r : Row w B 16 (fun i => .bool (R i))) : w.cell? ⟨B, 0, none⟩ = some (.bool (R 0)) ∧ w.cell? ⟨B, 1, none⟩ = some (.bool (R 1)) ∧ w.cell? ⟨B, 2, none⟩ = some (.bool (R 2)) ∧ w.cell? ⟨B, 3, none⟩ = some (.bool (R 3)) ∧ w.cell? ⟨B, 4, none⟩ = some (.bool (R 4)) ∧ w.cell? ⟨B, 5, none⟩ = some (.bool (R 5)) ∧ w.cell? ⟨B, 6, none⟩ = some (.bool (R 6)) ∧ w.cell? ⟨B, 7, none⟩ = some (.bool (R 7)) ∧ w.cell? ⟨B, 8, none⟩ = some (.bool (R 8)) ∧ w.cell? ⟨B, 9, none⟩ = some (.bool (R 9)) ∧ w.cell? ⟨B, 10, none⟩ = some (.bool (R 10)) ∧ w.cell? ⟨B, 11, none⟩ = some (.bool (R 11)) ∧ w.cell? ⟨B, 12, none⟩ = some (.bool (R 12)) ∧ w.cell? ⟨B, 13, none⟩ = some (.bool (R 13)) ∧ w.cell? ⟨B, 14, none⟩ = some (.bool (R 14)) ∧ w.cell? ⟨B, 15, none⟩ = some (.bool (R 15)) :=
  ⟨r.cell (i := 0) (by omega), r.cell (i := 1) (by omega), r.cell (i := 2) (by omega), r.cell (i := 3) (by omega), r.cell (i := 4) (by omega), r.cell (i := 5) (by omega), r.cell (i := 6) (by omega), r.cell (i := 7) (by omega), r.cell (i := 8) (by omega), r.cell (i := 9) (by omega), r.cell (i := 10) (by omega), r.cell (i := 11) (by omega), r.cell (i := 12) (by omega), r.cell (i := 13) (by omega), r.cell (i := 14) (by omega), r.cell (i := 15) (by omega)⟩
theorem row16_set {w : World} {B : Nat} {R : Nat → Bool} (r : Row w B 16 (fun i => .bool (R i))) {x : Nat} {y : Int} (hy : ¬ y = 0) : Row (w.setCell ⟨B, x, none⟩ (.bool true)) B 16 (fun i => .bool (setR R (x : Int) y i)) :=
  (r.set x (.bool true)).congr fun i hi => by
    unfold setR
    rw [if_neg hy]
    by_cases e : i = x
    · subst e; rw [if_pos rfl, if_pos rfl]
    · rw [if_neg e, if_neg (by omega)]
theorem setR_zero (R : Nat → Bool) (x : Int) : setR R x 0 = R := by funext i; unfold setR; rw [if_pos rfl]
set_option maxRecDepth 10000 in
set_option maxHeartbeats 1600000 in
theorem reachFn_any (j : Int) (x y : Int) (zr : Nat) (R : Nat → Bool) (w : World) (hx : 0 ≤ x ∧ x ≤ 15) (h : Row w zr 16 (fun i => .bool (R i))) :
    Calls Try.prog 174 #[.int .i64 j, .agg #[.int .i64 x, .int .i64 y], .pointer (some ⟨zr, 0, none⟩)] w fun e w' => (∃ u, e = .returned u) ∧ Row w' zr 16 (fun i => .bool (setR R x y i)) ∧ Mod (fun b => b = zr) w w' := by
  obtain ⟨xn, hxn⟩ : ∃ xn : Nat, x = xn := ⟨x.toNat, by omega⟩
  subst hxn
  have hA : Blw w (w.alloc (.cells #[.int .i64 (xn : Int), .int .i64 y] 144)) := (Blw.refl _).alloc _
  have HLF : Hid (Row (w.alloc (.cells #[.int .i64 (xn : Int), .int .i64 y] 144)) w.heap.size 2 (fun i => if i = 0 then .int .i64 (xn : Int) else .int .i64 y)) := box2 w _ _ 144
  have HR : Hid (Row (w.alloc (.cells #[.int .i64 (xn : Int), .int .i64 y] 144)) zr 16 (fun i => .bool (R i))) := h.blw hA
  have HM : Hid (Mod (fun b => b = zr) w (w.alloc (.cells #[.int .i64 (xn : Int), .int .i64 y] 144))) := hA.mod _
  have hx16 : xn < 16 := by omega
  have hx16' : (xn : Int) < 16 := by omega
  clear hA h hx
  go_enter Try.func174, Try.ntmps174
  obtain ⟨l0, l1⟩ := get2 HLF.out
  by_cases hd : y = 0
  · subst hd
    have FIN : Hid (Row (w.alloc (.cells #[.int .i64 (xn : Int), .int .i64 0] 144)) zr 16 (fun i => .bool (setR R (xn : Int) 0 i))) := by rw [setR_zero]; exact HR.out
    clear HLF HR
    go_wp2
    refine bodyPost_end (results_none rfl _ _ _) rfl ?_
    exact ⟨⟨_, rfl⟩, FIN.out, HM.out⟩
  have e1 : (y != 0) = true := by simp [hd]
  have r1 := HR.out.cell (i := xn) hx16
  have f1 := HR.out.frozen xn
  have FIN : Hid (Row ((w.alloc (.cells #[.int .i64 (xn : Int), .int .i64 y] 144)).setCell ⟨zr, xn, none⟩ (.bool true)) zr 16 (fun i => .bool (setR R (xn : Int) y i)) ∧ Mod (fun b => b = zr) w ((w.alloc (.cells #[.int .i64 (xn : Int), .int .i64 y] 144)).setCell ⟨zr, xn, none⟩ (.bool true))) := ⟨row16_set HR.out hd, HM.out.trans (Mod.setCell (X := fun b => b = zr) _ (p := ⟨zr, xn, none⟩) rfl _)⟩
  clear hd HLF HR HM
  go_wp2
  refine bodyPost_end (results_none rfl _ _ _) rfl ?_
  exact ⟨⟨_, rfl⟩, FIN.out.1, FIN.out.2⟩
set_option maxRecDepth 10000 in
set_option maxHeartbeats 3200000 in
theorem walkReach_any (B : BD) (zl zr : Nat) (w0 : World) (g : B.Good) (hn : B.D.n = 4) (hne : zl ≠ zr) (hl : Row w0 zl (4 * 8) (lc B.D.p B.D.m)) (h : Row w0 zr 16 (fun i => .bool (RR B 0 i))) :
    Calls Try.prog 165 #[.agg (held5 B.c zl 4), .func (.func 174) #[] #[.pointer (some ⟨zr, 0, none⟩)]] w0 fun e w' => (∃ u, e = .returned u) ∧ Row w' zr 16 (fun i => .bool (RR B 16 i)) ∧ Mod (fun b => b = zr) w0 w' := by
  have hA : Blw w0 (w0.alloc (.cells (held5 B.c zl 4) 129)) := (Blw.refl _).alloc _
  have HR5 : Hid (Row (w0.alloc (.cells (held5 B.c zl 4) 129)) w0.heap.size 5 (row5f B.c (.slice (some ⟨zl, 0, none⟩) 4 4))) := row5 w0 (.int .i64 (B.c 0)) (.int .i64 (B.c 1)) (.int .i64 (B.c 2)) (.int .i64 (B.c 3)) (.slice (some ⟨zl, 0, none⟩) 4 4) 129
  have HL0 : Hid (Row (w0.alloc (.cells (held5 B.c zl 4) 129)) zl (4 * 8) (lc B.D.p B.D.m)) := hl.blw hA
  have HR0 : Hid (Row (w0.alloc (.cells (held5 B.c zl 4) 129)) zr 16 (fun i => .bool (RR B 0 i))) := h.blw hA
  have HM0 : Hid (Mod (fun b => b = zr) w0 (w0.alloc (.cells (held5 B.c zl 4) 129))) := hA.mod _
  have HNE : Hid (w0.heap.size ≠ zr) := by have := h.lt; show _ ≠ _; omega
  have HG : Hid B.Good := g
  have HTB : Hid (∀ i, i < 4 → -1 ≤ B.c i ∧ B.c i ≤ ((4 : Nat) : Int) - 1) := fun i hi => by have := g.top i (by rw [g.n]; exact hi); rw [hn] at this; exact this
  clear hA h hl g hn
  go_enter Try.func165, Try.ntmps165
  go_wp2_with fail
  generalize w0.heap.size = z5 at *
  generalize (w0.alloc (.cells (held5 B.c zl 4) 129)) = w1 at *
  go_loopw [5] (fun i wq => ∃ j : Nat, j ≤ 16 ∧ i = .int .i64 j ∧ Row wq zr 16 (fun i => .bool (RR B j i)) ∧ Row wq zl (4 * 8) (lc B.D.p B.D.m) ∧ Row wq z5 5 (row5f B.c (.slice (some ⟨zl, 0, none⟩) 4 4)) ∧ Mod (fun b => b = zr) w0 wq) (fun i _ => 16 - (intOf i).toNat)
  case atStart => exact ⟨0, by omega, rfl, HR0.out, HL0.out, HR5.out, HM0.out⟩
  case round =>
    obtain ⟨j, hj, rfl, hT, hL, hR, hM⟩ := hrel
    clear HR0 HL0 HR5 HM0
    have HT : Hid (Row wr zr 16 (fun i => .bool (RR B j i))) := hT
    have HL : Hid (Row wr zl (4 * 8) (lc B.D.p B.D.m)) := hL
    have HR : Hid (Row wr z5 5 (row5f B.c (.slice (some ⟨zl, 0, none⟩) 4 4))) := hR
    have HM : Hid (Mod (fun b => b = zr) w0 wr) := hM
    clear hT hL hR hM
    by_cases hlt : j < 16
    · have hlt' : (j : Int) < 16 := by omega
      obtain ⟨p0, p1, p2, p3, p4⟩ := get5 HR.out
      go_wp2_with fail
      clear p0 p1 p2 p3 p4
      refine (leafAt_any B.c zl 4 B.D.p B.D.m j _ (by omega) HTB.out hlt HL.out).mono ?_
      rintro e w2 ⟨rfl, hb2⟩
      replace HT : Hid (Row w2 zr 16 (fun i => .bool (RR B j i))) := HT.out.blw hb2
      replace HL : Hid (Row w2 zl (4 * 8) (lc B.D.p B.D.m)) := HL.out.blw hb2
      replace HR : Hid (Row w2 z5 5 (row5f B.c (.slice (some ⟨zl, 0, none⟩) 4 4))) := HR.out.blw hb2
      replace HM : Hid (Mod (fun b => b = zr) w0 w2) := HM.out.trans (hb2.mod _)
      clear hb2
      go_wp2_with fail
      refine (reachFn_any (j : Int) (lfP B.c B.D.p j) (lfP B.c B.D.m j) zr (RR B j) _ (leafs HG.out hlt).1 HT.out).mono ?_
      rintro e w3 ⟨⟨u, rfl⟩, hT3, hM3⟩
      have HN : Hid (Row w3 zr 16 (fun i => .bool (RR B (j + 1) i)) ∧ Row w3 zl (4 * 8) (lc B.D.p B.D.m) ∧ Row w3 z5 5 (row5f B.c (.slice (some ⟨zl, 0, none⟩) 4 4)) ∧ Mod (fun b => b = zr) w0 w3) := ⟨hT3, HL.out.mod hM3 hne, HR.out.mod hM3 HNE.out, HM.out.trans hM3⟩
      clear HT HL HR HM hT3 hM3
      go_wp2
      go_roundw
      case rel => exact ⟨j + 1, by omega, by go_num, HN.out⟩
      case measure => simp [intOf]; omega
    · obtain rfl : j = 16 := by omega
      clear HL HR hlt
      go_wp2
      refine bodyPost_end (results_none rfl _ _ _) rfl ?_
      exact ⟨⟨_, rfl⟩, HT.out, HM.out⟩
abbrev set16 (W : World) (z : Nat) (R : Nat → Bool) : World := ((((((((((((((((W.setCell ⟨z, 0, none⟩ (.bool (R 0))).setCell ⟨z, 1, none⟩ (.bool (R 1))).setCell ⟨z, 2, none⟩ (.bool (R 2))).setCell ⟨z, 3, none⟩ (.bool (R 3))).setCell ⟨z, 4, none⟩ (.bool (R 4))).setCell ⟨z, 5, none⟩ (.bool (R 5))).setCell ⟨z, 6, none⟩ (.bool (R 6))).setCell ⟨z, 7, none⟩ (.bool (R 7))).setCell ⟨z, 8, none⟩ (.bool (R 8))).setCell ⟨z, 9, none⟩ (.bool (R 9))).setCell ⟨z, 10, none⟩ (.bool (R 10))).setCell ⟨z, 11, none⟩ (.bool (R 11))).setCell ⟨z, 12, none⟩ (.bool (R 12))).setCell ⟨z, 13, none⟩ (.bool (R 13))).setCell ⟨z, 14, none⟩ (.bool (R 14))).setCell ⟨z, 15, none⟩ (.bool (R 15)))
theorem set16_blw {w W : World} {z : Nat} (h : Blw w W) (hz : w.heap.size ≤ z) (R : Nat → Bool) : Blw w (set16 W z R) :=
  (((((((((((((((h.setCell (p := ⟨z, 0, none⟩) hz _).setCell (p := ⟨z, 1, none⟩) hz _).setCell (p := ⟨z, 2, none⟩) hz _).setCell (p := ⟨z, 3, none⟩) hz _).setCell (p := ⟨z, 4, none⟩) hz _).setCell (p := ⟨z, 5, none⟩) hz _).setCell (p := ⟨z, 6, none⟩) hz _).setCell (p := ⟨z, 7, none⟩) hz _).setCell (p := ⟨z, 8, none⟩) hz _).setCell (p := ⟨z, 9, none⟩) hz _).setCell (p := ⟨z, 10, none⟩) hz _).setCell (p := ⟨z, 11, none⟩) hz _).setCell (p := ⟨z, 12, none⟩) hz _).setCell (p := ⟨z, 13, none⟩) hz _).setCell (p := ⟨z, 14, none⟩) hz _).setCell (p := ⟨z, 15, none⟩) hz _
set_option maxRecDepth 10000 in
set_option maxHeartbeats 6400000 in
theorem reached_any (D : ND) (z1 z2 : Nat) (w : World) (g : D.Good) (h1 : Row w z1 (4 * 8) (lc D.G.D.p D.G.D.m)) (h2 : Row w z2 (4 * 8) (lc D.H.D.p D.H.D.m)) :
    Calls Try.prog 119 #[.agg (held10 D.G.c D.H.c z1 4 z2 4)] w fun e w' => ∃ B, Fl D.G D.H 16 B ∧ e = .returned (.agg (b16 (RR B 16))) ∧ Blw w w' := by
  have hA1 : Blw w (w.alloc (.cells (held10 D.G.c D.H.c z1 4 z2 4) 138)) := (Blw.refl _).alloc _
  have hA2 : Blw (w.alloc (.cells (held10 D.G.c D.H.c z1 4 z2 4) 138)) ((w.alloc (.cells (held10 D.G.c D.H.c z1 4 z2 4) 138)).alloc (.cells f16 153)) := (Blw.refl _).alloc _
  have hA3 : Blw ((w.alloc (.cells (held10 D.G.c D.H.c z1 4 z2 4) 138)).alloc (.cells f16 153)) (((w.alloc (.cells (held10 D.G.c D.H.c z1 4 z2 4) 138)).alloc (.cells f16 153)).alloc (.cells f16 153)) := (Blw.refl _).alloc _
  have rz := (row16 (w.alloc (.cells (held10 D.G.c D.H.c z1 4 z2 4) 138)) (fun _ => false) 153).blw hA3
  rw [World.size_alloc] at rz
  have rq := row16 ((w.alloc (.cells (held10 D.G.c D.H.c z1 4 z2 4) 138)).alloc (.cells f16 153)) (fun _ => false) 153
  rw [World.size_alloc, World.size_alloc] at rq
  have HZ : Hid (Row (((w.alloc (.cells (held10 D.G.c D.H.c z1 4 z2 4) 138)).alloc (.cells f16 153)).alloc (.cells f16 153)) (w.heap.size + 1) 16 (fun _ => .bool false)) := rz
  have HQ : Hid (Row (((w.alloc (.cells (held10 D.G.c D.H.c z1 4 z2 4) 138)).alloc (.cells f16 153)).alloc (.cells f16 153)) (w.heap.size + 1 + 1) 16 (fun _ => .bool false)) := rq
  have HR : Hid (Row (((w.alloc (.cells (held10 D.G.c D.H.c z1 4 z2 4) 138)).alloc (.cells f16 153)).alloc (.cells f16 153)) w.heap.size 10 (hten D.G.c D.H.c (.slice (some ⟨z1, 0, none⟩) 4 4) (.slice (some ⟨z2, 0, none⟩) 4 4))) := (box_hh w D.G.c D.H.c z1 z2).blw (hA2.trans hA3)
  have H1 : Hid (Row (((w.alloc (.cells (held10 D.G.c D.H.c z1 4 z2 4) 138)).alloc (.cells f16 153)).alloc (.cells f16 153)) z1 (4 * 8) (lc D.G.D.p D.G.D.m)) := h1.blw ((hA1.trans hA2).trans hA3)
  have H2 : Hid (Row (((w.alloc (.cells (held10 D.G.c D.H.c z1 4 z2 4) 138)).alloc (.cells f16 153)).alloc (.cells f16 153)) z2 (4 * 8) (lc D.H.D.p D.H.D.m)) := h2.blw ((hA1.trans hA2).trans hA3)
  have HB : Hid (Blw w (((w.alloc (.cells (held10 D.G.c D.H.c z1 4 z2 4) 138)).alloc (.cells f16 153)).alloc (.cells f16 153))) := (hA1.trans hA2).trans hA3
  have HSZ : Hid (w.heap.size + 1 + 1 + 1 = (((w.alloc (.cells (held10 D.G.c D.H.c z1 4 z2 4) 138)).alloc (.cells f16 153)).alloc (.cells f16 153)).heap.size) := by show _ = _; simp
  have HG : Hid D.Good := g
  clear hA1 hA2 hA3 rz rq h1 h2 g
  go_enter Try.func119, Try.ntmps119
  go_upto_region 2 with fail
  generalize (((w.alloc (.cells (held10 D.G.c D.H.c z1 4 z2 4) 138)).alloc (.cells f16 153)).alloc (.cells f16 153)) = w0 at *
  obtain ⟨p0, p1, p2, p3, p4, p5, p6, p7, p8, p9⟩ := get10 HR.out
  go_wp2_with fail
  clear p0 p1 p2 p3 p4 p5 p6 p7 p8 p9
  refine (flat_any D z1 z2 _ HG.out H1.out H2.out).mono ?_
  rintro e w3 ⟨⟨B, zl, hF, rfl, hrl, hzl⟩, hb3⟩
  have HF : Hid (Fl D.G D.H 16 B) := hF
  have OK : Hid (FlOK D.G D.H 16 B) := hF.ok HG.out (by omega)
  have HRL : Hid (Row w3 zl (4 * 8) (lc B.D.p B.D.m)) := hrl
  replace HZ : Hid (Row w3 (w.heap.size + 1) 16 (fun _ => .bool false)) := HZ.out.blw hb3
  replace HQ : Hid (Row w3 (w.heap.size + 1 + 1) 16 (fun _ => .bool false)) := HQ.out.blw hb3
  replace HB : Hid (Blw w w3) := HB.out.trans hb3
  have HNE : Hid (zl ≠ w.heap.size + 1 + 1) := by have := HSZ.out; show _ ≠ _; omega
  clear hF hrl hzl hb3 HR H1 H2 HSZ
  go_wp2_with fail
  refine (walkReach_any B zl (w.heap.size + 1 + 1) _ OK.out.good OK.out.n HNE.out HRL.out HQ.out).mono ?_
  rintro e w4 ⟨⟨u, rfl⟩, hq, hM⟩
  have HQ4 : Hid (Row w4 (w.heap.size + 1 + 1) 16 (fun i => .bool (RR B 16 i))) := hq
  replace HZ : Hid (Row w4 (w.heap.size + 1) 16 (fun _ => .bool false)) := HZ.out.mod hM (by omega)
  replace HB : Hid (Blw w w4) := Mod.blw HB.out hM (fun i hi => by omega)
  clear hq hM HQ HRL OK
  obtain ⟨RB, hRB⟩ : ∃ RB, RB = RR B 16 := ⟨_, rfl⟩
  rw [← hRB] at HQ4
  have HRB : Hid (RB = RR B 16) := hRB
  clear hRB
  obtain ⟨s0, s1, s2, s3, s4, s5, s6, s7, s8, s9, s10, s11, s12, s13, s14, s15⟩ := get16 HQ4.out
  obtain ⟨t0, t1, t2, t3, t4, t5, t6, t7, t8, t9, t10, t11, t12, t13, t14, t15⟩ := get16 (R := fun _ => false) HZ.out
  have f0 := HZ.out.frozen 0; have f1 := HZ.out.frozen 1; have f2 := HZ.out.frozen 2; have f3 := HZ.out.frozen 3; have f4 := HZ.out.frozen 4; have f5 := HZ.out.frozen 5; have f6 := HZ.out.frozen 6; have f7 := HZ.out.frozen 7; have f8 := HZ.out.frozen 8; have f9 := HZ.out.frozen 9; have f10 := HZ.out.frozen 10; have f11 := HZ.out.frozen 11; have f12 := HZ.out.frozen 12; have f13 := HZ.out.frozen 13; have f14 := HZ.out.frozen 14; have f15 := HZ.out.frozen 15
  clear HZ HQ4
  go_wp2
  refine bodyPost_ret (v := .agg (b16 RB)) (by simp [results, Try.results119, go_sem, t0, t1, t2, t3, t4, t5, t6, t7, t8, t9, t10, t11, t12, t13, t14, t15]) rfl ?_
  exact ⟨B, HF.out, by rw [HRB.out], set16_blw HB.out (by omega) RB⟩
end Go.Proofs.Ytjplodenflkghaa
/- Reached pages: the program's lists, and what is isolated. -/
namespace Go.Proofs.Ytjplodenflkghaa
open Go.RowKit
set_option linter.unusedSimpArgs false
set_option linter.unusedVariables false
set_option maxHeartbeats 400000 in
theorem same_any (r : Bool) (w : World) : Calls Try.prog 121 #[.bool r] w fun e w' => e = .returned (.bool r) ∧ w' = w := by
  go_enter Try.func121, Try.ntmps121
  go_wp2
  go_ret
  first | exact ⟨rfl, rfl⟩ | trivial
set_option maxRecDepth 10000 in
set_option maxHeartbeats 1600000 in
theorem placesB_any (z : Nat) (R : Nat → Bool) (w : World) (h : Row w z 16 (fun i => .bool (R i))) :
    Calls Try.prog 120 #[.slice (some ⟨z, 0, none⟩) 16 16, .func (.func 121) #[] #[]] w fun e w' => ∃ ao cap, e = .returned (.slice ao (pk R 16).length cap) ∧ IntsOwn (fun x => w.heap.size ≤ x ∧ x < w'.heap.size) w' ao (pk R 16).length (lf (pk R 16)) ∧ Blw w w' := by
  have H : Hid (Row w z 16 (fun i => .bool (R i))) := h
  clear h
  go_enter Try.func120, Try.ntmps120
  go_wp2_with fail
  go_loopw [5, 10] (fun v i wr => ∃ j : Nat, j ≤ 16 ∧ i = .int .i64 j ∧ Gath w wr v (pk R j)) (fun _ i _ => 16 - (intOf i).toNat)
  case atStart => exact ⟨0, by omega, rfl, ⟨BufL.nil _ _, Blw.refl _⟩⟩
  case round =>
    obtain ⟨j, hj, rfl, hG⟩ := hrel
    have HG : Hid (Gath w wr u5 (pk R j)) := hG
    clear hG
    by_cases hlt : j < 16
    · have hlt' : (j : Int) < 16 := by omega
      have g0 := HG.out.blw.cell (H.out.cell (i := j) hlt)
      have HRJ : Hid (∀ b, R j = b → R j = b) := fun b e => e
      go_wp2_with fail
      clear g0
      refine (same_any (R j) _).mono ?_
      rintro e wr ⟨rfl, rfl⟩
      have hle := pk_len R j
      by_cases hr : R j = true
      · obtain ⟨ao, cap, w2, hrun, hG2⟩ := HG.out.push (by omega) j
        have HRN : Hid _ := hrun
        have HN : Hid (Gath w w2 (.slice ao ((pk R j).length + 1) cap) (pk R (j + 1))) := by rw [pk_yes hr]; exact hG2
        rw [hr]
        clear hrun hG2 HG hle HRJ hr
        go_wp2_with (first | (at_builtin; refine wpList_app (.tmp 18) (.tmp 20) 26 (by rfl) ?_; refine ⟨_, _, HRN.out, ?_⟩) | fail)
        go_roundw
        case rel => exact ⟨j + 1, by omega, by go_num, HN.out⟩
        case measure => simp [intOf]; omega
      · have hr2 : R j = false := by cases h9 : R j; rfl; exact absurd h9 hr
        have HN : Hid (Gath w wr u5 (pk R (j + 1))) := by rw [pk_no hr2]; exact HG.out
        rw [hr2]
        clear HG hle HRJ hr hr2
        go_wp2
        go_roundw
        case rel => exact ⟨j + 1, by omega, by go_num, HN.out⟩
        case measure => simp [intOf]; omega
    · obtain rfl : j = 16 := by omega
      have hle := pk_len R 16
      obtain ⟨ao, cap, rfl, own⟩ := HG.out.own (by omega)
      have FIN : Hid (∃ ao' cap', (Ending.returned (.slice ao (pk R 16).length cap)) = .returned (.slice ao' (pk R 16).length cap') ∧ IntsOwn (fun x => w.heap.size ≤ x ∧ x < wr.heap.size) wr ao' (pk R 16).length (lf (pk R 16)) ∧ Blw w wr) := ⟨ao, cap, rfl, own, HG.out.blw⟩
      clear HG own hle
      go_wp2
      exact bodyPost_ret (v := .slice ao (pk R 16).length cap) (by simp [results, Try.results120, go_sem]) rfl FIN.out
set_option maxRecDepth 10000 in
set_option maxHeartbeats 3200000 in
theorem implReached_any (v : NV) (D : ND) (Y : Nat → Prop) (w : World) (h : NAt Y w v D) (hY : ∀ x, Y x → x < w.heap.size) :
    Calls Try.prog 47 #[v.val D] w (GivesI (rbOut D.G D.H) w) := by
  have hb0 : Blw w (w.alloc (.cells #[.slice v.g.a1 D.G.n v.g.c1, .slice v.g.a2 D.G.D.n v.g.c2, .slice v.h.a1 D.H.n v.h.c1, .slice v.h.a2 D.H.D.n v.h.c2] 60)) := (Blw.refl _).alloc _
  have HA : Hid (NAt Y (w.alloc (.cells #[.slice v.g.a1 D.G.n v.g.c1, .slice v.g.a2 D.G.D.n v.g.c2, .slice v.h.a1 D.H.n v.h.c1, .slice v.h.a2 D.H.D.n v.h.c2] 60)) v D) := h.blw hb0
  have HR : Hid (Row (w.alloc (.cells #[.slice v.g.a1 D.G.n v.g.c1, .slice v.g.a2 D.G.D.n v.g.c2, .slice v.h.a1 D.H.n v.h.c1, .slice v.h.a2 D.H.D.n v.h.c2] 60)) w.heap.size 4 (nb v D)) := box4 w _ _ _ _ 60
  have HB : Hid (Blw w (w.alloc (.cells #[.slice v.g.a1 D.G.n v.g.c1, .slice v.g.a2 D.G.D.n v.g.c2, .slice v.h.a1 D.H.n v.h.c1, .slice v.h.a2 D.H.D.n v.h.c2] 60))) := hb0
  have HYY : Hid (∀ x, Y x → x < (w.alloc (.cells #[.slice v.g.a1 D.G.n v.g.c1, .slice v.g.a2 D.G.D.n v.g.c2, .slice v.h.a1 D.H.n v.h.c1, .slice v.h.a2 D.H.D.n v.h.c2] 60)).heap.size) := fun x hx => by have := hY x hx; simp; omega
  clear h hb0 hY
  go_enter Try.func47, Try.ntmps47
  obtain ⟨p0, p1, p2, p3⟩ := get4 HR.out
  go_wp2_with fail
  clear p0 p1 p2 p3 HR
  generalize (w.alloc (.cells #[.slice v.g.a1 D.G.n v.g.c1, .slice v.g.a2 D.G.D.n v.g.c2, .slice v.h.a1 D.H.n v.h.c1, .slice v.h.a2 D.H.D.n v.h.c2] 60)) = w0 at *
  refine (holdNest_any v D Y _ HA.out HYY.out).mono ?_
  rintro e w1 ⟨h1, hb1⟩
  rcases h1 with ⟨z1, z2, hg, rfl, hrow, hrow2, hlo, hlo2⟩ | ⟨hg, rfl⟩
  case inr =>
    have FIN : Hid (Blw w (w1.alloc (.cells zero10 138))) := (HB.out.trans hb1).alloc _
    have HG : Hid (¬ D.Good) := hg
    clear hb1 hg HA HYY HB
    go_wp2
    exact bodyPost_ret (v := .tuple #[.slice none 0 0, .bool false]) (by simp [results, Try.results47, go_sem]) rfl (zero_givesI (Or.inr ⟨HG.out, rfl, rfl⟩) FIN.out)
  have hA : Blw w1 (w1.alloc (.cells (held10 D.G.c D.H.c z1 4 z2 4) 138)) := (Blw.refl _).alloc _
  have HB2 : Hid (Blw w (w1.alloc (.cells (held10 D.G.c D.H.c z1 4 z2 4) 138))) := (HB.out.trans hb1).trans hA
  have HG : Hid D.Good := hg
  have HTN : Hid (Row (w1.alloc (.cells (held10 D.G.c D.H.c z1 4 z2 4) 138)) w1.heap.size 10 (hten D.G.c D.H.c (.slice (some ⟨z1, 0, none⟩) 4 4) (.slice (some ⟨z2, 0, none⟩) 4 4))) := box_h10 w1 D z1 z2
  have HGL : Hid (Row (w1.alloc (.cells (held10 D.G.c D.H.c z1 4 z2 4) 138)) z1 (4 * 8) (lc D.G.D.p D.G.D.m)) := hrow.blw hA
  have HHL : Hid (Row (w1.alloc (.cells (held10 D.G.c D.H.c z1 4 z2 4) 138)) z2 (4 * 8) (lc D.H.D.p D.H.D.m)) := hrow2.blw hA
  clear hb1 hg HA HYY HB hrow hrow2 hlo hlo2 hA
  go_upto_region 2 with fail
  generalize (w1.alloc (.cells (held10 D.G.c D.H.c z1 4 z2 4) 138)) = w2 at *
  generalize w1.heap.size = zn at *
  obtain ⟨p0, p1, p2, p3, p4, p5, p6, p7, p8, p9⟩ := get10 HTN.out
  go_wp2_with fail
  clear p0 p1 p2 p3 p4 p5 p6 p7 p8 p9
  refine (reached_any D z1 z2 _ HG.out HGL.out HHL.out).mono ?_
  rintro e w3 ⟨B, hF, rfl, hb3⟩
  have HF : Hid (Fl D.G D.H 16 B) := hF
  obtain ⟨RB, hRB⟩ : ∃ RB, RB = RR B 16 := ⟨_, rfl⟩
  rw [← hRB]
  have HRB : Hid (RB = RR B 16) := hRB
  have hA : Blw w3 (w3.alloc (.cells (b16 RB) 153)) := (Blw.refl _).alloc _
  have HQ : Hid (Row (w3.alloc (.cells (b16 RB) 153)) w3.heap.size 16 (fun i => .bool (RB i))) := row16 w3 RB 153
  have HB3 : Hid (Blw w (w3.alloc (.cells (b16 RB) 153))) := (HB2.out.trans hb3).trans hA
  clear hF hRB hb3 hA HTN HGL HHL HB2
  go_upto_region 5 with fail
  generalize (w3.alloc (.cells (b16 RB) 153)) = w4 at *
  generalize w3.heap.size = zq at *
  go_wp2_with fail
  refine (placesB_any zq RB _ HQ.out).mono ?_
  rintro e w5 ⟨ao, cap, rfl, own, hb5⟩
  have hle := pk_len RB 16
  have FIN : Hid (GivesI (rbOut D.G D.H) w (.returned (.tuple #[.slice ao (pk RB 16).length cap, .bool true])) w5) := ⟨ao, _, cap, lf (pk RB 16), true, rfl, Or.inl ⟨HG.out, by rw [HRB.out]; exact pk_set HG.out HF.out, rfl⟩, by omega, own.mono (fun x hx => ⟨Nat.le_trans HB3.out.size hx.1, hx.2⟩), HB3.out.trans hb5⟩
  clear own hb5 hle HQ HB3 HF HRB
  generalize (pk RB 16).length = nn at *
  go_wp2
  exact bodyPost_ret (v := .tuple #[.slice ao nn cap, .bool true]) (by simp [results, Try.results47, go_sem]) rfl FIN.out
end Go.Proofs.Ytjplodenflkghaa
/- Reached pages: the model's. -/
namespace Go.Proofs.Ytjplodenflkghaa
open Go.RowKit
set_option linter.unusedSimpArgs false
set_option linter.unusedVariables false
/-- A rising list that grows: of what M says. -/
def RG (w wr : World) (v : Value) (M : Int → Prop) (k : Nat) : Prop :=
  ∃ n f, n ≤ k ∧ rising n f ∧ (∀ y, isIn n f y ↔ M y) ∧ BufI (fun x => w.heap.size ≤ x ∧ x < wr.heap.size) wr v n f ∧ Blw w wr
theorem RG.blw {w wr : World} {v : Value} {M : Int → Prop} {k : Nat} (h : RG w wr v M k) : Blw w wr := by
  obtain ⟨n, f, _, _, _, _, hb⟩ := h
  exact hb
theorem RG.go {w wr w' : World} {v : Value} {M : Int → Prop} {k : Nat} (h : RG w wr v M k) (hb : Blw wr w') : RG w w' v M k := by
  obtain ⟨n, f, h1, h2, h3, h4, h5⟩ := h
  have := hb.size
  exact ⟨n, f, h1, h2, h3, (Buf.blw h4 hb).mono (fun x hx => by omega), h5.trans hb⟩
theorem RG.iff {w wr : World} {v : Value} {M M' : Int → Prop} {k k' : Nat} (h : RG w wr v M k) (hk : k ≤ k') (e : ∀ y, M y ↔ M' y) : RG w wr v M' k' := by
  obtain ⟨n, f, h1, h2, h3, h4, h5⟩ := h
  exact ⟨n, f, by omega, h2, fun y => (h3 y).trans (e y), h4, h5⟩
theorem RG.put_any {w wr : World} {v : Value} {M : Int → Prop} {k : Nat} (h : RG w wr v M k) (hk : k ≤ 999) (x : Int) :
    Calls Try.prog 175 #[v, .int .i64 x] wr fun e w' => ∃ v', e = .returned v' ∧ RG w w' v' (fun y => M y ∨ y = x) (k + 1) := by
  obtain ⟨n, f, h1, h2, h3, h4, h5⟩ := h
  refine (l1Put_any _ v n f x wr (by omega) (fun b hb => hb.2) h2 h4).mono ?_
  rintro e w' ⟨v', rfl, n', f', hp, hB, hb⟩
  have hs := hb.size
  have hs2 := h5.size
  exact ⟨v', rfl, n', f', by have := hp.le; omega, hp.r, fun y => (hp.m y).trans (or_congr (h3 y) Iff.rfl), hB.mono (fun x hx => ⟨by rcases hx.1 with q | q <;> omega, hx.2⟩), h5.trans hb⟩
set_option maxRecDepth 10000 in
set_option maxHeartbeats 3200000 in
theorem l8Reached_any (v : NV) (D : ND) (Y : Nat → Prop) (w : World) (g : D.Good) (h : NAt Y w v D) :
    Calls Try.prog 122 #[v.val D] w fun e w' => ∃ u n f, e = .returned u ∧ n ≤ 32 ∧ rbL D.G D.H n f ∧ BufI (fun x => w.heap.size ≤ x ∧ x < w'.heap.size) w' u n f ∧ Blw w w' := by
  have hb0 : Blw w (w.alloc (.cells #[.slice v.g.a1 D.G.n v.g.c1, .slice v.g.a2 D.G.D.n v.g.c2, .slice v.h.a1 D.H.n v.h.c1, .slice v.h.a2 D.H.D.n v.h.c2] 60)) := (Blw.refl _).alloc _
  have HN : Hid (NAt Y (w.alloc (.cells #[.slice v.g.a1 D.G.n v.g.c1, .slice v.g.a2 D.G.D.n v.g.c2, .slice v.h.a1 D.H.n v.h.c1, .slice v.h.a2 D.H.D.n v.h.c2] 60)) v D) := h.blw hb0
  have HR : Hid (Row (w.alloc (.cells #[.slice v.g.a1 D.G.n v.g.c1, .slice v.g.a2 D.G.D.n v.g.c2, .slice v.h.a1 D.H.n v.h.c1, .slice v.h.a2 D.H.D.n v.h.c2] 60)) w.heap.size 4 (nb v D)) := box4 w _ _ _ _ 60
  have HB : Hid (Blw w (w.alloc (.cells #[.slice v.g.a1 D.G.n v.g.c1, .slice v.g.a2 D.G.D.n v.g.c2, .slice v.h.a1 D.H.n v.h.c1, .slice v.h.a2 D.H.D.n v.h.c2] 60))) := hb0
  have HG : Hid D.Good := g
  clear h hb0 g
  go_enter Try.func122, Try.ntmps122
  go_upto_region 1 with fail
  generalize (w.alloc (.cells #[.slice v.g.a1 D.G.n v.g.c1, .slice v.g.a2 D.G.D.n v.g.c2, .slice v.h.a1 D.H.n v.h.c1, .slice v.h.a2 D.H.D.n v.h.c2] 60)) = w0 at *
  go_wp2_with fail
  go_loopw [3, 4] (fun v3 i wr => ∃ j : Nat, j ≤ 16 ∧ i = .int .i64 j ∧ RG w0 wr v3 (fun y => rbS D.G D.H j 1 y) (2 * j)) (fun _ i _ => 16 - (intOf i).toNat)
  case atStart => exact ⟨0, by omega, rfl, 0, fun _ => 0, by omega, fun i j _ hj => absurd hj (Nat.not_lt_zero _), fun y => ⟨fun ⟨i, hi, _⟩ => absurd hi (Nat.not_lt_zero _), fun q => absurd q (rbS_zero _ _ _)⟩, Buf.nil _ _ _ _ _, Blw.refl _⟩
  case round =>
    obtain ⟨j, hj, rfl, hG⟩ := hrel
    have HR1 : Hid (RG w0 wr u3 (fun y => rbS D.G D.H j 1 y) (2 * j)) := hG
    clear hG
    go_wp2_with fail
    refine (l6At_any (j : Int) _).mono ?_
    rintro e wr ⟨r, rfl, hr, rfl⟩
    have HRR : Hid (r = true ↔ pgOK (j : Int)) := hr
    clear hr
    by_cases hlt : j < 16
    case neg =>
      obtain rfl : j = 16 := by omega
      obtain rfl : r = false := by
        cases r
        · rfl
        · have := HRR.out.1 rfl; unfold pgOK at this; omega
      have FIN : Hid (∃ u n f, (Ending.returned u3) = .returned u ∧ n ≤ 32 ∧ rbL D.G D.H n f ∧ BufI (fun x => w.heap.size ≤ x ∧ x < wr.heap.size) wr u n f ∧ Blw w wr) := by
        obtain ⟨n, f, h1, h2, h3, h4, h5⟩ := HR1.out
        have := HB.out.size
        exact ⟨u3, n, f, rfl, by omega, ⟨h2, fun y => (h3 y).trans (rbS_end y)⟩, h4.mono (fun x hx => ⟨by omega, hx.2⟩), HB.out.trans h5⟩
      clear HR1 HRR HB HN HR
      go_wp2
      exact bodyPost_ret (v := u3) (by simp [results, Try.results122, go_sem]) rfl FIN.out
    obtain rfl : r = true := HRR.out.2 ⟨by omega, by omega⟩
    clear HRR
    go_wp2_with fail
    go_loopw [3, 5] (fun v3 i wq => ∃ t : Nat, (1 ≤ t ∧ t ≤ 3) ∧ i = .int .i64 t ∧ RG w0 wq v3 (fun y => rbS D.G D.H j t y) (2 * j + (t - 1))) (fun _ i _ => 3 - (intOf i).toNat)
    case atStart => exact ⟨1, by omega, rfl, HR1.out⟩
    case round =>
      clear HR1
      obtain ⟨t, ht, rfl, hG⟩ := hrel
      have HR2 : Hid (RG w0 wr u3 (fun y => rbS D.G D.H j t y) (2 * j + (t - 1))) := hG
      clear hG
      by_cases h2 : t ≤ 2
      case neg =>
        obtain rfl : t = 3 := by omega
        have HN2 : Hid (RG w0 wr u3 (fun y => rbS D.G D.H (j + 1) 1 y) (2 * (j + 1))) := HR2.out.iff (by omega) (rbS_next HG.out hlt)
        clear HR2 h2
        go_wp2
        go_roundw
        case rel => exact ⟨j + 1, by omega, by go_num, HN2.out⟩
        case measure => simp [intOf]; omega
      have ht2 : (t : Int) ≤ 2 := by omega
      obtain ⟨p0, p1, p2, p3⟩ := get4 (HR.out.blw HR2.out.blw)
      go_wp2_with fail
      clear p0 p1 p2 p3
      refine (l8Walk_any v D j (t : Int) Y _ HG.out hlt (HN.out.blw HR2.out.blw)).mono ?_
      rintro e w2 ⟨x, c, rfl, ho, hb2⟩
      have HO : Hid (nwOut D.G D.H j (t : Int) x c) := ho
      replace HR2 : Hid (RG w0 w2 u3 (fun y => rbS D.G D.H j t y) (2 * j + (t - 1))) := HR2.out.go hb2
      clear hb2 ho
      by_cases hc : c = 0
      · have e1 : (c == 0) = true := by simp [hc]
        have HC : Hid (c = 0) := hc
        clear hc
        go_wp2_with fail
        refine (HR2.out.put_any (by omega) x).mono ?_
        rintro e w3 ⟨v3, rfl, hG3⟩
        have HN3 : Hid (RG w0 w3 v3 (fun y => rbS D.G D.H j (t + 1) y) (2 * j + (t + 1 - 1))) := hG3.iff (by omega) (fun y => (rbS_yes ht.1 HO.out HC.out y).symm)
        clear hG3 HR2 HO HC e1
        go_wp2
        go_roundw
        case rel => exact ⟨t + 1, by omega, by go_num, HN3.out⟩
        case measure => simp [intOf]; omega
      · have e1 : (c == 0) = false := by simp [hc]
        have HN3 : Hid (RG w0 w2 u3 (fun y => rbS D.G D.H j (t + 1) y) (2 * j + (t + 1 - 1))) := HR2.out.iff (by omega) (fun y => (rbS_no HO.out hc y).symm)
        clear HR2 HO hc
        go_wp2
        go_roundw
        case rel => exact ⟨t + 1, by omega, by go_num, HN3.out⟩
        case measure => simp [intOf]; omega
set_option maxRecDepth 10000 in
set_option maxHeartbeats 1600000 in
theorem specReached_any (v : NV) (D : ND) (Y : Nat → Prop) (w : World) (hg : D.G.n ≤ 1048576) (hh : D.H.n ≤ 1048576) (h : NAt Y w v D) :
    Calls Try.prog 48 #[v.val D] w (GivesI (rbOut D.G D.H) w) := by
  have hb0 : Blw w (w.alloc (.cells #[.slice v.g.a1 D.G.n v.g.c1, .slice v.g.a2 D.G.D.n v.g.c2, .slice v.h.a1 D.H.n v.h.c1, .slice v.h.a2 D.H.D.n v.h.c2] 60)) := (Blw.refl _).alloc _
  have HN : Hid (NAt Y (w.alloc (.cells #[.slice v.g.a1 D.G.n v.g.c1, .slice v.g.a2 D.G.D.n v.g.c2, .slice v.h.a1 D.H.n v.h.c1, .slice v.h.a2 D.H.D.n v.h.c2] 60)) v D) := h.blw hb0
  have HR : Hid (Row (w.alloc (.cells #[.slice v.g.a1 D.G.n v.g.c1, .slice v.g.a2 D.G.D.n v.g.c2, .slice v.h.a1 D.H.n v.h.c1, .slice v.h.a2 D.H.D.n v.h.c2] 60)) w.heap.size 4 (nb v D)) := box4 w _ _ _ _ 60
  have HB : Hid (Blw w (w.alloc (.cells #[.slice v.g.a1 D.G.n v.g.c1, .slice v.g.a2 D.G.D.n v.g.c2, .slice v.h.a1 D.H.n v.h.c1, .slice v.h.a2 D.H.D.n v.h.c2] 60))) := hb0
  clear h hb0
  go_enter Try.func48, Try.ntmps48
  obtain ⟨p0, p1, p2, p3⟩ := get4 HR.out
  go_wp2_with fail
  clear p0 p1 p2 p3
  refine (specGoodN_any v D Y _ hg hh HN.out).mono ?_
  rintro e w1 ⟨r, rfl, hr, hb1⟩
  have HT : Hid (r = true ↔ D.Good) := hr
  replace HN : Hid (NAt Y w1 v D) := HN.out.blw hb1
  replace HR : Hid (Row w1 w.heap.size 4 (nb v D)) := HR.out.blw hb1
  replace HB : Hid (Blw w w1) := HB.out.trans hb1
  clear hb1 hr
  cases r
  · have HNG : Hid (¬ D.Good) := fun g => by have := HT.out.2 g; simp at this
    clear HT HN HR
    go_wp2
    exact bodyPost_ret (v := .tuple #[.slice none 0 0, .bool false]) (by simp [results, Try.results48, go_sem]) rfl (zero_givesI (Or.inr ⟨HNG.out, rfl, rfl⟩) HB.out)
  have HG : Hid D.Good := HT.out.1 (by first | rfl | trivial)
  clear HT
  obtain ⟨p0, p1, p2, p3⟩ := get4 HR.out
  go_wp2_with fail
  clear p0 p1 p2 p3
  refine (l8Reached_any v D Y _ HG.out HN.out).mono ?_
  rintro e w2 ⟨u, n, f, rfl, hn, hl, hB, hb2⟩
  obtain ⟨ao, cap, rfl, own⟩ := BufI.own hB (by omega)
  have FIN : Hid (GivesI (rbOut D.G D.H) w (.returned (.tuple #[.slice ao n cap, .bool true])) w2) := ⟨ao, n, cap, f, true, rfl, Or.inl ⟨HG.out, hl, rfl⟩, by omega, own.mono (fun x hx => ⟨Nat.le_trans HB.out.size hx.1, hx.2⟩), HB.out.trans hb2⟩
  clear hB own hb2 HB HN HR hl hn
  go_wp2
  exact bodyPost_ret (v := .tuple #[.slice ao n cap, .bool true]) (by simp [results, Try.results48, go_sem]) rfl FIN.out
end Go.Proofs.Ytjplodenflkghaa
/- What is isolated: the program's and the model's. -/
namespace Go.Proofs.Ytjplodenflkghaa
open Go.RowKit
set_option linter.unusedSimpArgs false
set_option linter.unusedVariables false
theorem index16 (R : Nat → Bool) (k : Nat) (hk : k < 16) (w : World) : (Instr.index 153 (.agg (b16 R)) (.int .i64 (k : Int))).run Try.prog w = .ok (.bool (R k)) w := by
  match k, hk with
  | 0, _ => exact (show (Instr.index 153 (.agg (b16 R)) (.int .i64 0)).run Try.prog w = .ok (.bool (R 0)) w by kernel_rfl)
  | 1, _ => exact (show (Instr.index 153 (.agg (b16 R)) (.int .i64 1)).run Try.prog w = .ok (.bool (R 1)) w by kernel_rfl)
  | 2, _ => exact (show (Instr.index 153 (.agg (b16 R)) (.int .i64 2)).run Try.prog w = .ok (.bool (R 2)) w by kernel_rfl)
  | 3, _ => exact (show (Instr.index 153 (.agg (b16 R)) (.int .i64 3)).run Try.prog w = .ok (.bool (R 3)) w by kernel_rfl)
  | 4, _ => exact (show (Instr.index 153 (.agg (b16 R)) (.int .i64 4)).run Try.prog w = .ok (.bool (R 4)) w by kernel_rfl)
  | 5, _ => exact (show (Instr.index 153 (.agg (b16 R)) (.int .i64 5)).run Try.prog w = .ok (.bool (R 5)) w by kernel_rfl)
  | 6, _ => exact (show (Instr.index 153 (.agg (b16 R)) (.int .i64 6)).run Try.prog w = .ok (.bool (R 6)) w by kernel_rfl)
  | 7, _ => exact (show (Instr.index 153 (.agg (b16 R)) (.int .i64 7)).run Try.prog w = .ok (.bool (R 7)) w by kernel_rfl)
  | 8, _ => exact (show (Instr.index 153 (.agg (b16 R)) (.int .i64 8)).run Try.prog w = .ok (.bool (R 8)) w by kernel_rfl)
  | 9, _ => exact (show (Instr.index 153 (.agg (b16 R)) (.int .i64 9)).run Try.prog w = .ok (.bool (R 9)) w by kernel_rfl)
  | 10, _ => exact (show (Instr.index 153 (.agg (b16 R)) (.int .i64 10)).run Try.prog w = .ok (.bool (R 10)) w by kernel_rfl)
  | 11, _ => exact (show (Instr.index 153 (.agg (b16 R)) (.int .i64 11)).run Try.prog w = .ok (.bool (R 11)) w by kernel_rfl)
  | 12, _ => exact (show (Instr.index 153 (.agg (b16 R)) (.int .i64 12)).run Try.prog w = .ok (.bool (R 12)) w by kernel_rfl)
  | 13, _ => exact (show (Instr.index 153 (.agg (b16 R)) (.int .i64 13)).run Try.prog w = .ok (.bool (R 13)) w by kernel_rfl)
  | 14, _ => exact (show (Instr.index 153 (.agg (b16 R)) (.int .i64 14)).run Try.prog w = .ok (.bool (R 14)) w by kernel_rfl)
  | 15, _ => exact (show (Instr.index 153 (.agg (b16 R)) (.int .i64 15)).run Try.prog w = .ok (.bool (R 15)) w by kernel_rfl)
  | n + 16, h => exact absurd h (by omega)
def meetP (R Q : Nat → Bool) (j : Nat) : Prop := ∃ k, k < j ∧ R k = true ∧ Q k = true
set_option maxRecDepth 10000 in
set_option maxHeartbeats 1600000 in
theorem meets_any (R Q : Nat → Bool) (w : World) :
    Calls Try.prog 126 #[.agg (b16 R), .agg (b16 Q)] w fun e w' => ∃ r, e = .returned (.bool r) ∧ (r = true ↔ meetP R Q 16) ∧ Blw w w' := by
  have hA1 : Blw w (w.alloc (.cells (b16 R) 153)) := (Blw.refl _).alloc _
  have hA2 : Blw (w.alloc (.cells (b16 R) 153)) ((w.alloc (.cells (b16 R) 153)).alloc (.cells (b16 Q) 153)) := (Blw.refl _).alloc _
  have HR : Hid (Row ((w.alloc (.cells (b16 R) 153)).alloc (.cells (b16 Q) 153)) w.heap.size 16 (fun i => .bool (R i))) := (row16 w R 153).blw hA2
  have rq := row16 (w.alloc (.cells (b16 R) 153)) Q 153
  rw [World.size_alloc] at rq
  have HQ : Hid (Row ((w.alloc (.cells (b16 R) 153)).alloc (.cells (b16 Q) 153)) (w.heap.size + 1) 16 (fun i => .bool (Q i))) := rq
  have HB : Hid (Blw w ((w.alloc (.cells (b16 R) 153)).alloc (.cells (b16 Q) 153))) := hA1.trans hA2
  clear hA1 hA2 rq
  go_enter Try.func126, Try.ntmps126
  obtain ⟨t0, t1, t2, t3, t4, t5, t6, t7, t8, t9, t10, t11, t12, t13, t14, t15⟩ := get16 HR.out
  go_upto_region 2 with fail
  clear t0 t1 t2 t3 t4 t5 t6 t7 t8 t9 t10 t11 t12 t13 t14 t15
  generalize ((w.alloc (.cells (b16 R) 153)).alloc (.cells (b16 Q) 153)) = w0 at *
  go_loopw [8] (fun i wr => ∃ j : Nat, j ≤ 16 ∧ i = .int .i64 j ∧ ¬ meetP R Q j ∧ wr = w0) (fun i _ => 16 - (intOf i).toNat)
  case atStart => exact ⟨0, by omega, rfl, fun ⟨k, h, _⟩ => absurd h (Nat.not_lt_zero _), rfl⟩
  case round =>
    obtain ⟨j, hj, rfl, hn, hw⟩ := hrel
    subst hw
    have HNM : Hid (¬ meetP R Q j) := hn
    clear hn
    by_cases hlt : j < 16
    · have hlt' : (j : Int) < 16 := by omega
      have hix := index16 R j hlt
      have g1 := HQ.out.cell (i := j) hlt
      by_cases hr : R j = true
      · rw [hr] at hix
        by_cases hq : Q j = true
        · have HY : Hid (meetP R Q 16) := ⟨j, hlt, hr, hq⟩
          rw [hq] at g1
          clear hr hq
          go_wp2
          exact bodyPost_ret (v := .bool true) (by simp [results, Try.results126, go_sem]) rfl ⟨_, rfl, iff_t HY.out, HB.out⟩
        · have hq2 : Q j = false := by cases h9 : Q j; rfl; exact absurd h9 hq
          have HN2 : Hid (¬ meetP R Q (j + 1)) := fun ⟨k, h1, h2, h3⟩ => by
            by_cases e : k = j
            · subst e; exact absurd h3 hq
            · exact HNM.out ⟨k, by omega, h2, h3⟩
          rw [hq2] at g1
          clear hr hq hq2 HNM
          go_wp2
          go_roundw
          case rel => exact ⟨j + 1, by omega, by go_num, HN2.out, by first | rfl | trivial⟩
          case measure => simp [intOf]; omega
      · have hr2 : R j = false := by cases h9 : R j; rfl; exact absurd h9 hr
        have HN2 : Hid (¬ meetP R Q (j + 1)) := fun ⟨k, h1, h2, h3⟩ => by
          by_cases e : k = j
          · subst e; exact absurd h2 hr
          · exact HNM.out ⟨k, by omega, h2, h3⟩
        rw [hr2] at hix
        clear hr hr2 HNM
        go_wp2
        go_roundw
        case rel => exact ⟨j + 1, by omega, by go_num, HN2.out, by first | rfl | trivial⟩
        case measure => simp [intOf]; omega
    · obtain rfl : j = 16 := by omega
      clear hlt
      go_wp2
      exact bodyPost_ret (v := .bool false) (by simp [results, Try.results126, go_sem]) rfl ⟨_, rfl, iff_f HNM.out, HB.out⟩
theorem not_iff_bool {r : Bool} {P : Prop} (h : r = true ↔ P) : ((!r) = true ↔ ¬ P) := by
  cases r
  · exact ⟨fun _ p => by simpa using h.2 p, fun _ => rfl⟩
  · exact ⟨fun q => by simp at q, fun q => absurd (h.1 rfl) q⟩
/-- A page that both reach. -/
def common (A B : ND) : Prop := ∃ y, rbSet A.G A.H y ∧ rbSet B.G B.H y
def isOut (A B : ND) (s r : Bool) : Prop := ((A.Good ∧ B.Good) ∧ (s = true ↔ ¬ common A B) ∧ r = true) ∨ (¬ (A.Good ∧ B.Good) ∧ s = false ∧ r = false)
theorem isOut_same {A B : ND} {s r s' r' : Bool} (h : isOut A B s r) (h' : isOut A B s' r') : s = s' ∧ r = r' := by
  rcases h with ⟨g, a, rfl⟩ | ⟨g, rfl, rfl⟩ <;> rcases h' with ⟨g', a', rfl⟩ | ⟨g', rfl, rfl⟩
  · exact ⟨Bool.eq_iff_iff.2 (a.trans a'.symm), rfl⟩
  · exact absurd g g'
  · exact absurd g' g
  · exact ⟨rfl, rfl⟩
theorem rb_nat {G H : BD} (N : NGood G H) {y : Int} (h : rbSet G H y) : ∃ k : Nat, k < 16 ∧ y = k := by
  obtain ⟨a, ha, _, e⟩ := h
  have := fX_ok N ha
  exact ⟨y.toNat, by omega, by omega⟩
theorem meet_common {A B : ND} {F F' : BD} (gA : A.Good) (gB : B.Good) (h : Fl A.G A.H 16 F) (h' : Fl B.G B.H 16 F') : meetP (RR F 16) (RR F' 16) 16 ↔ common A B := by
  constructor
  · rintro ⟨k, _, h1, h2⟩
    exact ⟨(k : Int), (RR_flat gA h k).1 h1, (RR_flat gB h' k).1 h2⟩
  · rintro ⟨y, h1, h2⟩
    obtain ⟨k, hk, rfl⟩ := rb_nat gA h1
    exact ⟨k, hk, (RR_flat gA h k).2 h1, (RR_flat gB h' k).2 h2⟩
set_option maxRecDepth 10000 in
set_option maxHeartbeats 3200000 in
theorem implIso_any (v u : NV) (D E : ND) (Y Z : Nat → Prop) (w : World) (h : NAt Y w v D) (hY : ∀ x, Y x → x < w.heap.size) (k : NAt Z w u E) (hZ : ∀ x, Z x → x < w.heap.size) :
    Calls Try.prog 54 #[v.val D, u.val E] w fun e w' => ∃ s r, e = .returned (.tuple #[.bool s, .bool r]) ∧ isOut D E s r ∧ Blw w w' := by
  have hA1 : Blw w (w.alloc (.cells #[.slice v.g.a1 D.G.n v.g.c1, .slice v.g.a2 D.G.D.n v.g.c2, .slice v.h.a1 D.H.n v.h.c1, .slice v.h.a2 D.H.D.n v.h.c2] 60)) := (Blw.refl _).alloc _
  have hA2 : Blw (w.alloc (.cells #[.slice v.g.a1 D.G.n v.g.c1, .slice v.g.a2 D.G.D.n v.g.c2, .slice v.h.a1 D.H.n v.h.c1, .slice v.h.a2 D.H.D.n v.h.c2] 60)) ((w.alloc (.cells #[.slice v.g.a1 D.G.n v.g.c1, .slice v.g.a2 D.G.D.n v.g.c2, .slice v.h.a1 D.H.n v.h.c1, .slice v.h.a2 D.H.D.n v.h.c2] 60)).alloc (.cells #[.slice u.g.a1 E.G.n u.g.c1, .slice u.g.a2 E.G.D.n u.g.c2, .slice u.h.a1 E.H.n u.h.c1, .slice u.h.a2 E.H.D.n u.h.c2] 60)) := (Blw.refl _).alloc _
  have HA : Hid (NAt Y ((w.alloc (.cells #[.slice v.g.a1 D.G.n v.g.c1, .slice v.g.a2 D.G.D.n v.g.c2, .slice v.h.a1 D.H.n v.h.c1, .slice v.h.a2 D.H.D.n v.h.c2] 60)).alloc (.cells #[.slice u.g.a1 E.G.n u.g.c1, .slice u.g.a2 E.G.D.n u.g.c2, .slice u.h.a1 E.H.n u.h.c1, .slice u.h.a2 E.H.D.n u.h.c2] 60)) v D) := h.blw (hA1.trans hA2)
  have HK : Hid (NAt Z ((w.alloc (.cells #[.slice v.g.a1 D.G.n v.g.c1, .slice v.g.a2 D.G.D.n v.g.c2, .slice v.h.a1 D.H.n v.h.c1, .slice v.h.a2 D.H.D.n v.h.c2] 60)).alloc (.cells #[.slice u.g.a1 E.G.n u.g.c1, .slice u.g.a2 E.G.D.n u.g.c2, .slice u.h.a1 E.H.n u.h.c1, .slice u.h.a2 E.H.D.n u.h.c2] 60)) u E) := k.blw (hA1.trans hA2)
  have HR : Hid (Row ((w.alloc (.cells #[.slice v.g.a1 D.G.n v.g.c1, .slice v.g.a2 D.G.D.n v.g.c2, .slice v.h.a1 D.H.n v.h.c1, .slice v.h.a2 D.H.D.n v.h.c2] 60)).alloc (.cells #[.slice u.g.a1 E.G.n u.g.c1, .slice u.g.a2 E.G.D.n u.g.c2, .slice u.h.a1 E.H.n u.h.c1, .slice u.h.a2 E.H.D.n u.h.c2] 60)) w.heap.size 4 (nb v D)) := (box4 w _ _ _ _ 60).blw hA2
  have r2 := box4 (w.alloc (.cells #[.slice v.g.a1 D.G.n v.g.c1, .slice v.g.a2 D.G.D.n v.g.c2, .slice v.h.a1 D.H.n v.h.c1, .slice v.h.a2 D.H.D.n v.h.c2] 60)) (.slice u.g.a1 E.G.n u.g.c1) (.slice u.g.a2 E.G.D.n u.g.c2) (.slice u.h.a1 E.H.n u.h.c1) (.slice u.h.a2 E.H.D.n u.h.c2) 60
  rw [World.size_alloc] at r2
  have HR2 : Hid (Row ((w.alloc (.cells #[.slice v.g.a1 D.G.n v.g.c1, .slice v.g.a2 D.G.D.n v.g.c2, .slice v.h.a1 D.H.n v.h.c1, .slice v.h.a2 D.H.D.n v.h.c2] 60)).alloc (.cells #[.slice u.g.a1 E.G.n u.g.c1, .slice u.g.a2 E.G.D.n u.g.c2, .slice u.h.a1 E.H.n u.h.c1, .slice u.h.a2 E.H.D.n u.h.c2] 60)) (w.heap.size + 1) 4 (nb u E)) := r2
  have HB : Hid (Blw w ((w.alloc (.cells #[.slice v.g.a1 D.G.n v.g.c1, .slice v.g.a2 D.G.D.n v.g.c2, .slice v.h.a1 D.H.n v.h.c1, .slice v.h.a2 D.H.D.n v.h.c2] 60)).alloc (.cells #[.slice u.g.a1 E.G.n u.g.c1, .slice u.g.a2 E.G.D.n u.g.c2, .slice u.h.a1 E.H.n u.h.c1, .slice u.h.a2 E.H.D.n u.h.c2] 60))) := hA1.trans hA2
  have HYY : Hid (∀ x, Y x → x < ((w.alloc (.cells #[.slice v.g.a1 D.G.n v.g.c1, .slice v.g.a2 D.G.D.n v.g.c2, .slice v.h.a1 D.H.n v.h.c1, .slice v.h.a2 D.H.D.n v.h.c2] 60)).alloc (.cells #[.slice u.g.a1 E.G.n u.g.c1, .slice u.g.a2 E.G.D.n u.g.c2, .slice u.h.a1 E.H.n u.h.c1, .slice u.h.a2 E.H.D.n u.h.c2] 60)).heap.size) := fun x hx => by have := hY x hx; simp; omega
  have HZZ : Hid (∀ x, Z x → x < ((w.alloc (.cells #[.slice v.g.a1 D.G.n v.g.c1, .slice v.g.a2 D.G.D.n v.g.c2, .slice v.h.a1 D.H.n v.h.c1, .slice v.h.a2 D.H.D.n v.h.c2] 60)).alloc (.cells #[.slice u.g.a1 E.G.n u.g.c1, .slice u.g.a2 E.G.D.n u.g.c2, .slice u.h.a1 E.H.n u.h.c1, .slice u.h.a2 E.H.D.n u.h.c2] 60)).heap.size) := fun x hx => by have := hZ x hx; simp; omega
  clear hA1 hA2 h k r2 hY hZ
  go_enter Try.func54, Try.ntmps54
  obtain ⟨p0, p1, p2, p3⟩ := get4 HR.out
  go_wp2_with fail
  clear p0 p1 p2 p3 HR
  generalize ((w.alloc (.cells #[.slice v.g.a1 D.G.n v.g.c1, .slice v.g.a2 D.G.D.n v.g.c2, .slice v.h.a1 D.H.n v.h.c1, .slice v.h.a2 D.H.D.n v.h.c2] 60)).alloc (.cells #[.slice u.g.a1 E.G.n u.g.c1, .slice u.g.a2 E.G.D.n u.g.c2, .slice u.h.a1 E.H.n u.h.c1, .slice u.h.a2 E.H.D.n u.h.c2] 60)) = w0 at *
  refine (holdNest_any v D Y _ HA.out HYY.out).mono ?_
  rintro e w1 ⟨h1, hb1⟩
  have hs1 := hb1.size
  rcases h1 with ⟨z1, z2, hg, rfl, hrow, hrow2, hlo, hlo2⟩ | ⟨hg, rfl⟩
  case inr =>
    have FIN : Hid (Blw w (w1.alloc (.cells zero10 138))) := (HB.out.trans hb1).alloc _
    have HG : Hid (¬ (D.Good ∧ E.Good)) := fun q => hg q.1
    clear hb1 hg HA HYY HB HK HZZ HR2 hs1
    go_wp2
    exact bodyPost_ret (v := .tuple #[.bool false, .bool false]) (by simp [results, Try.results54, go_sem]) rfl ⟨_, _, rfl, Or.inr ⟨HG.out, rfl, rfl⟩, FIN.out⟩
  have hA : Blw w1 (w1.alloc (.cells (held10 D.G.c D.H.c z1 4 z2 4) 138)) := (Blw.refl _).alloc _
  have HB2 : Hid (Blw w (w1.alloc (.cells (held10 D.G.c D.H.c z1 4 z2 4) 138))) := (HB.out.trans hb1).trans hA
  have HG : Hid D.Good := hg
  have HTN : Hid (Row (w1.alloc (.cells (held10 D.G.c D.H.c z1 4 z2 4) 138)) w1.heap.size 10 (hten D.G.c D.H.c (.slice (some ⟨z1, 0, none⟩) 4 4) (.slice (some ⟨z2, 0, none⟩) 4 4))) := box_h10 w1 D z1 z2
  have HGL : Hid (Row (w1.alloc (.cells (held10 D.G.c D.H.c z1 4 z2 4) 138)) z1 (4 * 8) (lc D.G.D.p D.G.D.m)) := hrow.blw hA
  have HHL : Hid (Row (w1.alloc (.cells (held10 D.G.c D.H.c z1 4 z2 4) 138)) z2 (4 * 8) (lc D.H.D.p D.H.D.m)) := hrow2.blw hA
  replace HK : Hid (NAt Z (w1.alloc (.cells (held10 D.G.c D.H.c z1 4 z2 4) 138)) u E) := (HK.out.blw hb1).blw hA
  replace HR2 : Hid (Row (w1.alloc (.cells (held10 D.G.c D.H.c z1 4 z2 4) 138)) (w.heap.size + 1) 4 (nb u E)) := (HR2.out.blw hb1).blw hA
  replace HZZ : Hid (∀ x, Z x → x < (w1.alloc (.cells (held10 D.G.c D.H.c z1 4 z2 4) 138)).heap.size) := fun x hx => by have := HZZ.out x hx; simp; omega
  clear hb1 hg HA HYY HB hrow hrow2 hlo hlo2 hA hs1
  go_upto_region 2 with fail
  generalize (w1.alloc (.cells (held10 D.G.c D.H.c z1 4 z2 4) 138)) = w2 at *
  generalize w1.heap.size = zn at *
  obtain ⟨p0, p1, p2, p3⟩ := get4 HR2.out
  go_wp2_with fail
  clear p0 p1 p2 p3 HR2
  refine (holdNest_any u E Z _ HK.out HZZ.out).mono ?_
  rintro e w3 ⟨h1, hb1⟩
  rcases h1 with ⟨y1, y2, hg, rfl, hrow, hrow2, hlo, hlo2⟩ | ⟨hg, rfl⟩
  case inr =>
    have FIN : Hid (Blw w (w3.alloc (.cells zero10 138))) := (HB2.out.trans hb1).alloc _
    have HGN : Hid (¬ (D.Good ∧ E.Good)) := fun q => hg q.2
    clear hb1 hg HB2 HK HZZ HTN HGL HHL
    go_wp2
    exact bodyPost_ret (v := .tuple #[.bool false, .bool false]) (by simp [results, Try.results54, go_sem]) rfl ⟨_, _, rfl, Or.inr ⟨HGN.out, rfl, rfl⟩, FIN.out⟩
  have hA : Blw w3 (w3.alloc (.cells (held10 E.G.c E.H.c y1 4 y2 4) 138)) := (Blw.refl _).alloc _
  have HE : Hid E.Good := hg
  have HTM : Hid (Row (w3.alloc (.cells (held10 E.G.c E.H.c y1 4 y2 4) 138)) w3.heap.size 10 (hten E.G.c E.H.c (.slice (some ⟨y1, 0, none⟩) 4 4) (.slice (some ⟨y2, 0, none⟩) 4 4))) := box_h10 w3 E y1 y2
  have HEL : Hid (Row (w3.alloc (.cells (held10 E.G.c E.H.c y1 4 y2 4) 138)) y1 (4 * 8) (lc E.G.D.p E.G.D.m)) := hrow.blw hA
  have HFL : Hid (Row (w3.alloc (.cells (held10 E.G.c E.H.c y1 4 y2 4) 138)) y2 (4 * 8) (lc E.H.D.p E.H.D.m)) := hrow2.blw hA
  replace HTN : Hid (Row (w3.alloc (.cells (held10 E.G.c E.H.c y1 4 y2 4) 138)) zn 10 (hten D.G.c D.H.c (.slice (some ⟨z1, 0, none⟩) 4 4) (.slice (some ⟨z2, 0, none⟩) 4 4))) := (HTN.out.blw hb1).blw hA
  replace HGL : Hid (Row (w3.alloc (.cells (held10 E.G.c E.H.c y1 4 y2 4) 138)) z1 (4 * 8) (lc D.G.D.p D.G.D.m)) := (HGL.out.blw hb1).blw hA
  replace HHL : Hid (Row (w3.alloc (.cells (held10 E.G.c E.H.c y1 4 y2 4) 138)) z2 (4 * 8) (lc D.H.D.p D.H.D.m)) := (HHL.out.blw hb1).blw hA
  replace HB2 : Hid (Blw w (w3.alloc (.cells (held10 E.G.c E.H.c y1 4 y2 4) 138))) := (HB2.out.trans hb1).trans hA
  clear hb1 hg HK HZZ hrow hrow2 hlo hlo2 hA
  go_upto_region 7 with fail
  generalize (w3.alloc (.cells (held10 E.G.c E.H.c y1 4 y2 4) 138)) = w4 at *
  generalize w3.heap.size = zm at *
  replace HTM : Hid (Row w4.drew zm 10 (hten E.G.c E.H.c (.slice (some ⟨y1, 0, none⟩) 4 4) (.slice (some ⟨y2, 0, none⟩) 4 4))) := HTM.out.blw (Blw.refl _).drew
  replace HEL : Hid (Row w4.drew y1 (4 * 8) (lc E.G.D.p E.G.D.m)) := HEL.out.blw (Blw.refl _).drew
  replace HFL : Hid (Row w4.drew y2 (4 * 8) (lc E.H.D.p E.H.D.m)) := HFL.out.blw (Blw.refl _).drew
  replace HTN : Hid (Row w4.drew zn 10 (hten D.G.c D.H.c (.slice (some ⟨z1, 0, none⟩) 4 4) (.slice (some ⟨z2, 0, none⟩) 4 4))) := HTN.out.blw (Blw.refl _).drew
  replace HGL : Hid (Row w4.drew z1 (4 * 8) (lc D.G.D.p D.G.D.m)) := HGL.out.blw (Blw.refl _).drew
  replace HHL : Hid (Row w4.drew z2 (4 * 8) (lc D.H.D.p D.H.D.m)) := HHL.out.blw (Blw.refl _).drew
  replace HB2 : Hid (Blw w w4.drew) := HB2.out.drew
  have P0 : ∀ w', (Row w' zn 10 (hten D.G.c D.H.c (.slice (some ⟨z1, 0, none⟩) 4 4) (.slice (some ⟨z2, 0, none⟩) 4 4)) ∧ Row w' zm 10 (hten E.G.c E.H.c (.slice (some ⟨y1, 0, none⟩) 4 4) (.slice (some ⟨y2, 0, none⟩) 4 4))) → w'.cell? ⟨zn, 0, none⟩ = some (.int .i64 (D.G.c 0)) ∧ w'.cell? ⟨zn, 1, none⟩ = some (.int .i64 (D.G.c 1)) ∧ w'.cell? ⟨zn, 2, none⟩ = some (.int .i64 (D.G.c 2)) ∧ w'.cell? ⟨zn, 3, none⟩ = some (.int .i64 (D.G.c 3)) ∧ w'.cell? ⟨zn, 4, none⟩ = some ((.slice (some ⟨z1, 0, none⟩) 4 4)) ∧ w'.cell? ⟨zn, 5, none⟩ = some (.int .i64 (D.H.c 0)) ∧ w'.cell? ⟨zn, 6, none⟩ = some (.int .i64 (D.H.c 1)) ∧ w'.cell? ⟨zn, 7, none⟩ = some (.int .i64 (D.H.c 2)) ∧ w'.cell? ⟨zn, 8, none⟩ = some (.int .i64 (D.H.c 3)) ∧ w'.cell? ⟨zn, 9, none⟩ = some ((.slice (some ⟨z2, 0, none⟩) 4 4)) := fun w' hh => get10 hh.1
  have P1 : ∀ w', (Row w' zn 10 (hten D.G.c D.H.c (.slice (some ⟨z1, 0, none⟩) 4 4) (.slice (some ⟨z2, 0, none⟩) 4 4)) ∧ Row w' zm 10 (hten E.G.c E.H.c (.slice (some ⟨y1, 0, none⟩) 4 4) (.slice (some ⟨y2, 0, none⟩) 4 4))) → w'.cell? ⟨zm, 0, none⟩ = some (.int .i64 (E.G.c 0)) ∧ w'.cell? ⟨zm, 1, none⟩ = some (.int .i64 (E.G.c 1)) ∧ w'.cell? ⟨zm, 2, none⟩ = some (.int .i64 (E.G.c 2)) ∧ w'.cell? ⟨zm, 3, none⟩ = some (.int .i64 (E.G.c 3)) ∧ w'.cell? ⟨zm, 4, none⟩ = some ((.slice (some ⟨y1, 0, none⟩) 4 4)) ∧ w'.cell? ⟨zm, 5, none⟩ = some (.int .i64 (E.H.c 0)) ∧ w'.cell? ⟨zm, 6, none⟩ = some (.int .i64 (E.H.c 1)) ∧ w'.cell? ⟨zm, 7, none⟩ = some (.int .i64 (E.H.c 2)) ∧ w'.cell? ⟨zm, 8, none⟩ = some (.int .i64 (E.H.c 3)) ∧ w'.cell? ⟨zm, 9, none⟩ = some ((.slice (some ⟨y2, 0, none⟩) 4 4)) := fun w' hh => get10 hh.2
  refine wp_region_noPanic ?_
  refine wp_region_held_drew (S := (fun w' => Row w' zn 10 (hten D.G.c D.H.c (.slice (some ⟨z1, 0, none⟩) 4 4) (.slice (some ⟨z2, 0, none⟩) 4 4)) ∧ Row w' zm 10 (hten E.G.c E.H.c (.slice (some ⟨y1, 0, none⟩) 4 4) (.slice (some ⟨y2, 0, none⟩) 4 4)))) (by kernel_rfl) (And.intro HTN.out HTM.out) (fun hB => ?_)
  clear hB
  generalize w4.drew = wd at *
  refine wpAnyH_take (i := 0) (oi := { dst := some 23, op := Op.load 138 (Operand.tmp 6), type := 138, pos := _, after := #[], guard := none }) (v := (.agg (held10 D.G.c D.H.c z1 4 z2 4))) rfl (by kernel_rfl) (by kernel_rfl) (by kernel_rfl) (fun _ _ _ h => h) (Or.inl ⟨by rfl, fun w' hS => by (try dsimp only at hS); go_simp⟩) (And.intro HTN.out HTM.out) ?_
  simp only [Act.put, List.setIfInBounds_toArray, List.set_cons_zero, List.set_cons_succ]
  refine wpAnyH_take (i := 2) (oi := { dst := some 25, op := Op.load 138 (Operand.tmp 8), type := 138, pos := _, after := #[], guard := none }) (v := (.agg (held10 E.G.c E.H.c y1 4 y2 4))) rfl (by kernel_rfl) (by kernel_rfl) (by kernel_rfl) (fun _ _ _ h => h) (Or.inl ⟨by rfl, fun w' hS => by (try dsimp only at hS); go_simp⟩) (And.intro HTN.out HTM.out) ?_
  simp only [Act.put, List.setIfInBounds_toArray, List.set_cons_zero, List.set_cons_succ]
  refine wpAnyH_ready (rs := [1]) (by kernel_rfl) (by simp) ?_
  refine AllReadyH.cons (o := { dst := some 24, op := Op.call { callee := Callee.value (Operand.func 119), args := #[Operand.tmp 23], argTypes := #[138] }, type := 153, pos := _, after := #[{ on := 0, ground := Ground.data }], guard := none }) rfl (fun K hK => ?_) AllReadyH.nil
  go_simp
  refine (reached_any D z1 z2 _ HG.out HGL.out HHL.out).mono ?_
  rintro e w5 ⟨F1, hF1, rfl, hb5⟩
  have HF1 : Hid (Fl D.G D.H 16 F1) := hF1
  have HTN5 : Hid (Row w5 zn 10 (hten D.G.c D.H.c (.slice (some ⟨z1, 0, none⟩) 4 4) (.slice (some ⟨z2, 0, none⟩) 4 4))) := HTN.out.blw hb5
  have HTM5 : Hid (Row w5 zm 10 (hten E.G.c E.H.c (.slice (some ⟨y1, 0, none⟩) 4 4) (.slice (some ⟨y2, 0, none⟩) 4 4))) := HTM.out.blw hb5
  have HEL5 : Hid (Row w5 y1 (4 * 8) (lc E.G.D.p E.G.D.m)) := HEL.out.blw hb5
  have HFL5 : Hid (Row w5 y2 (4 * 8) (lc E.H.D.p E.H.D.m)) := HFL.out.blw hb5
  have HB5 : Hid (Blw w w5) := HB2.out.trans hb5
  clear hF1 hb5
  refine hK.out _ _ (And.intro HTN5.out HTM5.out) (fun hB => ?_)
  clear hK K hB
  try simp only [Act.put, List.setIfInBounds_toArray, List.set_cons_zero, List.set_cons_succ]
  refine wpAnyH_ready (rs := [3]) (by kernel_rfl) (by simp) ?_
  refine AllReadyH.cons (o := { dst := some 26, op := Op.call { callee := Callee.value (Operand.func 119), args := #[Operand.tmp 25], argTypes := #[138] }, type := 153, pos := _, after := #[{ on := 2, ground := Ground.data }, { on := 1, ground := Ground.chain }], guard := none }) rfl (fun K hK => ?_) AllReadyH.nil
  go_simp
  refine (reached_any E y1 y2 _ HE.out HEL5.out HFL5.out).mono ?_
  rintro e w6 ⟨F2, hF2, rfl, hb6⟩
  have HF2 : Hid (Fl E.G E.H 16 F2) := hF2
  have HTN6 : Hid (Row w6 zn 10 (hten D.G.c D.H.c (.slice (some ⟨z1, 0, none⟩) 4 4) (.slice (some ⟨z2, 0, none⟩) 4 4))) := HTN5.out.blw hb6
  have HTM6 : Hid (Row w6 zm 10 (hten E.G.c E.H.c (.slice (some ⟨y1, 0, none⟩) 4 4) (.slice (some ⟨y2, 0, none⟩) 4 4))) := HTM5.out.blw hb6
  have HB6 : Hid (Blw w w6) := HB5.out.trans hb6
  clear hF2 hb6
  refine hK.out _ _ (And.intro HTN6.out HTM6.out) (fun hB => ?_)
  clear hK K hB
  try simp only [Act.put, List.setIfInBounds_toArray, List.set_cons_zero, List.set_cons_succ]
  refine wpAnyH_ready (rs := [4]) (by kernel_rfl) (by simp) ?_
  refine AllReadyH.cons (o := { dst := some 27, op := Op.call { callee := Callee.value (Operand.func 126), args := #[Operand.tmp 24, Operand.tmp 26], argTypes := #[153, 153] }, type := 4, pos := _, after := #[{ on := 1, ground := Ground.data }, { on := 3, ground := Ground.data }, { on := 3, ground := Ground.chain }], guard := none }) rfl (fun K hK => ?_) AllReadyH.nil
  go_simp
  refine (meets_any (RR F1 16) (RR F2 16) _).mono ?_
  rintro e w7 ⟨rm, rfl, hrm, hb7⟩
  have HM : Hid (rm = true ↔ common D E) := hrm.trans (meet_common HG.out HE.out HF1.out HF2.out)
  have HTN7 : Hid (Row w7 zn 10 (hten D.G.c D.H.c (.slice (some ⟨z1, 0, none⟩) 4 4) (.slice (some ⟨z2, 0, none⟩) 4 4))) := HTN6.out.blw hb7
  have HTM7 : Hid (Row w7 zm 10 (hten E.G.c E.H.c (.slice (some ⟨y1, 0, none⟩) 4 4) (.slice (some ⟨y2, 0, none⟩) 4 4))) := HTM6.out.blw hb7
  have HB7 : Hid (Blw w w7) := HB6.out.trans hb7
  clear hrm hb7
  refine hK.out _ _ (And.intro HTN7.out HTM7.out) (fun hB => ?_)
  clear hK K hB
  try simp only [Act.put, List.setIfInBounds_toArray, List.set_cons_zero, List.set_cons_succ]
  refine wpAnyH_take (i := 5) (oi := { dst := some 28, op := Op.unOp UnOp.not 4 (Operand.tmp 27), type := 4, pos := _, after := #[{ on := 4, ground := Ground.data }], guard := none }) (v := (.bool (!rm))) rfl (by kernel_rfl) (by kernel_rfl) (by kernel_rfl) (fun _ _ _ h => h) (Or.inl ⟨by rfl, fun w' hS => by (try dsimp only at hS); go_simp⟩) (And.intro HTN7.out HTM7.out) ?_
  simp only [Act.put, List.setIfInBounds_toArray, List.set_cons_zero, List.set_cons_succ]
  refine wpAnyH_take (i := 6) (oi := { dst := some 4, op := Op.assign (Operand.tmp 28), type := 4, pos := _, after := #[{ on := 5, ground := Ground.data }, { on := 4, ground := Ground.chain }, { on := 0, ground := Ground.phase }, { on := 1, ground := Ground.phase }, { on := 2, ground := Ground.phase }, { on := 3, ground := Ground.phase }, { on := 4, ground := Ground.phase }, { on := 5, ground := Ground.phase }], guard := none }) (v := (.bool (!rm))) rfl (by kernel_rfl) (by kernel_rfl) (by kernel_rfl) (fun _ _ _ h => h) (Or.inl ⟨by rfl, fun w' hS => by (try dsimp only at hS); go_simp⟩) (And.intro HTN7.out HTM7.out) ?_
  simp only [Act.put, List.setIfInBounds_toArray, List.set_cons_zero, List.set_cons_succ]
  refine wpAnyH_take (i := 7) (oi := { dst := some 5, op := Op.assign (Operand.const (Value.bool true)), type := 4, pos := _, after := #[{ on := 6, ground := Ground.chain }, { on := 0, ground := Ground.phase }, { on := 1, ground := Ground.phase }, { on := 2, ground := Ground.phase }, { on := 3, ground := Ground.phase }, { on := 4, ground := Ground.phase }, { on := 5, ground := Ground.phase }, { on := 6, ground := Ground.phase }], guard := none }) (v := (.bool true)) rfl (by kernel_rfl) (by kernel_rfl) (by kernel_rfl) (fun _ _ _ h => h) (Or.inl ⟨by rfl, fun w' hS => by (try dsimp only at hS); go_simp⟩) (And.intro HTN7.out HTM7.out) ?_
  simp only [Act.put, List.setIfInBounds_toArray, List.set_cons_zero, List.set_cons_succ]
  refine wpAnyH_done (by kernel_rfl) ?_ _
  refine NoPanic.normal ?_
  have FIN : Hid (∃ s r, (Ending.returned (.tuple #[.bool (!rm), .bool true])) = .returned (.tuple #[.bool s, .bool r]) ∧ isOut D E s r ∧ Blw w w7) := ⟨!rm, true, rfl, Or.inl ⟨⟨HG.out, HE.out⟩, not_iff_bool HM.out, rfl⟩, HB7.out⟩
  clear P0 P1 HTN HTM HEL HFL HGL HHL HB2 HTN5 HTM5 HEL5 HFL5 HB5 HTN6 HTM6 HB6 HTN7 HTM7 HB7 HF1 HF2 HM
  go_wp2
  exact bodyPost_ret (v := .tuple #[.bool (!rm), .bool true]) (by simp [results, Try.results54, go_sem]) rfl FIN.out
set_option maxRecDepth 10000 in
set_option maxHeartbeats 3200000 in
theorem specIso_any (v u : NV) (D E : ND) (Y Z : Nat → Prop) (w : World) (hg : D.G.n ≤ 1048576) (hh : D.H.n ≤ 1048576) (h : NAt Y w v D) (kg : E.G.n ≤ 1048576) (kh : E.H.n ≤ 1048576) (k : NAt Z w u E) :
    Calls Try.prog 55 #[v.val D, u.val E] w fun e w' => ∃ s r, e = .returned (.tuple #[.bool s, .bool r]) ∧ isOut D E s r ∧ Blw w w' := by
  have hA1 : Blw w (w.alloc (.cells #[.slice v.g.a1 D.G.n v.g.c1, .slice v.g.a2 D.G.D.n v.g.c2, .slice v.h.a1 D.H.n v.h.c1, .slice v.h.a2 D.H.D.n v.h.c2] 60)) := (Blw.refl _).alloc _
  have hA2 : Blw (w.alloc (.cells #[.slice v.g.a1 D.G.n v.g.c1, .slice v.g.a2 D.G.D.n v.g.c2, .slice v.h.a1 D.H.n v.h.c1, .slice v.h.a2 D.H.D.n v.h.c2] 60)) ((w.alloc (.cells #[.slice v.g.a1 D.G.n v.g.c1, .slice v.g.a2 D.G.D.n v.g.c2, .slice v.h.a1 D.H.n v.h.c1, .slice v.h.a2 D.H.D.n v.h.c2] 60)).alloc (.cells #[.slice u.g.a1 E.G.n u.g.c1, .slice u.g.a2 E.G.D.n u.g.c2, .slice u.h.a1 E.H.n u.h.c1, .slice u.h.a2 E.H.D.n u.h.c2] 60)) := (Blw.refl _).alloc _
  have HA : Hid (NAt Y ((w.alloc (.cells #[.slice v.g.a1 D.G.n v.g.c1, .slice v.g.a2 D.G.D.n v.g.c2, .slice v.h.a1 D.H.n v.h.c1, .slice v.h.a2 D.H.D.n v.h.c2] 60)).alloc (.cells #[.slice u.g.a1 E.G.n u.g.c1, .slice u.g.a2 E.G.D.n u.g.c2, .slice u.h.a1 E.H.n u.h.c1, .slice u.h.a2 E.H.D.n u.h.c2] 60)) v D) := h.blw (hA1.trans hA2)
  have HK : Hid (NAt Z ((w.alloc (.cells #[.slice v.g.a1 D.G.n v.g.c1, .slice v.g.a2 D.G.D.n v.g.c2, .slice v.h.a1 D.H.n v.h.c1, .slice v.h.a2 D.H.D.n v.h.c2] 60)).alloc (.cells #[.slice u.g.a1 E.G.n u.g.c1, .slice u.g.a2 E.G.D.n u.g.c2, .slice u.h.a1 E.H.n u.h.c1, .slice u.h.a2 E.H.D.n u.h.c2] 60)) u E) := k.blw (hA1.trans hA2)
  have HR : Hid (Row ((w.alloc (.cells #[.slice v.g.a1 D.G.n v.g.c1, .slice v.g.a2 D.G.D.n v.g.c2, .slice v.h.a1 D.H.n v.h.c1, .slice v.h.a2 D.H.D.n v.h.c2] 60)).alloc (.cells #[.slice u.g.a1 E.G.n u.g.c1, .slice u.g.a2 E.G.D.n u.g.c2, .slice u.h.a1 E.H.n u.h.c1, .slice u.h.a2 E.H.D.n u.h.c2] 60)) w.heap.size 4 (nb v D)) := (box4 w _ _ _ _ 60).blw hA2
  have r2 := box4 (w.alloc (.cells #[.slice v.g.a1 D.G.n v.g.c1, .slice v.g.a2 D.G.D.n v.g.c2, .slice v.h.a1 D.H.n v.h.c1, .slice v.h.a2 D.H.D.n v.h.c2] 60)) (.slice u.g.a1 E.G.n u.g.c1) (.slice u.g.a2 E.G.D.n u.g.c2) (.slice u.h.a1 E.H.n u.h.c1) (.slice u.h.a2 E.H.D.n u.h.c2) 60
  rw [World.size_alloc] at r2
  have HR2 : Hid (Row ((w.alloc (.cells #[.slice v.g.a1 D.G.n v.g.c1, .slice v.g.a2 D.G.D.n v.g.c2, .slice v.h.a1 D.H.n v.h.c1, .slice v.h.a2 D.H.D.n v.h.c2] 60)).alloc (.cells #[.slice u.g.a1 E.G.n u.g.c1, .slice u.g.a2 E.G.D.n u.g.c2, .slice u.h.a1 E.H.n u.h.c1, .slice u.h.a2 E.H.D.n u.h.c2] 60)) (w.heap.size + 1) 4 (nb u E)) := r2
  have HB : Hid (Blw w ((w.alloc (.cells #[.slice v.g.a1 D.G.n v.g.c1, .slice v.g.a2 D.G.D.n v.g.c2, .slice v.h.a1 D.H.n v.h.c1, .slice v.h.a2 D.H.D.n v.h.c2] 60)).alloc (.cells #[.slice u.g.a1 E.G.n u.g.c1, .slice u.g.a2 E.G.D.n u.g.c2, .slice u.h.a1 E.H.n u.h.c1, .slice u.h.a2 E.H.D.n u.h.c2] 60))) := hA1.trans hA2
  clear hA1 hA2 h k r2
  go_enter Try.func55, Try.ntmps55
  obtain ⟨p0, p1, p2, p3⟩ := get4 HR.out
  go_wp2_with fail
  clear p0 p1 p2 p3
  generalize ((w.alloc (.cells #[.slice v.g.a1 D.G.n v.g.c1, .slice v.g.a2 D.G.D.n v.g.c2, .slice v.h.a1 D.H.n v.h.c1, .slice v.h.a2 D.H.D.n v.h.c2] 60)).alloc (.cells #[.slice u.g.a1 E.G.n u.g.c1, .slice u.g.a2 E.G.D.n u.g.c2, .slice u.h.a1 E.H.n u.h.c1, .slice u.h.a2 E.H.D.n u.h.c2] 60)) = w0 at *
  refine (specGoodN_any v D Y _ hg hh HA.out).mono ?_
  rintro e w1 ⟨r, rfl, hr, hb1⟩
  have HT : Hid (r = true ↔ D.Good) := hr
  replace HA : Hid (NAt Y w1 v D) := HA.out.blw hb1
  replace HK : Hid (NAt Z w1 u E) := HK.out.blw hb1
  replace HR : Hid (Row w1 w.heap.size 4 (nb v D)) := HR.out.blw hb1
  replace HR2 : Hid (Row w1 (w.heap.size + 1) 4 (nb u E)) := HR2.out.blw hb1
  replace HB : Hid (Blw w w1) := HB.out.trans hb1
  clear hb1 hr
  cases r
  · have HN : Hid (¬ (D.Good ∧ E.Good)) := fun q => by have := HT.out.2 q.1; simp at this
    clear HT HA HK HR HR2
    go_wp2
    exact bodyPost_ret (v := .tuple #[.bool false, .bool false]) (by simp [results, Try.results55, go_sem]) rfl ⟨_, _, rfl, Or.inr ⟨HN.out, rfl, rfl⟩, HB.out⟩
  have HG : Hid D.Good := HT.out.1 (by first | rfl | trivial)
  clear HT
  obtain ⟨p0, p1, p2, p3⟩ := get4 HR2.out
  go_wp2_with fail
  clear p0 p1 p2 p3
  refine (specGoodN_any u E Z _ kg kh HK.out).mono ?_
  rintro e w2 ⟨r, rfl, hr, hb1⟩
  have HT : Hid (r = true ↔ E.Good) := hr
  replace HA : Hid (NAt Y w2 v D) := HA.out.blw hb1
  replace HK : Hid (NAt Z w2 u E) := HK.out.blw hb1
  replace HR : Hid (Row w2 w.heap.size 4 (nb v D)) := HR.out.blw hb1
  replace HR2 : Hid (Row w2 (w.heap.size + 1) 4 (nb u E)) := HR2.out.blw hb1
  replace HB : Hid (Blw w w2) := HB.out.trans hb1
  clear hb1 hr
  cases r
  · have HN : Hid (¬ (D.Good ∧ E.Good)) := fun q => by have := HT.out.2 q.2; simp at this
    clear HT HA HK HR HR2
    go_wp2
    exact bodyPost_ret (v := .tuple #[.bool false, .bool false]) (by simp [results, Try.results55, go_sem]) rfl ⟨_, _, rfl, Or.inr ⟨HN.out, rfl, rfl⟩, HB.out⟩
  have HE : Hid E.Good := HT.out.1 (by first | rfl | trivial)
  clear HT
  obtain ⟨p0, p1, p2, p3⟩ := get4 HR.out
  go_wp2_with fail
  clear p0 p1 p2 p3
  refine (l8Reached_any v D Y _ HG.out HA.out).mono ?_
  rintro e w3 ⟨q1, n1, f1, rfl, hn1, hl1, hB1, hb3⟩
  obtain ⟨a1, c1, rfl, own1⟩ := BufI.own hB1 (by omega)
  have HL1 : Hid (rbL D.G D.H n1 f1) := hl1
  have HI1 : Hid (IntsAt (fun x => w2.heap.size ≤ x ∧ x < w3.heap.size) w3 a1 n1 f1) := own1.at
  replace HK : Hid (NAt Z w3 u E) := HK.out.blw hb3
  replace HR2 : Hid (Row w3 (w.heap.size + 1) 4 (nb u E)) := HR2.out.blw hb3
  replace HB : Hid (Blw w w3) := HB.out.trans hb3
  clear hl1 hB1 own1 hb3 HA HR
  obtain ⟨p0, p1, p2, p3⟩ := get4 HR2.out
  go_wp2_with fail
  clear p0 p1 p2 p3
  refine (l8Reached_any u E Z _ HE.out HK.out).mono ?_
  rintro e w4 ⟨q2, n2, f2, rfl, hn2, hl2, hB2, hb4⟩
  obtain ⟨a2, c2, rfl, own2⟩ := BufI.own hB2 (by omega)
  have HL2 : Hid (rbL E.G E.H n2 f2) := hl2
  have HI2 : Hid (IntsAt (fun x => w3.heap.size ≤ x ∧ x < w4.heap.size) w4 a2 n2 f2) := own2.at
  replace HI1 : Hid (IntsAt (fun x => w2.heap.size ≤ x ∧ x < w3.heap.size) w4 a1 n1 f1) := HI1.out.blw hb4
  replace HB : Hid (Blw w w4) := HB.out.trans hb4
  clear hl2 hB2 own2 hb4 HK HR2
  go_wp2_with fail
  go_loopw [22] (fun i wr => ∃ j : Nat, j ≤ n2 ∧ i = .int .i64 j ∧ (∀ t, t < j → ¬ hasLine n1 f1 (f2 t)) ∧ wr = w4) (fun i _ => n2 - (intOf i).toNat)
  case atStart => exact ⟨0, by omega, rfl, fun t ht => absurd ht (Nat.not_lt_zero _), rfl⟩
  case round =>
    obtain ⟨j, hj, rfl, hn, hw⟩ := hrel
    subst hw
    have HNM : Hid (∀ t, t < j → ¬ hasLine n1 f1 (f2 t)) := hn
    clear hn
    by_cases hlt : j < n2
    · have hlt' : (j : Int) < (n2 : Int) := by omega
      obtain ⟨b', o', e', -, gj⟩ := HI2.out.2 j hlt
      subst e'
      go_wp2_with fail
      clear gj
      refine (l1Has_any a1 c1 n1 f1 _ _ (f2 j) HI1.out).mono ?_
      rintro e wr ⟨r, rfl, hr, rfl⟩
      have HR : Hid (r = true ↔ hasLine n1 f1 (f2 j)) := hr
      clear hr
      cases r
      · have HN2 : Hid (∀ t, t < j + 1 → ¬ hasLine n1 f1 (f2 t)) := fun t ht => by
          by_cases e : t = j
          · subst e; exact fun q => by have := HR.out.2 q; simp at this
          · exact HNM.out t (by omega)
        clear HR HNM
        go_wp2
        go_roundw
        case rel => exact ⟨j + 1, by omega, by go_num, HN2.out, by first | rfl | trivial⟩
        case measure => simp [intOf]; omega
      · have HC : Hid (common D E) := ⟨f2 j, (HL1.out.2 (f2 j)).1 (HR.out.1 (by first | rfl | trivial)), (HL2.out.2 (f2 j)).1 ⟨j, hlt, rfl⟩⟩
        have FIN : Hid (∃ s r, (Ending.returned (.tuple #[.bool false, .bool true])) = .returned (.tuple #[.bool s, .bool r]) ∧ isOut D E s r ∧ Blw w wr) := ⟨false, true, rfl, Or.inl ⟨⟨HG.out, HE.out⟩, iff_f (fun q => q HC.out), rfl⟩, HB.out⟩
        clear HR HNM HC HI1 HI2 HB HL1 HL2
        go_wp2
        exact bodyPost_ret (v := .tuple #[.bool false, .bool true]) (by simp [results, Try.results55, go_sem]) rfl FIN.out
    · obtain rfl : j = n2 := by omega
      have HC : Hid (¬ common D E) := fun ⟨y, q1, q2⟩ => by
        obtain ⟨t, ht, e⟩ := (HL2.out.2 y).2 q2
        exact HNM.out t ht (by rw [e]; exact (HL1.out.2 y).2 q1)
      have FIN : Hid (∃ s r, (Ending.returned (.tuple #[.bool true, .bool true])) = .returned (.tuple #[.bool s, .bool r]) ∧ isOut D E s r ∧ Blw w wr) := ⟨true, true, rfl, Or.inl ⟨⟨HG.out, HE.out⟩, iff_t HC.out, rfl⟩, HB.out⟩
      clear HNM HC HI1 HI2 HB HL1 HL2 hlt
      go_wp2
      exact bodyPost_ret (v := .tuple #[.bool true, .bool true]) (by simp [results, Try.results55, go_sem]) rfl FIN.out
end Go.Proofs.Ytjplodenflkghaa
