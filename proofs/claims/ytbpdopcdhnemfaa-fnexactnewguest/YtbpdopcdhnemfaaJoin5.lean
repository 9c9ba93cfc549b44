/- Merged by program, in this order: StpD, OpenG, PutS. -/
import Derived.Test.YtbpdopcdhnemfaaJoin4
/- Guests: the model's step, whole. -/
namespace Go.Proofs.Ytbpdopcdhnemfaa
open Go.RowKit
set_option linter.unusedSimpArgs false
set_option linter.unusedVariables false
theorem l9Step_any (ao : Option Addr) (cp n : Nat) (F : Nat → Nat → Int) (v : GV) (D : GD) (X Y : Nat → Prop) (w : World) (hp : progOK n F) (hg : D.Good) (hF : KAt 3 Y w ao n F) (hX : ∀ b, X b → b < w.heap.size) (h : MG X w v D) :
    Calls Try.prog 126 #[.slice ao n cp, v.val D] w fun e w' => ∃ v' : GV, e = .returned (v'.val (stepG n F D)) ∧ MG (fun b => X b ∨ (w.heap.size ≤ b ∧ b < w'.heap.size)) w' v' (stepG n F D) ∧ Mod X w w' := by
  obtain ⟨at_, acc, nc, c, nt, t, d⟩ := D
  have hnc : nc = 8 := hg.nc
  subst hnc
  have h0 : 0 ≤ at_ := hg.a0
  obtain ⟨a, rfl⟩ : ∃ a : Nat, at_ = a := ⟨at_.toNat, by omega⟩
  have ha16 : a ≤ 16 := by have : (a : Int) ≤ 16 := hg.a1; omega
  unfold stepG
  by_cases hs : stopsAt n F ⟨(a : Int), acc, 8, c, nt, t, d⟩
  · rw [if_pos hs]
    dsimp only
    by_cases h1 : n ≤ a
    · exact l9Step_end ao cp n F v a acc c nt t d X Y w hp.n2 ha16 hg.acc hg.nt h1 hF hX h
    · rcases hs with h2 | h2 | ⟨h2, h3⟩
      · exfalso; have h2' : (n : Int) ≤ (a : Int) := h2; omega
      · have h2' : F a 0 = 7 := by simpa using h2
        exact l9Step_halt ao cp n F v a acc c nt t d X Y w hp.n2 ha16 hg.acc hg.nt (by omega) h2' hF hX h
      · have h2' : F a 0 = 6 := by simpa using h2
        exact l9Step_full ao cp n F v a acc c nt t d X Y w hp.n2 ha16 hg.acc hg.nt (by omega) h2' h3 hF hX h
  · rw [if_neg hs]
    have n1 : a < n := by
      have : ¬ (n : Int) ≤ (a : Int) := fun e => hs (Or.inl e)
      omega
    have n7 : ¬ F a 0 = 7 := fun e => hs (Or.inr (Or.inl (by simpa using e)))
    have n6 : F a 0 = 6 → ¬ nt = 20 := fun e e' => hs (Or.inr (Or.inr ⟨by simpa using e, e'⟩))
    have hi := hp.i a n1
    simp only [Int.toNat_natCast]
    unfold doG
    by_cases k1 : F a 0 = 1
    · rw [if_pos k1]
      exact l9Step_set ao cp n F v a acc c nt t d X Y w hp.n2 ha16 hg.acc hg.nt n1 k1 hF hX h
    · rw [if_neg k1]
      by_cases k2 : F a 0 = 2
      · rw [if_pos k2]
        exact l9Step_add ao cp n F v a acc c nt t d X Y w hp.n2 ha16 hg.acc hg.nt n1 k2 (by rcases hi with q | q | q | q <;> first | exact q.2.2 | (exfalso; omega)) hF hX h
      · rw [if_neg k2]
        by_cases k3 : F a 0 = 3
        · rw [if_pos k3]
          have hr : 0 ≤ F a 1 ∧ F a 1 ≤ 7 := by rcases hi with q | q | q | q <;> first | exact q.2.1 | (exfalso; omega)
          exact l9Step_load ao cp n F v a acc c nt t d X Y w hp.n2 ha16 hg.acc hg.nt (F a 1).toNat (by omega) n1 k3 (by omega) hF hX h
        · rw [if_neg k3]
          by_cases k4 : F a 0 = 4
          · rw [if_pos k4]
            have hr : 0 ≤ F a 1 ∧ F a 1 ≤ 7 := by rcases hi with q | q | q | q <;> first | exact q.2.1 | (exfalso; omega)
            exact l9Step_store ao cp n F v a acc c nt t d X Y w hp.n2 ha16 hg.acc hg.nt (F a 1).toNat (by omega) n1 k4 (by omega) hF hX h
          · rw [if_neg k4]
            by_cases k5 : F a 0 = 5
            · rw [if_pos k5]
              by_cases h0' : acc = 0
              · dsimp only; rw [if_pos h0']
                exact l9Step_stay ao cp n F v a acc c nt t d X Y w hp.n2 ha16 hg.acc hg.nt n1 k5 h0' hF hX h
              · dsimp only; rw [if_neg h0']
                exact l9Step_jump ao cp n F v a acc c nt t d X Y w hp.n2 ha16 hg.acc hg.nt n1 k5 h0' hF hX h
            · rw [if_neg k5]
              have k6 : F a 0 = 6 := by rcases hi with q | q | q | q <;> omega
              exact l9Step_tell ao cp n F v a acc c nt t d X Y w hp.n2 ha16 hg.acc hg.nt n1 k6 (n6 k6) hF hX h
end Go.Proofs.Ytbpdopcdhnemfaa
/- Programs and guests that come in: opened. -/
namespace Go.Proofs.Ytbpdopcdhnemfaa
open Go.ChangeShapes Go.WideShapes Go.ChangeAt Go.RowKit Go.Joins Go.Deep
set_option linter.unusedVariables false
set_option linter.unusedSimpArgs false
section
variable {H : Type} {enc : TypeId × Value → H} {w : World} {base : Nat} {spare : Nat → Bool} {held : Bool}
theorem cellsIL : Try.prog.cellsOf 177 = 3 := by kernel_rfl
theorem cellsGL : Try.prog.cellsOf 94 = 5 := by kernel_rfl
theorem cells_26 : Try.prog.cellsOf 26 = 1 := by kernel_rfl
theorem cells_4 : Try.prog.cellsOf 4 = 1 := by kernel_rfl
set_option maxRecDepth 10000 in
theorem open_insAt {fuel : Nat} {v : Value} {x : DataW H × List MemPlace} (h : DataW.trod enc Try.prog w base spare held fuel 89 [v] = some x) :
    ∃ ao n c F, v = .slice ao n c ∧ KAt 3 (fun b => b < w.heap.size) w ao n F := by
  rcases open_slice Try.underlying89 h with ⟨hcs, _⟩ | ⟨a, len, cap, m, nn, D, Pl, hcs, hb, hl, hm, hmm, -, hx⟩
  · simp only [List.cons.injEq, and_true] at hcs
    exact ⟨none, 0, 0, fun _ _ => 0, hcs, by omega, fun i hi => absurd hi (Nat.not_lt_zero _)⟩
  · simp only [List.cons.injEq, and_true] at hcs
    have hml : len ≤ m := by rw [hmm]; split <;> omega
    unfold maxLen at hm
    have each : ∀ i, i < len → ∃ q : Int × Int × Int, w.cell? (a.add (i * 3)) = some (.int .i64 q.1) ∧ w.cell? (a.add (i * 3 + 1)) = some (.int .i64 q.2.1) ∧ w.cell? (a.add (i * 3 + 2)) = some (.int .i64 q.2.2) := fun i hi => by
      obtain ⟨cs', h1, h2⟩ := hx i (by omega)
      rw [cellsIL] at h1
      obtain ⟨_, hlen, hcell⟩ := World.cells?_some h1
      obtain ⟨xs, k, hk, hxy, _, hxl, hf⟩ := DataW.trod_struct Try.underlying177 h2
      match xs, hxl, cs', hlen with
      | [y0, y1, y2], _, [v0, v1, v2], _ =>
        have g0 := hf 0 _ rfl
        have g1 := hf 1 _ rfl
        have g2 := hf 2 _ rfl
        simp [cells3] at g0 g1 g2
        have e0 := hcell 0 (by omega)
        have e1 := hcell 1 (by omega)
        have e2 := hcell 2 (by omega)
        rw [add_add] at e0 e1 e2
        obtain ⟨a0, q0, _⟩ := DataW.trod_int Try.underlying3 g0
        obtain ⟨a1, q1, _⟩ := DataW.trod_int Try.underlying3 g1
        obtain ⟨a2, q2, _⟩ := DataW.trod_int Try.underlying3 g2
        simp only [List.cons.injEq, and_true] at q0 q1 q2
        subst q0 q1 q2
        exact ⟨(a0, a1, a2), by simpa using e0, by simpa using e1, by simpa using e2⟩
    obtain ⟨T, hT⟩ := Go.Deep.choose_lt each
    refine ⟨some a, len, cap, fun i c => if c = 0 then (T i).1 else if c = 1 then (T i).2.1 else (T i).2.2, hcs, by omega, fun i hi => ?_⟩
    have ha := addr_of_cell (by simpa [Addr.add] using (hT 0 (by omega)).1)
    obtain ⟨c0, c1, c2⟩ := hT i hi
    rw [ha, Addr.add_mid] at c0 c1 c2
    refine ⟨a.block, a.off, by rw [← ha], World.block_lt_of_cell? w ⟨a.block, a.off + i * 3, none⟩ c0, fun c hc => ?_⟩
    match c, hc with
    | 0, _ => simpa using c0
    | 1, _ => simpa [Nat.add_assoc] using c1
    | 2, _ => simpa [Nat.add_assoc] using c2
set_option maxRecDepth 100000 in
/-- A guest by value. -/
theorem open_guest {r : Reach} {b0 : Nat} {v : Value} {d : DataW H} {p : List MemPlace} (hv : Value.okWide Try.prog w r b0 94 v) (h : DataW.Trod enc Try.prog w base spare held 94 v d p) :
    ∃ (u : GV) (D : GD), v = u.val D ∧ GAt (fun b => b < w.heap.size) w u D := by
  obtain ⟨cs, rfl, hsz⟩ := okWide_struct Try.underlying94 hv
  obtain ⟨fuel, hf⟩ := h
  obtain ⟨xs, k, hk, hxy, _, hxl, hf⟩ := DataW.trod_struct Try.underlying94 hf
  have hl : cs.toList.length = 5 := by rw [Array.length_toList, hsz]; exact cellsGL
  obtain ⟨cl, rfl⟩ : ∃ l : List Value, cs = l.toArray := ⟨cs.toList, by simp⟩
  match xs, hxl, cl, hl with
  | [y0, y1, y2, y3, y4], _, [v0, v1, v2, v3, v4], _ =>
    have g0 := hf 0 _ rfl
    have g1 := hf 1 _ rfl
    have g2 := hf 2 _ rfl
    have g3 := hf 3 _ rfl
    have g4 := hf 4 _ rfl
    simp [Value.cells, cells3, cells_26, cells_4] at g0 g1 g2 g3 g4
    obtain ⟨a0, q0, _⟩ := DataW.trod_int Try.underlying3 g0
    obtain ⟨a1, q1, _⟩ := DataW.trod_int Try.underlying3 g1
    obtain ⟨ao1, n1, c1, f1, e1, m1⟩ := open_intsAt g2
    obtain ⟨ao2, n2, c2, f2, e2, m2⟩ := open_intsAt g3
    obtain ⟨b4, q4, _⟩ := DataW.trod_bool Try.underlying4 g4
    simp only [List.cons.injEq, and_true] at q0 q1 q4
    subst q0 q1 q4 e1 e2
    exact ⟨⟨ao1, ao2, c1, c2⟩, ⟨a0, a1, n1, f1, n2, f2, b4⟩, rfl, ⟨m1, m2⟩⟩
end
end Go.Proofs.Ytbpdopcdhnemfaa
/- The model's copies of lists, and 'l1Put': a number put to its place, once. -/
namespace Go.Proofs.Ytbpdopcdhnemfaa
open Go.RowKit
set_option linter.unusedSimpArgs false
set_option linter.unusedVariables false
/-- append([]int{}, l...). -/
theorem copyI {Y : Nat → Prop} {W : World} {ao : Option Addr} {n : Nat} {f : Nat → Int} (h : IntsAt Y W ao n f) (hn : n ≤ 1048576) (c : Nat) :
    ∃ ao' cap w', (Builtin.append_ #[26, 26] 26 #[.slice (some ⟨W.heap.size, 0, none⟩) 0 0, .slice ao n c]).run Try.prog (W.alloc (.cells #[] 3)) = .ok (.slice ao' n cap) w' ∧ BufI (fun b => W.heap.size ≤ b ∧ b < w'.heap.size) w' (.slice ao' n cap) n f ∧ Blw W w' := by
  have hb : Buf 3 1 (fun b => b = W.heap.size) (W.alloc (.cells #[] 3)) (.slice (some ⟨W.heap.size, 0, none⟩) 0 0) 0 (ic (fun _ => 0)) := Buf.lit (X := fun b => b = W.heap.size) (heap_alloc_new W _) 1 rfl _
  obtain ⟨a, cap, w', h1, h2, h3⟩ := BufI.append hb c (h.blw ((Blw.refl _).alloc _)) (by omega) 26
  rw [Nat.zero_add] at h1 h2
  refine ⟨a, cap, w', h1, (Buf.congr h2 (fun i hi => by simp [ic, icat])).mono (fun b hb => ?_), Mod.blw ((Blw.refl _).alloc _) h3 (fun i hi => ?_)⟩
  · simp at hb
    omega
  · simp [Value.ownBlock] at hi
    omega
def rising (n : Nat) (f : Nat → Int) : Prop := ∀ i j, i < j → j < n → f i < f j
def isIn (n : Nat) (f : Nat → Int) (x : Int) : Prop := ∃ i, i < n ∧ f i = x
def ins (k : Nat) (x : Int) (f : Nat → Int) : Nat → Int := fun i => if i < k then f i else if i = k then x else f (i - 1)
theorem ins_rising {n k : Nat} {x : Int} {f : Nat → Int} (hr : rising n f) (hk : k ≤ n) (h1 : ∀ t, t < k → f t < x) (h2 : ∀ t, k ≤ t → t < n → x < f t) : rising (n + 1) (ins k x f) := by
  intro i j hij hj
  unfold ins
  by_cases a : j < k
  · have b : i < k := by omega
    simp only [a, b, if_true]
    exact hr i j hij (by omega)
  · by_cases b : i < k
    · simp only [a, b, if_true, if_false]
      split
      · exact h1 i b
      · exact hr i (j - 1) (by omega) (by omega)
    · simp only [a, b, if_false]
      have c : ¬ j = k := by omega
      simp only [c, if_false]
      split
      · exact h2 (j - 1) (by omega) (by omega)
      · exact hr (i - 1) (j - 1) (by omega) (by omega)
theorem ins_isIn {n k : Nat} {x : Int} {f : Nat → Int} (hk : k ≤ n) (y : Int) : isIn (n + 1) (ins k x f) y ↔ isIn n f y ∨ y = x := by
  constructor
  · rintro ⟨i, hi, e⟩
    unfold ins at e
    split at e
    · exact Or.inl ⟨i, by omega, e⟩
    · split at e
      · exact Or.inr e.symm
      · exact Or.inl ⟨i - 1, by omega, e⟩
  · rintro (⟨i, hi, e⟩ | e)
    · by_cases h : i < k
      · exact ⟨i, by omega, by simp [ins, h, e]⟩
      · have h1 : ¬ i + 1 < k := by omega
        have h2 : ¬ i + 1 = k := by omega
        exact ⟨i + 1, by omega, by simp [ins, h1, h2, e]⟩
    · exact ⟨k, by omega, by simp [ins, e]⟩
/-- The list with x in its place. -/
structure Putted (n : Nat) (f : Nat → Int) (x : Int) (n' : Nat) (f' : Nat → Int) : Prop where
  r : rising n' f'
  m : ∀ y, isIn n' f' y ↔ isIn n f y ∨ y = x
  le : n' ≤ n + 1
/-- The three appends of l1Put. -/
theorem put_facts {Y : Nat → Prop} {w : World} {ao1 ao3 : Option Addr} {n k c1 c3 : Nat} {f : Nat → Int} (x : Int) (hn : n ≤ 1000) (hk : k ≤ n) (hY : ∀ b, Y b → b < w.heap.size) (s1 : IntsAt Y w ao1 k f) (s3 : IntsAt Y w ao3 (n - k) (fun i => f (k + i))) :
    ∃ a1 p1 w1 a2 p2 w2 a3 p3 w3, (Builtin.append_ #[26, 26] 26 #[.slice (some ⟨w.heap.size, 0, none⟩) 0 0, .slice ao1 k c1]).run Try.prog (w.alloc (.cells #[] 3)) = .ok (.slice a1 k p1) w1 ∧
      (Builtin.append_ #[26, 26] 26 #[.slice a1 k p1, .slice (some ⟨w1.heap.size, 0, none⟩) 1 1]).run Try.prog (w1.alloc (.cells #[.int .i64 x] 3)) = .ok (.slice a2 (k + 1) p2) w2 ∧
      (Builtin.append_ #[26, 26] 26 #[.slice a2 (k + 1) p2, .slice ao3 (n - k) c3]).run Try.prog w2 = .ok (.slice a3 (n + 1) p3) w3 ∧
      BufI (fun b => w.heap.size ≤ b ∧ b < w3.heap.size) w3 (.slice a3 (n + 1) p3) (n + 1) (ins k x f) ∧ Blw w w3 := by
  obtain ⟨a1, p1, w1, r1, b1, m1⟩ := copyI s1 (by omega) c1
  obtain ⟨a2, p2, w2, r2, b2, m2⟩ := pushI b1 (by omega) x
  have hx : ∀ b, (Value.slice a1 k p1).ownBlock = some b → w.heap.size ≤ b := fun b hb => (b1.2 b hb).1
  have hw2 : Blw w w2 := Mod.blw m1 m2 (fun i hi => hx i hi)
  obtain ⟨a3, p3, w3, r3, b3, m3⟩ := BufI.append b2 c3 (s3.blw hw2) (by omega) 26
  have e1 : k + 1 + (n - k) = n + 1 := by omega
  rw [e1] at r3 b3
  have hx3 : ∀ b, (Value.slice a2 (k + 1) p2).ownBlock = some b → w.heap.size ≤ b := fun b hb => by
    have := m1.size
    rcases (b2.2 b hb).1 with h | h <;> omega
  have s2 := hw2.size
  refine ⟨a1, p1, w1, a2, p2, w2, a3, p3, w3, r1, r2, r3, (Buf.congr b3 (fun i hi => ?_)).mono (fun b hb => ?_), Mod.blw hw2 m3 (fun i hi => hx3 i hi)⟩
  · rw [Nat.mul_one] at hi
    simp only [ic, icat, ins, snoc']
    by_cases h1 : i < k
    · have h2 : i < k + 1 := by omega
      have h3 : i ≠ k := by omega
      simp [h1, h2, h3]
    · by_cases h2 : i = k
      · simp [h2]
      · have h3 : ¬ i < k + 1 := by omega
        have h4 : k + (i - (k + 1)) = i - 1 := by omega
        simp [h1, h2, h3, h4]
  · have := m1.size
    rcases hb.1 with h | h
    · rcases h.1 with h | h
      · exact ⟨h.1, hb.2⟩
      · exact ⟨by omega, hb.2⟩
    · exact ⟨by omega, hb.2⟩
set_option maxRecDepth 20000 in
set_option maxHeartbeats 3200000 in
theorem l1Put_any (X : Nat → Prop) (v : Value) (n : Nat) (f : Nat → Int) (x : Int) (w : World) (hn : n ≤ 1000) (hX : ∀ b, X b → b < w.heap.size) (hr : rising n f) (h : BufI X w v n f) :
    Calls Try.prog 175 #[v, .int .i64 x] w fun e w' => ∃ v', e = .returned v' ∧ ∃ n' f', Putted n f x n' f' ∧ BufI (fun b => (X b ∨ w.heap.size ≤ b) ∧ b < w'.heap.size) w' v' n' f' ∧ Blw w w' := by
  rcases h.1.2 with ⟨rfl, rfl⟩ | ⟨g, cap, cur, rfl, -, hb, hnc, hcm, -, -⟩
  · have s0 : IntsAt (fun _ => False) w none 0 f := ⟨by omega, fun i hi => absurd hi (Nat.not_lt_zero _)⟩
    obtain ⟨a1, p1, w1, a2, p2, w2, a3, p3, w3, r1, r2, r3, bf, hw⟩ := put_facts (n := 0) (k := 0) (c1 := 0) (c3 := 0) (ao3 := none) (f := f) x (by omega) (by omega) (fun b hb => hb.elim) s0 ⟨by omega, fun i hi => absurd hi (by omega)⟩
    have R1 : Hid _ := r1
    have R2 : Hid _ := r2
    have R3 : Hid _ := r3
    have HF : Hid (BufI (fun b => w.heap.size ≤ b ∧ b < w3.heap.size) w3 (.slice a3 (0 + 1) p3) (0 + 1) (ins 0 x f)) := bf
    clear r1 r2 r3 bf h
    go_enter Try.func175, Try.ntmps175
    go_wp2_with fail
    go_loop [5] (fun i => i = .int .i64 0) (fun i => 0)
    case atStart => rfl
    case round =>
      subst hrel
      go_wp2_with (first | (at_builtin; refine wpList_append_at rfl (.tmp 34) (.tmp 37) 26 rfl ?_; refine ⟨_, _, R1.out, ?_⟩) | (at_builtin; refine wpList_append_at rfl (.tmp 39) (.tmp 41) 26 rfl ?_; refine ⟨_, _, R2.out, ?_⟩) | (at_builtin; refine wpList_append_at rfl (.tmp 43) (.tmp 46) 26 rfl ?_; refine ⟨_, _, R3.out, ?_⟩) | go_in)
      go_ret
      exact ⟨_, rfl, 1, _, ⟨ins_rising hr (Nat.le_refl _) (fun t ht => absurd ht (Nat.not_lt_zero _)) (fun t _ ht => absurd ht (Nat.not_lt_zero _)), ins_isIn (Nat.le_refl _), by omega⟩, HF.out.mono (fun b hb => ⟨Or.inr hb.1, hb.2⟩), hw⟩
  · obtain ⟨_, _, e0, hrow⟩ := h.form
    cases e0
    have hlt0 : g < w.heap.size := (Array.getElem?_eq_some_iff.1 hb).1
    have hrow' : ∀ i, i < n → w.cell? ⟨g, i, none⟩ = some (.int .i64 (f i)) := fun i hi => by
      obtain ⟨g', -, e, r⟩ := hrow (by omega)
      cases e
      exact r.cell (by omega)
    have HB : Hid (BufI X w (.slice (some ⟨g, 0, none⟩) n cap) n f) := h
    have HR : Hid (rising n f) := hr
    have HC : Hid (∀ i, i < n → w.cell? ⟨g, i, none⟩ = some (.int .i64 (f i))) := hrow'
    have hcap : cap ≤ 9223372036854775807 := by unfold maxLen at hcm; omega
    have HP : Hid (∀ k, k ≤ n → ∃ a1 p1 w1 a2 p2 w2 a3 p3 w3, (Builtin.append_ #[26, 26] 26 #[.slice (some ⟨w.heap.size, 0, none⟩) 0 0, .slice (some ⟨g, 0, none⟩) k cap]).run Try.prog (w.alloc (.cells #[] 3)) = .ok (.slice a1 k p1) w1 ∧
      (Builtin.append_ #[26, 26] 26 #[.slice a1 k p1, .slice (some ⟨w1.heap.size, 0, none⟩) 1 1]).run Try.prog (w1.alloc (.cells #[.int .i64 x] 3)) = .ok (.slice a2 (k + 1) p2) w2 ∧
      (Builtin.append_ #[26, 26] 26 #[.slice a2 (k + 1) p2, .slice (some ⟨g, k, none⟩) (n - k) (cap - k)]).run Try.prog w2 = .ok (.slice a3 (n + 1) p3) w3 ∧
      BufI (fun b => w.heap.size ≤ b ∧ b < w3.heap.size) w3 (.slice a3 (n + 1) p3) (n + 1) (ins k x f) ∧ Blw w w3) := fun k hk =>
      put_facts (Y := fun b => b = g) x hn hk (fun b hb => by omega) ⟨by omega, fun i hi => ⟨g, 0, rfl, rfl, by rw [Nat.zero_add]; exact hrow' i (by omega)⟩⟩ ⟨by omega, fun i hi => ⟨g, k, rfl, rfl, hrow' (k + i) (by omega)⟩⟩
    have HPN : Hid (∀ (ao3 : Option Addr) (c3 : Nat), ∃ a1 p1 w1 a2 p2 w2 a3 p3 w3, (Builtin.append_ #[26, 26] 26 #[.slice (some ⟨w.heap.size, 0, none⟩) 0 0, .slice (some ⟨g, 0, none⟩) n cap]).run Try.prog (w.alloc (.cells #[] 3)) = .ok (.slice a1 n p1) w1 ∧
      (Builtin.append_ #[26, 26] 26 #[.slice a1 n p1, .slice (some ⟨w1.heap.size, 0, none⟩) 1 1]).run Try.prog (w1.alloc (.cells #[.int .i64 x] 3)) = .ok (.slice a2 (n + 1) p2) w2 ∧
      (Builtin.append_ #[26, 26] 26 #[.slice a2 (n + 1) p2, .slice ao3 (n - n) c3]).run Try.prog w2 = .ok (.slice a3 (n + 1) p3) w3 ∧
      BufI (fun b => w.heap.size ≤ b ∧ b < w3.heap.size) w3 (.slice a3 (n + 1) p3) (n + 1) (ins n x f) ∧ Blw w w3) :=
      fun ao3 c3 => put_facts (Y := fun b => b = g) x hn (Nat.le_refl _) (fun b hb => by omega) ⟨by omega, fun i hi => ⟨g, 0, rfl, rfl, by rw [Nat.zero_add]; exact hrow' i (by omega)⟩⟩ ⟨by omega, fun i hi => absurd hi (by omega)⟩
    clear h hr hb hcm hrow hrow'
    go_enter Try.func175, Try.ntmps175
    go_wp2_with fail
    go_loop [5] (fun i => ∃ k : Nat, k ≤ n ∧ i = .int .i64 k ∧ ∀ t, t < k → f t < x) (fun i => n - (intOf i).toNat)
    case atStart => exact ⟨0, Nat.zero_le _, rfl, fun t ht => absurd ht (Nat.not_lt_zero _)⟩
    case round =>
      obtain ⟨k, hk, rfl, hlo⟩ := hrel
      have HLO : Hid (∀ t, t < k → f t < x) := hlo
      clear hlo
      by_cases hlt : k < n
      · have hlt' : (k : Int) < n := by omega
        have c0 := HC.out k hlt
        by_cases h1 : f k < x
        · go_wp2
          go_round
          case rel => exact ⟨k + 1, by omega, by go_num, fun t ht => by
            by_cases e : t = k
            · subst e; exact h1
            · exact HLO.out t (by omega)⟩
          case measure => simp [intOf]; omega
        · by_cases h2 : f k = x
          · have h3 : (f k == x) = true := by simp [h2]
            have H2 : Hid (f k = x) := h2
            clear h2
            go_wp2
            go_ret
            exact ⟨_, rfl, n, f, ⟨HR.out, fun y => ⟨Or.inl, fun hy => hy.elim id (fun e => ⟨k, hlt, by rw [H2.out, e]⟩)⟩, by omega⟩, HB.out.mono (fun b hb => ⟨Or.inl hb, hX b hb⟩), Blw.refl _⟩
          · have h3 : (f k == x) = false := by simp [h2]
            have HX : Hid (x < f k) := by show x < f k; omega
            have hkc : (k : Int) ≤ cap := by omega
            obtain ⟨a1, p1, w1, a2, p2, w2, a3, p3, w3, r1, r2, r3, bf, hw⟩ := HP.out k hk
            have R1 : Hid _ := r1
            have R2 : Hid _ := r2
            have R3 : Hid _ := r3
            have HF : Hid (BufI (fun b => w.heap.size ≤ b ∧ b < w3.heap.size) w3 (.slice a3 (n + 1) p3) (n + 1) (ins k x f)) := bf
            have HW : Hid (Blw w w3) := hw
            clear r1 r2 r3 bf HP HPN h2 hw
            go_wp2_with (first | (at_builtin; refine wpList_append_at rfl (.tmp 34) (.tmp 37) 26 rfl ?_; refine ⟨_, _, R1.out, ?_⟩) | (at_builtin; refine wpList_append_at rfl (.tmp 39) (.tmp 41) 26 rfl ?_; refine ⟨_, _, R2.out, ?_⟩) | (at_builtin; refine wpList_append_at rfl (.tmp 43) (.tmp 46) 26 rfl ?_; refine ⟨_, _, R3.out, ?_⟩) | go_in)
            go_ret
            exact ⟨_, rfl, n + 1, _, ⟨ins_rising HR.out hk HLO.out (fun t h4 h5 => by
              by_cases e : t = k
              · subst e; exact HX.out
              · have := HR.out k t (by omega) h5
                have := HX.out
                omega), ins_isIn hk, by omega⟩, HF.out.mono (fun b hb => ⟨Or.inr hb.1, hb.2⟩), HW.out⟩
      · obtain rfl : k = n := by omega
        have hkc : (k : Int) ≤ cap := by omega
        by_cases hck : cap = k
        · subst hck
          obtain ⟨a1, p1, w1, a2, p2, w2, a3, p3, w3, r1, r2, r3, bf, hw⟩ := HPN.out (some ⟨g, 0, none⟩) 0
          rw [Nat.sub_self] at r3
          have R1 : Hid _ := r1
          have R2 : Hid _ := r2
          have R3 : Hid _ := r3
          have HF : Hid (BufI (fun b => w.heap.size ≤ b ∧ b < w3.heap.size) w3 (.slice a3 (cap + 1) p3) (cap + 1) (ins cap x f)) := bf
          have HW : Hid (Blw w w3) := hw
          clear r1 r2 r3 bf HP HPN hw
          go_wp2_with (first | (at_builtin; refine wpList_append_at rfl (.tmp 34) (.tmp 37) 26 rfl ?_; refine ⟨_, _, R1.out, ?_⟩) | (at_builtin; refine wpList_append_at rfl (.tmp 39) (.tmp 41) 26 rfl ?_; refine ⟨_, _, R2.out, ?_⟩) | (at_builtin; refine wpList_append_at rfl (.tmp 43) (.tmp 46) 26 rfl ?_; refine ⟨_, _, R3.out, ?_⟩) | go_in)
          go_ret
          exact ⟨_, rfl, cap + 1, _, ⟨ins_rising HR.out hk HLO.out (fun t h4 h5 => by omega), ins_isIn hk, by omega⟩, HF.out.mono (fun b hb => ⟨Or.inr hb.1, hb.2⟩), HW.out⟩
        · obtain ⟨a1, p1, w1, a2, p2, w2, a3, p3, w3, r1, r2, r3, bf, hw⟩ := HPN.out (some ⟨g, k, none⟩) (cap - k)
          rw [Nat.sub_self] at r3
          have R1 : Hid _ := r1
          have R2 : Hid _ := r2
          have R3 : Hid _ := r3
          have HF : Hid (BufI (fun b => w.heap.size ≤ b ∧ b < w3.heap.size) w3 (.slice a3 (k + 1) p3) (k + 1) (ins k x f)) := bf
          have HW : Hid (Blw w w3) := hw
          clear r1 r2 r3 bf HP HPN hw
          go_wp2_with (first | (at_builtin; refine wpList_append_at rfl (.tmp 34) (.tmp 37) 26 rfl ?_; refine ⟨_, _, R1.out, ?_⟩) | (at_builtin; refine wpList_append_at rfl (.tmp 39) (.tmp 41) 26 rfl ?_; refine ⟨_, _, R2.out, ?_⟩) | (at_builtin; refine wpList_append_at rfl (.tmp 43) (.tmp 46) 26 rfl ?_; refine ⟨_, _, R3.out, ?_⟩) | go_in)
          go_ret
          exact ⟨_, rfl, k + 1, _, ⟨ins_rising HR.out hk HLO.out (fun t h4 h5 => by omega), ins_isIn hk, by omega⟩, HF.out.mono (fun b hb => ⟨Or.inr hb.1, hb.2⟩), HW.out⟩
end Go.Proofs.Ytbpdopcdhnemfaa
