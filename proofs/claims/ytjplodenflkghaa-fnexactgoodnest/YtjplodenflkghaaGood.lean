/- Good tables: the model's test. -/
import Derived.Test.YtjplodenflkghaaTabL
import Derived.Test.YtjplodenflkghaaBuf
namespace Go.Proofs.Ytjplodenflkghaa
open Go.RowKit
set_option linter.unusedSimpArgs false
set_option linter.unusedVariables false
theorem iff_t {p : Prop} (h : p) : (true = true ↔ p) := ⟨fun _ => h, fun _ => rfl⟩
theorem iff_f {p : Prop} (h : ¬ p) : (false = true ↔ p) := ⟨fun e => Bool.noConfusion e, fun g => absurd g h⟩
def leafOK (p m : Int) : Prop := (0 ≤ p ∧ p ≤ 15) ∧ (0 ≤ m ∧ m ≤ 3) ∧ (0 < m ∨ p = 0)
/-- A good table. -/
structure BD.Good (B : BD) : Prop where
  n : B.n = 4
  k : 1 ≤ B.D.n ∧ B.D.n ≤ 4
  leaf : ∀ i, i < B.D.n → B.D.len i = 4 ∧ ∀ j, j < 4 → leafOK (B.D.p i j) (B.D.m i j)
  top : ∀ i, i < B.n → -1 ≤ B.c i ∧ B.c i ≤ (B.D.n : Int) - 1
  dis : ∀ i j, i < B.n → j < i → 0 ≤ B.c i → ¬ B.c j = B.c i
  idle : ∀ k, k < B.D.n → (∀ i, i < B.n → ¬ B.c i = (k : Int)) → ∀ j, j < 4 → ¬ 0 < B.D.m k j
theorem l1In_any (n lo hi : Int) (w : World) : Calls Try.prog 98 #[.int .i64 n, .int .i64 lo, .int .i64 hi] w fun e w' => ∃ r, e = .returned (.bool r) ∧ (r = true ↔ (lo ≤ n ∧ n ≤ hi)) ∧ w' = w := by
  by_cases h : lo ≤ n ∧ n ≤ hi
  · exact (l1In_yes n lo hi w h.1 h.2).mono fun e w' ⟨h1, h2⟩ => ⟨true, h1, ⟨fun _ => h, fun _ => rfl⟩, h2⟩
  · exact (l1In_no n lo hi w h).mono fun e w' ⟨h1, h2⟩ => ⟨false, h1, iff_f h, h2⟩
set_option maxHeartbeats 1600000 in
theorem l6Leaf_any (p m : Int) (w : World) : Calls Try.prog 154 #[.agg #[.int .i64 p, .int .i64 m]] w fun e w' => ∃ r, e = .returned (.bool r) ∧ (r = true ↔ leafOK p m) ∧ Blw w w' := by
  have hb0 : Blw w (w.alloc (.cells #[.int .i64 p, .int .i64 m] 144)) := (Blw.refl _).alloc _
  obtain ⟨p0, p1⟩ := get2 (box2 w (.int .i64 p) (.int .i64 m) 144)
  go_enter Try.func154, Try.ntmps154
  go_wp2_with fail
  revert hb0 p0 p1
  generalize w.alloc (.cells #[.int .i64 p, .int .i64 m] 144) = w0
  intro hb0 p0 p1
  refine (l1In_any p 0 15 _).mono ?_
  rintro e w0 ⟨r, rfl, hr, rfl⟩
  have HR : Hid (r = true ↔ (0 ≤ p ∧ p ≤ 15)) := hr
  clear hr
  cases r
  · have HN : Hid (¬ leafOK p m) := fun g => by have := HR.out.2 g.1; simp at this
    clear HR
    go_wp2
    go_ret
    exact ⟨false, rfl, iff_f HN.out, hb0⟩
  have H1 : Hid (0 ≤ p ∧ p ≤ 15) := HR.out.1 (by first | rfl | trivial)
  clear HR
  go_wp2_with fail
  refine (l1In_any m 0 3 _).mono ?_
  rintro e w0 ⟨r, rfl, hr, rfl⟩
  have HR : Hid (r = true ↔ (0 ≤ m ∧ m ≤ 3)) := hr
  clear hr
  cases r
  · have HN : Hid (¬ leafOK p m) := fun g => by have := HR.out.2 g.2.1; simp at this
    clear HR
    go_wp2
    go_ret
    exact ⟨false, rfl, iff_f HN.out, hb0⟩
  have H2 : Hid (0 ≤ m ∧ m ≤ 3) := HR.out.1 (by first | rfl | trivial)
  clear HR
  by_cases hm : 0 < m
  · have OK : Hid (leafOK p m) := ⟨H1.out, H2.out, Or.inl hm⟩
    have d1 : decide (m > 0) = true := by simp; omega
    clear hm
    go_wp2
    go_ret
    exact ⟨true, rfl, iff_t OK.out, hb0⟩
  · have d1 : decide (m > 0) = false := by simp; omega
    by_cases hp : p = 0
    · have OK : Hid (leafOK p m) := ⟨H1.out, H2.out, Or.inr hp⟩
      have d2 : (p == 0) = true := by simp [hp]
      clear hm hp
      go_wp2
      go_ret
      exact ⟨true, rfl, iff_t OK.out, hb0⟩
    · have HN : Hid (¬ leafOK p m) := fun g => g.2.2.elim hm hp
      have d2 : (p == 0) = false := by simp [hp]
      clear hm hp
      go_wp2
      go_ret
      exact ⟨false, rfl, iff_f HN.out, hb0⟩
def noMay (g : Nat → Int) (n : Nat) : Prop := ∀ j, j < n → ¬ 0 < g j
set_option maxHeartbeats 1600000 in
theorem l6Empty_any (ao : Option Addr) (c0 n : Nat) (f g : Nat → Int) (Y : Nat → Prop) (w : World) (h : UndosAt Y w ao n f g) :
    Calls Try.prog 155 #[.slice ao n c0] w fun e w' => ∃ r, e = .returned (.bool r) ∧ (r = true ↔ noMay g n) ∧ Blw w w' := by
  have hn := h.1
  have H : Hid (UndosAt Y w ao n f g) := h
  clear h
  go_enter Try.func155, Try.ntmps155
  go_wp2_with fail
  go_loopw [7] (fun i wr => ∃ j : Nat, j ≤ n ∧ i = .int .i64 j ∧ noMay g j ∧ Blw w wr) (fun i _ => n - (intOf i).toNat)
  case atStart => exact ⟨0, Nat.zero_le _, rfl, fun t ht => absurd ht (Nat.not_lt_zero _), Blw.refl _⟩
  case round =>
    obtain ⟨j, hj, rfl, hok, hb⟩ := hrel
    have HO : Hid (noMay g j) := hok
    have HB : Hid (Blw w wr) := hb
    clear hok hb
    by_cases hlt : j < n
    · obtain ⟨b, o, e, -, q0, q1⟩ := (H.out.blw HB.out).2 j hlt
      subst e
      have hbn : Blw wr (wr.alloc (.cells #[.int .i64 (f j), .int .i64 (g j)] 144)) := (Blw.refl _).alloc _
      obtain ⟨s0, s1⟩ := get2 (box2 wr (.int .i64 (f j)) (.int .i64 (g j)) 144)
      have HBN : Hid (Blw w (wr.alloc (.cells #[.int .i64 (f j), .int .i64 (g j)] 144))) := HB.out.trans hbn
      clear hbn
      by_cases hg : 0 < g j
      · have HN : Hid (¬ noMay g n) := fun q => q j hlt hg
        have d1 : decide (g j > 0) = true := by simp; omega
        clear hg HO
        go_wp2
        exact bodyPost_ret (v := .bool false) (by simp [results, Try.results155, go_sem]) rfl (by first | exact ⟨false, rfl, iff_f HN.out, HBN.out⟩ | exact Or.inl ⟨rfl, HN.out, HBN.out⟩)
      · have d1 : decide (g j > 0) = false := by simp; omega
        have HN : Hid (noMay g (j + 1)) := fun t ht => by
          by_cases e : t = j
          · subst e; exact hg
          · exact HO.out t (by omega)
        clear hg HO
        go_wp2
        go_roundw
        case rel => exact ⟨j + 1, by omega, by go_num, HN.out, HBN.out⟩
        case measure => simp [intOf]; omega
    · obtain rfl : j = n := by omega
      go_wp2
      exact bodyPost_ret (v := .bool true) (by simp [results, Try.results155, go_sem]) rfl (by first | exact ⟨true, rfl, iff_t HO.out, HB.out⟩ | exact Or.inr ⟨rfl, HO.out, HB.out⟩)
def snoc' (k : Nat) (f : Nat → Int) (x : Int) : Nat → Int := fun i => if i = k then x else f i
theorem pushI {X : Nat → Prop} {W : World} {v : Value} {n : Nat} {f : Nat → Int} (h : BufI X W v n f) (hn : n ≤ 1048576) (x : Int) :
    ∃ ao' cap w', (Builtin.append_ #[26, 26] 26 #[v, .slice (some ⟨W.heap.size, 0, none⟩) 1 1]).run Try.prog (W.alloc (.cells #[.int .i64 x] 3)) = .ok (.slice ao' (n + 1) cap) w' ∧ BufI (fun b => (X b ∨ W.heap.size < b) ∧ b < w'.heap.size) w' (.slice ao' (n + 1) cap) (n + 1) (snoc' n f x) ∧ Mod (fun b => v.ownBlock = some b) W w' := by
  obtain ⟨a, cap, w', h1, h2, h3⟩ := BufI.append (Buf.blw h ((Blw.refl _).alloc _)) 1 (one_ints W x) (by omega) 26
  refine ⟨a, cap, w', h1, (Buf.congr h2 (fun i hi => ?_)).mono (fun b hb => ?_), (((Blw.refl W).alloc _).mod _).trans h3⟩
  · by_cases e : i < n
    · have e2 : i ≠ n := by omega
      simp [ic, icat, e, e2, snoc']
    · have e2 : i = n := by omega
      simp [ic, icat, e2, snoc']
  · exact ⟨hb.1.imp id (fun e => by rw [World.size_alloc] at e; omega), hb.2⟩
/-- A list of numbers that grows behind w. -/
structure Gr (w wr : World) (v : Value) (n : Nat) (f : Nat → Int) : Prop where
  buf : BufI (fun x => w.heap.size ≤ x ∧ x < wr.heap.size) wr v n f
  blw : Blw w wr
theorem Gr.go {w wr w' : World} {v : Value} {n : Nat} {f : Nat → Int} (h : Gr w wr v n f) (hb : Blw wr w') : Gr w w' v n f :=
  ⟨(Buf.blw h.buf hb).mono (fun x hx => ⟨hx.1, Nat.lt_of_lt_of_le hx.2 hb.size⟩), h.blw.trans hb⟩
theorem Gr.push {w wr : World} {v : Value} {n : Nat} {f : Nat → Int} (h : Gr w wr v n f) (hn : n ≤ 1048576) (x : Int) :
    ∃ ao' cap w', (Builtin.append_ #[26, 26] 26 #[v, .slice (some ⟨wr.heap.size, 0, none⟩) 1 1]).run Try.prog (wr.alloc (.cells #[.int .i64 x] 3)) = .ok (.slice ao' (n + 1) cap) w' ∧ Gr w w' (.slice ao' (n + 1) cap) (n + 1) (snoc' n f x) := by
  obtain ⟨a, cap, w', h1, h2, h3⟩ := pushI h.buf hn x
  have hs := h.blw.size
  have hx : ∀ b, v.ownBlock = some b → w.heap.size ≤ b := fun b hb => (h.buf.2 b hb).1
  refine ⟨a, cap, w', h1, ⟨Buf.mono h2 (fun b hb => ⟨?_, hb.2⟩), Mod.blw h.blw h3 (fun b hb => hx b hb)⟩⟩
  rcases hb.1 with h | h
  · exact h.1
  · omega
theorem Gr.at {w wr : World} {v : Value} {n : Nat} {f : Nat → Int} (h : Gr w wr v n f) (hn : n ≤ 1048576) : ∃ ao cap, v = .slice ao n cap ∧ IntsAt (fun x => w.heap.size ≤ x ∧ x < wr.heap.size) wr ao n f := by
  obtain ⟨ao, cap, e, ho⟩ := BufI.own h.buf (by omega)
  exact ⟨ao, cap, e, ho.at⟩
theorem Gr.congr {w wr : World} {v : Value} {n : Nat} {f g : Nat → Int} (h : Gr w wr v n f) (e : ∀ i, i < n → f i = g i) : Gr w wr v n g := ⟨Buf.congr h.buf (fun i hi => by simp only [ic]; rw [e i (by omega)]), h.blw⟩
def listOK (D : PD) (i : Nat) : Prop := D.len i = 4 ∧ ∀ j, j < 4 → leafOK (D.p i j) (D.m i j)
def topOK (B : BD) (i : Nat) : Prop := (-1 ≤ B.c i ∧ B.c i ≤ (B.D.n : Int) - 1) ∧ (0 ≤ B.c i → ¬ hasLine i B.c (B.c i))
def idleOK (B : BD) (k : Nat) : Prop := ¬ hasLine B.n B.c (k : Int) → ∀ j, j < B.D.len k → ¬ 0 < B.D.m k j
theorem good_parts {B : BD} : B.Good ↔ (∀ i, i < B.D.n → listOK B.D i) ∧ (∀ i, i < B.n → topOK B i) ∧ (∀ k, k < B.D.n → idleOK B k) ∧ B.n = 4 ∧ 1 ≤ B.D.n ∧ B.D.n ≤ 4 := by
  constructor
  · intro g
    refine ⟨g.leaf, fun i hi => ⟨g.top i hi, fun h0 ⟨t, ht, e⟩ => g.dis i t hi ht h0 e⟩, fun k hk hn j hj => ?_, g.n, g.k.1, g.k.2⟩
    exact g.idle k hk (fun i hi e => hn ⟨i, hi, e⟩) j (by rw [(g.leaf k hk).1] at hj; exact hj)
  · rintro ⟨h1, h2, h3, h4, h5, h6⟩
    refine ⟨h4, ⟨h5, h6⟩, h1, fun i hi => (h2 i hi).1, fun i j hi hj h0 e => (h2 i hi).2 h0 ⟨j, hj, e⟩, fun k hk hn j hj => ?_⟩
    exact h3 k hk (fun ⟨t, ht, e⟩ => hn t ht e) j (by rw [(h1 k hk).1]; exact hj)
set_option maxRecDepth 10000 in
set_option maxHeartbeats 6400000 in
theorem specGood_any (b : BV) (B : BD) (Y : Nat → Prop) (w : World) (hn : B.n ≤ 1048576) (h : BookAt Y w b B) :
    Calls Try.prog 97 #[b.val B] w fun e w' => ∃ r, e = .returned (.bool r) ∧ (r = true ↔ B.Good) ∧ Blw w w' := by
  have HG : Hid (B.Good ↔ (∀ i, i < B.D.n → listOK B.D i) ∧ (∀ i, i < B.n → topOK B i) ∧ (∀ k, k < B.D.n → idleOK B k) ∧ B.n = 4 ∧ 1 ≤ B.D.n ∧ B.D.n ≤ 4) := good_parts
  obtain ⟨n, c, ⟨kn, len, p, m⟩⟩ := B
  obtain ⟨a1, a2, q1, q2⟩ := b
  simp only [BV.val] at *
  have hb0 : Blw w (w.alloc (.cells #[.slice a1 n q1, .slice a2 kn q2] 29)) := (Blw.refl _).alloc _
  have HC : Hid (IntsAt Y (w.alloc (.cells #[.slice a1 n q1, .slice a2 kn q2] 29)) a1 n c) := h.c.blw hb0
  have HL : Hid (PSAt Y (w.alloc (.cells #[.slice a1 n q1, .slice a2 kn q2] 29)) a2 ⟨kn, len, p, m⟩) := h.l.blw hb0
  have r0 := box2 w (.slice a1 n q1) (.slice a2 kn q2) 29
  have hkn := h.l.1
  dsimp only at hkn
  clear h
  obtain ⟨p0, p1⟩ := get2 r0
  go_enter Try.func97, Try.ntmps97
  go_wp2_with fail
  clear p0 p1
  revert hb0 HC HL r0
  generalize w.alloc (.cells #[.slice a1 n q1, .slice a2 kn q2] 29) = w0
  intro hb0 HC HL r0
  have HR0 : Hid (Row w0 w.heap.size 2 (fun i => if i = 0 then .slice a1 n q1 else .slice a2 kn q2)) := r0
  have HB0 : Hid (Blw w w0) := hb0
  clear r0 hb0
  go_loopw [15] (fun i wr => ∃ j : Nat, j ≤ kn ∧ i = .int .i64 j ∧ (∀ i, i < j → listOK ⟨kn, len, p, m⟩ i) ∧ Blw w0 wr) (fun i _ => kn - (intOf i).toNat)
  case atStart => exact ⟨0, Nat.zero_le _, rfl, fun t ht => absurd ht (Nat.not_lt_zero _), Blw.refl _⟩
  case round =>
    obtain ⟨j, hj, rfl, hok, hb⟩ := hrel
    have HO : Hid (∀ i, i < j → listOK ⟨kn, len, p, m⟩ i) := hok
    have HB : Hid (Blw w0 wr) := hb
    clear hok hb
    by_cases hlt : j < kn
    · obtain ⟨bb, oo, aa, cc, ea, -, g1, g2⟩ := (HL.out.blw HB.out).2 j hlt
      dsimp only at g1 g2
      have G2 : Hid (UndosAt Y wr aa (len j) (p j) (m j)) := g2
      clear g2
      subst ea
      by_cases hl4 : len j = 4
      case neg =>
        have HN : Hid (¬ BD.Good ⟨n, c, ⟨kn, len, p, m⟩⟩) := fun g => hl4 ((HG.out.1 g).1 j hlt).1
        have d1 : ((len j : Int) != 4) = true := by simp; omega
        clear hl4 HO
        go_wp2
        go_ret
        exact ⟨false, rfl, iff_f HN.out, HB0.out.trans HB.out⟩
      rw [hl4] at g1
      replace G2 : Hid (UndosAt Y wr aa 4 (p j) (m j)) := by have := G2.out; rw [hl4] at this; exact this
      have HL4 : Hid (len j = 4) := hl4
      clear hl4
      go_wp2_with fail
      clear g1
      go_loopw [24] (fun i wq => ∃ t : Nat, t ≤ 4 ∧ i = .int .i64 t ∧ (∀ s, s < t → leafOK (p j s) (m j s)) ∧ Blw wr wq) (fun i _ => 4 - (intOf i).toNat)
      case atStart => exact ⟨0, Nat.zero_le _, rfl, fun t ht => absurd ht (Nat.not_lt_zero _), Blw.refl _⟩
      case round =>
        obtain ⟨t, ht, rfl, hok2, hb2⟩ := hrel
        have HO2 : Hid (∀ s, s < t → leafOK (p j s) (m j s)) := hok2
        have HB2 : Hid (Blw w0 wr) := HB.out.trans hb2
        have HBQ : Hid (Blw _ wr) := hb2
        clear hok2 hb2
        by_cases ht4 : t < 4
        · have ht4' : (t : Int) < 4 := by omega
          obtain ⟨b3, o3, e3, -, q0, q1⟩ := (G2.out.blw HBQ.out).2 t ht4
          subst e3
          obtain ⟨s0, s1⟩ := get2 (box2 wr (.int .i64 (p j t)) (.int .i64 (m j t)) 144)
          have hA : Blw wr (wr.alloc (.cells #[.int .i64 (p j t), .int .i64 (m j t)] 144)) := (Blw.refl _).alloc _
          go_wp2_with fail
          clear q0 q1 s0 s1
          refine (l6Leaf_any (p j t) (m j t) _).mono ?_
          rintro e w1 ⟨r, rfl, hr, hb1⟩
          have HRR : Hid (r = true ↔ leafOK (p j t) (m j t)) := hr
          replace HB2 : Hid (Blw w0 w1) := (HB2.out.trans hA).trans hb1
          replace HBQ : Hid (Blw _ w1) := (HBQ.out.trans hA).trans hb1
          clear hr hA hb1
          cases r
          · have HN : Hid (¬ BD.Good ⟨n, c, ⟨kn, len, p, m⟩⟩) := fun g => by have := HRR.out.2 (((HG.out.1 g).1 j hlt).2 t ht4); simp at this
            clear HRR HO HO2
            go_wp2
            go_ret
            exact ⟨false, rfl, iff_f HN.out, HB0.out.trans HB2.out⟩
          · have HN : Hid (∀ s, s < t + 1 → leafOK (p j s) (m j s)) := fun s hs => by
              by_cases e : s = t
              · subst e; exact HRR.out.1 (by first | rfl | trivial)
              · exact HO2.out s (by omega)
            clear HRR HO2
            go_wp2
            go_roundw
            case rel => exact ⟨t + 1, by omega, by go_num, HN.out, HBQ.out⟩
            case measure => simp [intOf]; omega
        · obtain rfl : t = 4 := by omega
          have HN : Hid (∀ i, i < j + 1 → listOK ⟨kn, len, p, m⟩ i) := fun i hi => by
            by_cases e : i = j
            · subst e; exact ⟨HL4.out, HO2.out⟩
            · exact HO.out i (by omega)
          clear HO HO2 ht4
          go_wp2
          go_roundw
          case rel => exact ⟨j + 1, by omega, by go_num, HN.out, HB2.out⟩
          case measure => simp [intOf]; omega
    · obtain rfl : j = kn := by omega
      obtain ⟨p0, p1⟩ := get2 (HR0.out.blw HB.out)
      go_wp2_with fail
      clear p0 p1
      have HL1 : Hid (∀ i, i < j → listOK ⟨j, len, p, m⟩ i) := HO.out
      have HBL : Hid (Blw w wr) := HB0.out.trans HB.out
      replace HC : Hid (IntsAt Y wr a1 n c) := HC.out.blw HB.out
      replace HL : Hid (PSAt Y wr a2 ⟨j, len, p, m⟩) := HL.out.blw HB.out
      replace HR0 : Hid (Row wr w.heap.size 2 (fun i => if i = 0 then .slice a1 n q1 else .slice a2 j q2)) := HR0.out.blw HB.out
      clear HO HB hlt HB0
      generalize wr = wL at *
      go_loopw [7, 36] (fun v i wq => ∃ t : Nat, t ≤ n ∧ i = .int .i64 t ∧ (∀ i, i < t → topOK ⟨n, c, ⟨j, len, p, m⟩⟩ i) ∧ Gr wL wq v t c) (fun _ i _ => n - (intOf i).toNat)
      case atStart => exact ⟨0, Nat.zero_le _, rfl, fun t ht => absurd ht (Nat.not_lt_zero _), ⟨Buf.nil _ _ _ _ _, Blw.refl _⟩⟩
      case round =>
        obtain ⟨t, ht, rfl, hok, hgr⟩ := hrel
        have HO : Hid (∀ i, i < t → topOK ⟨n, c, ⟨j, len, p, m⟩⟩ i) := hok
        have HGr : Hid (Gr wL wr u7 t c) := hgr
        clear hok hgr
        obtain ⟨ua, uc', rfl, hua⟩ := HGr.out.at (by omega)
        have HUA : Hid (IntsAt _ wr ua t c) := hua
        clear hua
        by_cases hlt : t < n
        · obtain ⟨bb, oo, ea, -, g1⟩ := (HC.out.blw HGr.out.blw).2 t hlt
          subst ea
          have hlt' : (t : Int) < n := by omega
          obtain ⟨p0, p1⟩ := get2 (HR0.out.blw HGr.out.blw)
          go_wp2_with fail
          clear p0 p1 g1
          refine (l1In_any (c t) (-1) ((j : Int) - 1) _).mono ?_
          rintro e wr ⟨r, rfl, hr, rfl⟩
          have HRR : Hid (r = true ↔ (-1 ≤ c t ∧ c t ≤ (j : Int) - 1)) := hr
          clear hr
          cases r
          · have HN : Hid (¬ BD.Good ⟨n, c, ⟨j, len, p, m⟩⟩) := fun g => by have := HRR.out.2 ((HG.out.1 g).2.1 t hlt).1; simp at this
            have HBF : Hid (Blw w wr) := HBL.out.trans HGr.out.blw
            clear HRR HO HGr HUA
            go_wp2
            go_ret
            exact ⟨false, rfl, iff_f HN.out, HBF.out⟩
          have H1 : Hid (-1 ≤ c t ∧ c t ≤ (j : Int) - 1) := HRR.out.1 (by first | rfl | trivial)
          clear HRR
          by_cases h0 : 0 ≤ c t
          · have d0 : decide (c t ≥ 0) = true := by simp; omega
            have H0 : Hid (0 ≤ c t) := h0
            clear h0
            go_wp2_with fail
            refine (l1Has_any ua uc' t c _ _ (c t) HUA.out).mono ?_
            rintro e wr ⟨r, rfl, hr, rfl⟩
            have HRR : Hid (r = true ↔ hasLine t c (c t)) := hr
            clear hr
            cases r
            · have HN1 : Hid (topOK ⟨n, c, ⟨j, len, p, m⟩⟩ t) := ⟨H1.out, fun _ q => by have := HRR.out.2 q; simp at this⟩
              clear HRR
              have HTN : Hid (∀ i, i < t + 1 → topOK ⟨n, c, ⟨j, len, p, m⟩⟩ i) := fun i hi => by
                by_cases e : i = t
                · subst e; exact HN1.out
                · exact HO.out i (by omega)
              obtain ⟨ao, cap, w2, hrun, hG2⟩ := HGr.out.push (by omega) (c t)
              have HRN : Hid _ := hrun
              have HN : Hid (Gr wL w2 (.slice ao (t + 1) cap) (t + 1) c) := hG2.congr (fun i hi => by unfold snoc'; by_cases e : i = t; (rw [if_pos e, e]); (rw [if_neg e]))
              clear hrun hG2 HGr HUA HO HN1
              go_wp2_with (first | (at_builtin; refine wpList_app (.tmp 56) (.tmp 58) 26 (by rfl) ?_; refine ⟨_, _, HRN.out, ?_⟩) | fail)
              go_roundw
              case rel => exact ⟨t + 1, by omega, by go_num, HTN.out, HN.out⟩
              case measure => simp [intOf]; omega
            · have HN : Hid (¬ BD.Good ⟨n, c, ⟨j, len, p, m⟩⟩) := fun g => ((HG.out.1 g).2.1 t hlt).2 H0.out (HRR.out.1 (by first | rfl | trivial))
              have HBF : Hid (Blw w wr) := HBL.out.trans HGr.out.blw
              clear HRR HO HGr HUA
              go_wp2
              go_ret
              exact ⟨false, rfl, iff_f HN.out, HBF.out⟩
          · have d0 : decide (c t ≥ 0) = false := by simp; omega
            have HN1 : Hid (topOK ⟨n, c, ⟨j, len, p, m⟩⟩ t) := ⟨H1.out, fun q => absurd q h0⟩
            clear h0
            have HTN : Hid (∀ i, i < t + 1 → topOK ⟨n, c, ⟨j, len, p, m⟩⟩ i) := fun i hi => by
              by_cases e : i = t
              · subst e; exact HN1.out
              · exact HO.out i (by omega)
            obtain ⟨ao, cap, w2, hrun, hG2⟩ := HGr.out.push (by omega) (c t)
            have HRN : Hid _ := hrun
            have HN : Hid (Gr wL w2 (.slice ao (t + 1) cap) (t + 1) c) := hG2.congr (fun i hi => by unfold snoc'; by_cases e : i = t; (rw [if_pos e, e]); (rw [if_neg e]))
            clear hrun hG2 HGr HUA HO HN1
            go_wp2_with (first | (at_builtin; refine wpList_app (.tmp 56) (.tmp 58) 26 (by rfl) ?_; refine ⟨_, _, HRN.out, ?_⟩) | fail)
            go_roundw
            case rel => exact ⟨t + 1, by omega, by go_num, HTN.out, HN.out⟩
            case measure => simp [intOf]; omega
        · obtain rfl : t = n := by omega
          have HT : Hid (∀ i, i < t → topOK ⟨t, c, ⟨j, len, p, m⟩⟩ i) := HO.out
          obtain ⟨p0, p1⟩ := get2 (HR0.out.blw HGr.out.blw)
          go_wp2_with fail
          clear p0 p1
          replace HL : Hid (PSAt Y wr a2 ⟨j, len, p, m⟩) := HL.out.blw HGr.out.blw
          replace HR0 : Hid (Row wr w.heap.size 2 (fun i => if i = 0 then .slice a1 t q1 else .slice a2 j q2)) := HR0.out.blw HGr.out.blw
          replace HBL : Hid (Blw w wr) := HBL.out.trans HGr.out.blw
          clear HO HGr HC hlt
          generalize wr = wM at *
          go_loopw [64] (fun i wq => ∃ s : Nat, s ≤ j ∧ i = .int .i64 s ∧ (∀ i, i < s → idleOK ⟨t, c, ⟨j, len, p, m⟩⟩ i) ∧ Blw wM wq) (fun i _ => j - (intOf i).toNat)
          case atStart => exact ⟨0, Nat.zero_le _, rfl, fun t ht => absurd ht (Nat.not_lt_zero _), Blw.refl _⟩
          case round =>
            obtain ⟨s, hs, rfl, hok, hb⟩ := hrel
            have HO : Hid (∀ i, i < s → idleOK ⟨t, c, ⟨j, len, p, m⟩⟩ i) := hok
            have HB : Hid (Blw wM wr) := hb
            clear hok hb
            by_cases hlt : s < j
            · obtain ⟨bb, oo, aa, cc, ea, -, g1, g2⟩ := (HL.out.blw HB.out).2 s hlt
              dsimp only at g1 g2
              subst ea
              have G2 : Hid (UndosAt Y wr aa (len s) (p s) (m s)) := g2
              clear g2
              go_wp2_with fail
              clear g1
              refine (l1Has_any ua uc' t c _ _ (s : Int) (HUA.out.blw HB.out)).mono ?_
              rintro e wr ⟨r, rfl, hr, rfl⟩
              have HRR : Hid (r = true ↔ hasLine t c (s : Int)) := hr
              clear hr
              cases r
              · have HNH : Hid (¬ hasLine t c (s : Int)) := fun q => by have := HRR.out.2 q; simp at this
                clear HRR
                go_wp2_with fail
                refine (l6Empty_any aa cc (len s) (p s) (m s) Y _ G2.out).mono ?_
                rintro e w2 ⟨r, rfl, hr, hb2⟩
                have HRR : Hid (r = true ↔ noMay (m s) (len s)) := hr
                replace HB : Hid (Blw wM w2) := HB.out.trans hb2
                clear hr hb2 G2
                cases r
                · have HN : Hid (¬ BD.Good ⟨t, c, ⟨j, len, p, m⟩⟩) := fun g => by have := HRR.out.2 ((HG.out.1 g).2.2.1 s hlt HNH.out); simp at this
                  clear HRR HO
                  go_wp2
                  go_ret
                  exact ⟨false, rfl, iff_f HN.out, HBL.out.trans HB.out⟩
                · have HN : Hid (∀ i, i < s + 1 → idleOK ⟨t, c, ⟨j, len, p, m⟩⟩ i) := fun i hi => by
                    by_cases e : i = s
                    · subst e; exact fun _ => HRR.out.1 (by first | rfl | trivial)
                    · exact HO.out i (by omega)
                  clear HRR HO HNH
                  go_wp2
                  go_roundw
                  case rel => exact ⟨s + 1, by omega, by go_num, HN.out, HB.out⟩
                  case measure => simp [intOf]; omega
              · have HN : Hid (∀ i, i < s + 1 → idleOK ⟨t, c, ⟨j, len, p, m⟩⟩ i) := fun i hi => by
                  by_cases e : i = s
                  · subst e; exact fun q => absurd (HRR.out.1 (by first | rfl | trivial)) q
                  · exact HO.out i (by omega)
                clear HRR HO G2
                go_wp2
                go_roundw
                case rel => exact ⟨s + 1, by omega, by go_num, HN.out, HB.out⟩
                case measure => simp [intOf]; omega
            · obtain rfl : s = j := by omega
              obtain ⟨p0, p1⟩ := get2 (HR0.out.blw HB.out)
              have HI : Hid (∀ i, i < s → idleOK ⟨t, c, ⟨s, len, p, m⟩⟩ i) := HO.out
              have HBF : Hid (Blw w wr) := HBL.out.trans HB.out
              clear HO HB hlt HUA HL
              by_cases h4 : t = 4
              case neg =>
                have HN : Hid (¬ BD.Good ⟨t, c, ⟨s, len, p, m⟩⟩) := fun g => h4 g.n
                have d4 : ((t : Int) == 4) = false := by simp; omega
                clear h4
                go_wp2
                go_ret
                exact ⟨false, rfl, iff_f HN.out, HBF.out⟩
              have d4 : ((t : Int) == 4) = true := by simp; omega
              have H4 : Hid (t = 4) := h4
              clear h4
              go_wp2_with fail
              refine (l1In_any (s : Int) 1 4 _).mono ?_
              rintro e wr ⟨r, rfl, hr, rfl⟩
              have HRR : Hid (r = true ↔ (1 ≤ (s : Int) ∧ (s : Int) ≤ 4)) := hr
              clear hr p0 p1
              have HFI : Hid (r = true ↔ BD.Good ⟨t, c, ⟨s, len, p, m⟩⟩) := HRR.out.trans ⟨fun q => HG.out.2 ⟨HL1.out, HT.out, HI.out, H4.out, by show 1 ≤ s; omega, by show s ≤ 4; omega⟩, fun g => ⟨by have := g.k.1; dsimp only at this; omega, by have := g.k.2; dsimp only at this; omega⟩⟩
              clear HRR d4
              go_wp2
              go_ret
              exact ⟨r, rfl, HFI.out, HBF.out⟩
end Go.Proofs.Ytjplodenflkghaa
