/- WalkTo: the model's, the program's, and the law. -/
import Derived.Test.YtjplodenflkghaaLawB
import Derived.Test.YtjplodenflkghaaFindI
import Derived.Test.YtjplodenflkghaaGood
namespace Go.Proofs.Ytjplodenflkghaa
open Go.RowKit
set_option linter.unusedSimpArgs false
set_option linter.unusedVariables false
def wtOK (B : BD) (a k : Int) : Prop := B.Good ∧ pgOK a ∧ mayOK k
/-- What a leaf may has all of k. -/
def hasMay (y k : Int) : Prop := bits .and .i64 y k = k
def wtOut (B : BD) (a k x y : Int) (r : Bool) : Prop := (¬ wtOK B a k ∧ x = 0 ∧ y = 0 ∧ r = false) ∨ (wtOK B a k ∧ y = lfP B.c B.D.m a.toNat ∧ ((hasMay (lfP B.c B.D.m a.toNat) k ∧ x = lfP B.c B.D.p a.toNat ∧ r = true) ∨ (¬ hasMay (lfP B.c B.D.m a.toNat) k ∧ x = 0 ∧ r = false)))
theorem wtOut_same {B : BD} {a k x y x' y' : Int} {r r' : Bool} (h : wtOut B a k x y r) (j : wtOut B a k x' y' r') : x = x' ∧ y = y' ∧ r = r' := by
  rcases h with ⟨g, rfl, rfl, rfl⟩ | ⟨g, rfl, h⟩
  · rcases j with ⟨_, rfl, rfl, rfl⟩ | ⟨g', _⟩
    · exact ⟨rfl, rfl, rfl⟩
    · exact absurd g' g
  · rcases j with ⟨g', _⟩ | ⟨_, rfl, j⟩
    · exact absurd g g'
    · rcases h with ⟨q, rfl, rfl⟩ | ⟨q, rfl, rfl⟩ <;> rcases j with ⟨q', rfl, rfl⟩ | ⟨q', rfl, rfl⟩
      · exact ⟨rfl, rfl, rfl⟩
      · exact absurd q q'
      · exact absurd q' q
      · exact ⟨rfl, rfl, rfl⟩
set_option maxHeartbeats 400000 in
theorem l6At_any (n : Int) (w : World) : Calls Try.prog 105 #[.int .i64 n] w fun e w' => ∃ r, e = .returned (.bool r) ∧ (r = true ↔ pgOK n) ∧ w' = w := by
  go_enter Try.func105, Try.ntmps105
  go_wp2_with fail
  refine (l1In_any n 0 15 _).mono ?_
  rintro e w' ⟨r, rfl, hr, hw⟩
  subst hw
  have HR : Hid (r = true ↔ pgOK n) := hr
  clear hr
  go_wp2
  go_ret
  exact ⟨r, rfl, HR.out, rfl⟩
set_option maxHeartbeats 3200000 in
theorem specWalk_any (b : BV) (B : BD) (a k : Int) (Y : Nat → Prop) (w : World) (hn : B.n ≤ 1048576) (h : BookAt Y w b B) :
    Calls Try.prog 90 #[b.val B, .int .i64 a, .int .i64 k] w fun e w' => ∃ x y r, e = .returned (.tuple #[.int .i64 x, .int .i64 y, .bool r]) ∧ wtOut B a k x y r ∧ Blw w w' := by
  have hb0 : Blw w (w.alloc (.cells #[.slice b.a1 B.n b.c1, .slice b.a2 B.D.n b.c2] 29)) := (Blw.refl _).alloc _
  have r0 := box2 w (.slice b.a1 B.n b.c1) (.slice b.a2 B.D.n b.c2) 29
  have HA : Hid (BookAt Y (w.alloc (.cells #[.slice b.a1 B.n b.c1, .slice b.a2 B.D.n b.c2] 29)) b B) := h.blw hb0
  clear h
  go_enter Try.func90, Try.ntmps90
  go_wp2_with fail
  refine (specGood_any b B Y _ hn HA.out).mono ?_
  rintro e w1 ⟨r, rfl, hr, hb1⟩
  have HT : Hid (r = true ↔ B.Good) := hr
  have HB : Hid (Blw w w1) := hb0.trans hb1
  have HR0 : Hid (Row w1 w.heap.size 2 (fun i => if i = 0 then .slice b.a1 B.n b.c1 else .slice b.a2 B.D.n b.c2)) := r0.blw hb1
  replace HA : Hid (BookAt Y w1 b B) := HA.out.blw hb1
  clear hr hb0 hb1 r0
  cases r
  · have HN : Hid (¬ B.Good) := fun g => by have := HT.out.2 g; simp at this
    clear HT
    go_wp2
    exact bodyPost_ret (v := .tuple #[.int .i64 0, .int .i64 0, .bool false]) (by simp [results, Try.results90, go_sem]) rfl ⟨_, _, _, rfl, Or.inl ⟨fun q => HN.out q.1, rfl, rfl, rfl⟩, HB.out⟩
  have HG : Hid (B.Good) := HT.out.1 (by first | rfl | trivial)
  clear HT
  go_wp2_with fail
  refine (l6At_any a _).mono ?_
  rintro e w1 ⟨r, rfl, hr, rfl⟩
  have HT : Hid (r = true ↔ pgOK a) := hr
  clear hr
  cases r
  · have HN : Hid (¬ pgOK a) := fun g => by have := HT.out.2 g; simp at this
    clear HT
    go_wp2
    exact bodyPost_ret (v := .tuple #[.int .i64 0, .int .i64 0, .bool false]) (by simp [results, Try.results90, go_sem]) rfl ⟨_, _, _, rfl, Or.inl ⟨fun q => HN.out q.2.1, rfl, rfl, rfl⟩, HB.out⟩
  have H1 : Hid (pgOK a) := HT.out.1 (by first | rfl | trivial)
  clear HT
  go_wp2_with fail
  refine (l1In_any k 1 3 _).mono ?_
  rintro e w1 ⟨r, rfl, hr, rfl⟩
  have HT : Hid (r = true ↔ (1 ≤ k ∧ k ≤ 3)) := hr
  clear hr
  cases r
  · have HN : Hid (¬ (1 ≤ k ∧ k ≤ 3)) := fun g => by have := HT.out.2 g; simp at this
    clear HT
    go_wp2
    exact bodyPost_ret (v := .tuple #[.int .i64 0, .int .i64 0, .bool false]) (by simp [results, Try.results90, go_sem]) rfl ⟨_, _, _, rfl, Or.inl ⟨fun q => HN.out q.2.2, rfl, rfl, rfl⟩, HB.out⟩
  have H2 : Hid (mayOK k) := HT.out.1 (by first | rfl | trivial)
  clear HT
  obtain ⟨n, c, ⟨kn, len, p, m⟩⟩ := B
  obtain ⟨a1, a2, q1, q2⟩ := b
  have hn4 : n = 4 := HG.out.n
  subst hn4
  simp only [BV.val] at *
  obtain ⟨x, hx, hx16⟩ : ∃ x : Nat, a = x ∧ x < 16 := ⟨a.toNat, by have := H1.out; unfold pgOK at this; omega, by have := H1.out; unfold pgOK at this; omega⟩
  subst hx
  obtain ⟨p0, p1⟩ := get2 HR0.out
  go_wp2_with fail
  clear p0 p1
  refine (l6Find_any ⟨a1, a2, q1, q2⟩ c kn len p m x Y _ HG.out hx16 HA.out).mono ?_
  rintro e w2 ⟨rfl, hb2⟩
  have hA : Blw w2 (w2.alloc (.cells #[.int .i64 (lfP c p x), .int .i64 (lfP c m x)] 144)) := (Blw.refl _).alloc _
  obtain ⟨l0, l1⟩ := get2 (box2 w2 (.int .i64 (lfP c p x)) (.int .i64 (lfP c m x)) 144)
  have L0 : ∀ w', Blw (w2.alloc (.cells #[.int .i64 (lfP c p x), .int .i64 (lfP c m x)] 144)) w' → w'.cell? ⟨w2.heap.size, 0, none⟩ = some (.int .i64 (lfP c p x)) := fun w' hh => hh.cell l0
  have L1 : ∀ w', Blw (w2.alloc (.cells #[.int .i64 (lfP c p x), .int .i64 (lfP c m x)] 144)) w' → w'.cell? ⟨w2.heap.size, 1, none⟩ = some (.int .i64 (lfP c m x)) := fun w' hh => hh.cell l1
  have HW : Hid (Blw w (w2.alloc (.cells #[.int .i64 (lfP c p x), .int .i64 (lfP c m x)] 144))) := (HB.out.trans hb2).trans hA
  have OKK : Hid (wtOK ⟨4, c, ⟨kn, len, p, m⟩⟩ (x : Int) k) := ⟨HG.out, H1.out, H2.out⟩
  clear hb2 hA
  by_cases hm : hasMay (lfP c m x) k
  · have HM : Hid (hasMay (lfP c m x) k) := hm
    have d1 : (bits .and .i64 (lfP c m x) k != k) = false := by rw [show bits .and .i64 (lfP c m x) k = k from hm]; simp
    clear hm
    go_wp2_with fail
    go_quiet (fail)
    go_wp2
    exact bodyPost_ret (v := .tuple #[.int .i64 (lfP c p x), .int .i64 (lfP c m x), .bool true]) (by simp [results, Try.results90, go_sem]) rfl ⟨_, _, _, rfl, Or.inr ⟨OKK.out, by rw [Int.toNat_natCast], Or.inl ⟨by rw [Int.toNat_natCast]; exact HM.out, by rw [Int.toNat_natCast], rfl⟩⟩, HW.out.drewN _⟩
  · have HM : Hid (¬ hasMay (lfP c m x) k) := hm
    have d1 : (bits .and .i64 (lfP c m x) k != k) = true := by simp; exact hm
    clear hm
    go_wp2_with fail
    go_quiet (fail)
    go_wp2
    exact bodyPost_ret (v := .tuple #[.int .i64 0, .int .i64 (lfP c m x), .bool false]) (by simp [results, Try.results90, go_sem]) rfl ⟨_, _, _, rfl, Or.inr ⟨OKK.out, by rw [Int.toNat_natCast], Or.inr ⟨by rw [Int.toNat_natCast]; exact HM.out, rfl, rfl⟩⟩, HW.out.drewN _⟩
/-- What a look-up in a held table tells. -/
def luOut (c : Nat → Int) (p m : Nat → Nat → Int) (a : Nat) (k x y : Int) (r : Bool) : Prop :=
  y = lfP c m a ∧ ((hasMay (lfP c m a) k ∧ x = lfP c p a ∧ r = true) ∨ (¬ hasMay (lfP c m a) k ∧ x = 0 ∧ r = false))
set_option maxHeartbeats 3200000 in
theorem lookUp_any (c : Nat → Int) (zl kn : Nat) (p m : Nat → Nat → Int) (a : Nat) (k : Int) (w : World) (hk : kn ≤ 4) (ht : ∀ i, i < 4 → -1 ≤ c i ∧ c i ≤ (kn : Int) - 1) (ha : a < 16) (h : Row w zl (kn * 8) (lc p m)) :
    Calls Try.prog 104 #[.agg (held5 c zl kn), .int .i64 a, .int .i64 k] w fun e w' => ∃ x y r, e = .returned (.tuple #[.int .i64 x, .int .i64 y, .bool r]) ∧ luOut c p m a k x y r ∧ Blw w w' := by
  have hA : Blw w (w.alloc (.cells (held5 c zl kn) 129)) := (Blw.refl _).alloc _
  have HR5 : Hid (Row (w.alloc (.cells (held5 c zl kn) 129)) w.heap.size 5 (row5f c (.slice (some ⟨zl, 0, none⟩) kn kn))) := row5 w (.int .i64 (c 0)) (.int .i64 (c 1)) (.int .i64 (c 2)) (.int .i64 (c 3)) (.slice (some ⟨zl, 0, none⟩) kn kn) 129
  have HRL : Hid (Row (w.alloc (.cells (held5 c zl kn) 129)) zl (kn * 8) (lc p m)) := h.blw hA
  have HB : Hid (Blw w (w.alloc (.cells (held5 c zl kn) 129))) := hA
  have HTT : Hid (∀ i, i < 4 → -1 ≤ c i ∧ c i ≤ (kn : Int) - 1) := ht
  clear h hA ht
  go_enter Try.func104, Try.ntmps104
  obtain ⟨p0, p1, p2, p3, p4⟩ := get5 HR5.out
  go_wp2_with fail
  clear p0 p1 p2 p3 p4
  refine (leafAt_any c zl kn p m a _ hk HTT.out ha HRL.out).mono ?_
  rintro e w3 ⟨rfl, hb2⟩
  have hA : Blw w3 (w3.alloc (.cells #[.int .i64 (lfP c p a), .int .i64 (lfP c m a)] 144)) := (Blw.refl _).alloc _
  obtain ⟨l0, l1⟩ := get2 (box2 w3 (.int .i64 (lfP c p a)) (.int .i64 (lfP c m a)) 144)
  have L0 : ∀ w', Blw (w3.alloc (.cells #[.int .i64 (lfP c p a), .int .i64 (lfP c m a)] 144)) w' → w'.cell? ⟨w3.heap.size, 0, none⟩ = some (.int .i64 (lfP c p a)) := fun w' hh => hh.cell l0
  have L1 : ∀ w', Blw (w3.alloc (.cells #[.int .i64 (lfP c p a), .int .i64 (lfP c m a)] 144)) w' → w'.cell? ⟨w3.heap.size, 1, none⟩ = some (.int .i64 (lfP c m a)) := fun w' hh => hh.cell l1
  have HW : Hid (Blw w (w3.alloc (.cells #[.int .i64 (lfP c p a), .int .i64 (lfP c m a)] 144))) := (HB.out.trans hb2).trans hA
  clear hb2 hA
  by_cases hm : hasMay (lfP c m a) k
  · have HM : Hid (hasMay (lfP c m a) k) := hm
    have d1 : (bits .and .i64 (lfP c m a) k != k) = false := by rw [show bits .and .i64 (lfP c m a) k = k from hm]; simp
    clear hm
    go_wp2_with fail
    go_quiet (fail)
    go_wp2
    exact bodyPost_ret (v := .tuple #[.int .i64 (lfP c p a), .int .i64 (lfP c m a), .bool true]) (by simp [results, Try.results104, go_sem]) rfl ⟨_, _, _, rfl, ⟨rfl, Or.inl ⟨HM.out, rfl, rfl⟩⟩, by first | exact HW.out.drewN _ | exact HW.out | exact HW.out.drew⟩
  · have HM : Hid (¬ hasMay (lfP c m a) k) := hm
    have d1 : (bits .and .i64 (lfP c m a) k != k) = true := by simp; exact hm
    clear hm
    go_wp2_with fail
    go_quiet (fail)
    go_wp2
    exact bodyPost_ret (v := .tuple #[.int .i64 0, .int .i64 (lfP c m a), .bool false]) (by simp [results, Try.results104, go_sem]) rfl ⟨_, _, _, rfl, ⟨rfl, Or.inr ⟨HM.out, rfl, rfl⟩⟩, by first | exact HW.out.drewN _ | exact HW.out | exact HW.out.drew⟩
set_option maxHeartbeats 3200000 in
theorem implWalk_any (b : BV) (B : BD) (a k : Int) (Y : Nat → Prop) (w : World) (h : BookAt Y w b B) (hY : ∀ x, Y x → x < w.heap.size) :
    Calls Try.prog 28 #[b.val B, .int .i64 a, .int .i64 k] w fun e w' => ∃ x y r, e = .returned (.tuple #[.int .i64 x, .int .i64 y, .bool r]) ∧ wtOut B a k x y r ∧ Blw w w' := by
  have hb0 : Blw w (w.alloc (.cells #[.slice b.a1 B.n b.c1, .slice b.a2 B.D.n b.c2] 29)) := (Blw.refl _).alloc _
  have HA : Hid (BookAt Y (w.alloc (.cells #[.slice b.a1 B.n b.c1, .slice b.a2 B.D.n b.c2] 29)) b B) := h.blw hb0
  clear h
  go_enter Try.func28, Try.ntmps28
  go_wp2_with fail
  refine (hold_any b B Y _ HA.out (fun x hx => by have := hY x hx; simp; omega)).mono ?_
  rintro e w1 ⟨h1, hb1⟩
  replace hb1 := hb0.trans hb1
  clear hb0 HA
  rcases h1 with ⟨z, hg, rfl, hrow, -⟩ | ⟨hg, rfl⟩
  case inr =>
    have HG : Hid (¬ B.Good) := hg
    have HB : Hid (Blw w (w1.alloc (.cells zero5 129))) := hb1.alloc _
    clear hg hb1
    go_wp2
    exact bodyPost_ret (v := .tuple #[.int .i64 0, .int .i64 0, .bool false]) (by simp [results, Try.results28, go_sem]) rfl ⟨_, _, _, rfl, Or.inl ⟨fun q => HG.out q.1, rfl, rfl, rfl⟩, HB.out⟩
  have HG : Hid B.Good := hg
  have hA : Blw w1 (w1.alloc (.cells (held5 B.c z B.D.n) 129)) := (Blw.refl _).alloc _
  have HR5 : Hid (Row (w1.alloc (.cells (held5 B.c z B.D.n) 129)) w1.heap.size 5 (row5f B.c (.slice (some ⟨z, 0, none⟩) B.D.n B.D.n))) := row5 w1 (.int .i64 (B.c 0)) (.int .i64 (B.c 1)) (.int .i64 (B.c 2)) (.int .i64 (B.c 3)) (.slice (some ⟨z, 0, none⟩) B.D.n B.D.n) 129
  have HB : Hid (Blw w (w1.alloc (.cells (held5 B.c z B.D.n) 129))) := hb1.trans hA
  have HRL : Hid (Row (w1.alloc (.cells (held5 B.c z B.D.n) 129)) z (B.D.n * 8) (lc B.D.p B.D.m)) := hrow.blw hA
  clear hg hA hb1 hrow
  go_wp2_with fail
  generalize w1.heap.size = z9 at *
  generalize w1.alloc (.cells (held5 B.c z B.D.n) 129) = w2 at *
  refine (isPlace_any a _).mono ?_
  rintro e w2 ⟨r, rfl, hr, rfl⟩
  have HT : Hid (r = true ↔ pgOK a) := hr
  clear hr
  cases r
  · have HN : Hid (¬ pgOK a) := fun g => by have := HT.out.2 g; simp at this
    clear HT
    go_wp2
    exact bodyPost_ret (v := .tuple #[.int .i64 0, .int .i64 0, .bool false]) (by simp [results, Try.results28, go_sem]) rfl ⟨_, _, _, rfl, Or.inl ⟨fun q => HN.out q.2.1, rfl, rfl, rfl⟩, HB.out⟩
  have H1 : Hid (pgOK a) := HT.out.1 (by first | rfl | trivial)
  clear HT
  go_wp2_with fail
  refine (isMay_any k _).mono ?_
  rintro e w2 ⟨r, rfl, hr, rfl⟩
  have HT : Hid (r = true ↔ mayOK k) := hr
  clear hr
  cases r
  · have HN : Hid (¬ mayOK k) := fun g => by have := HT.out.2 g; simp at this
    clear HT
    go_wp2
    exact bodyPost_ret (v := .tuple #[.int .i64 0, .int .i64 0, .bool false]) (by simp [results, Try.results28, go_sem]) rfl ⟨_, _, _, rfl, Or.inl ⟨fun q => HN.out q.2.2, rfl, rfl, rfl⟩, HB.out⟩
  have H2 : Hid (mayOK k) := HT.out.1 (by first | rfl | trivial)
  clear HT
  obtain ⟨n, c, ⟨kn, len, p, m⟩⟩ := B
  obtain ⟨a1, a2, q1, q2⟩ := b
  have hn4 : n = 4 := HG.out.n
  subst hn4
  have hk4 : kn ≤ 4 := HG.out.k.2
  simp only [BV.val] at *
  obtain ⟨x, hx, hx16⟩ : ∃ x : Nat, a = x ∧ x < 16 := ⟨a.toNat, by have := H1.out; unfold pgOK at this; omega, by have := H1.out; unfold pgOK at this; omega⟩
  subst hx
  obtain ⟨p0, p1, p2, p3, p4⟩ := get5 HR5.out
  go_wp2_with fail
  clear p0 p1 p2 p3 p4
  refine (lookUp_any c z kn p m x k _ hk4 (fun i hi => HG.out.top i hi) hx16 HRL.out).mono ?_
  rintro e w3 ⟨x3, y3, r3, rfl, hl, hb3⟩
  have FIN : Hid (∃ x' y' r', (Ending.returned (.tuple #[.int .i64 x3, .int .i64 y3, .bool r3])) = .returned (.tuple #[.int .i64 x', .int .i64 y', .bool r']) ∧ wtOut ⟨4, c, ⟨kn, len, p, m⟩⟩ (x : Int) k x' y' r' ∧ Blw w w3) :=
    ⟨x3, y3, r3, rfl, Or.inr ⟨⟨HG.out, H1.out, H2.out⟩, by rw [Int.toNat_natCast]; exact hl.1, by rw [Int.toNat_natCast]; exact hl.2⟩, HB.out.trans hb3⟩
  clear hl hb3 HB HRL HR5
  go_wp2
  exact bodyPost_ret (v := .tuple #[.int .i64 x3, .int .i64 y3, .bool r3]) (by simp [results, Try.results28, go_sem]) rfl FIN.out
end Go.Proofs.Ytjplodenflkghaa
