/- Nests: good ones, and walks through both: the model's and the program's. -/
import Derived.Test.YtjplodenflkghaaNstT
import Derived.Test.YtjplodenflkghaaFlatF
import Derived.Test.YtjplodenflkghaaWalk
namespace Go.Proofs.Ytjplodenflkghaa
open Go.RowKit
set_option linter.unusedSimpArgs false
set_option linter.unusedVariables false
/-- What is told of a nest. -/
abbrev ND.Good (D : ND) : Prop := NGood D.G D.H
theorem wideOK {B : BD} : (B.Good ∧ B.D.n = 4) ∨ ¬ (B.Good ∧ B.D.n = 4) := Classical.em _
set_option maxHeartbeats 3200000 in
theorem specGoodN_any (v : NV) (D : ND) (Y : Nat → Prop) (w : World) (hg : D.G.n ≤ 1048576) (hh : D.H.n ≤ 1048576) (h : NAt Y w v D) :
    Calls Try.prog 70 #[v.val D] w fun e w' => ∃ r, e = .returned (.bool r) ∧ (r = true ↔ D.Good) ∧ Blw w w' := by
  have hb0 : Blw w (w.alloc (.cells #[.slice v.g.a1 D.G.n v.g.c1, .slice v.g.a2 D.G.D.n v.g.c2, .slice v.h.a1 D.H.n v.h.c1, .slice v.h.a2 D.H.D.n v.h.c2] 60)) := (Blw.refl _).alloc _
  have HN : Hid (NAt Y (w.alloc (.cells #[.slice v.g.a1 D.G.n v.g.c1, .slice v.g.a2 D.G.D.n v.g.c2, .slice v.h.a1 D.H.n v.h.c1, .slice v.h.a2 D.H.D.n v.h.c2] 60)) v D) := h.blw hb0
  have HR : Hid (Row (w.alloc (.cells #[.slice v.g.a1 D.G.n v.g.c1, .slice v.g.a2 D.G.D.n v.g.c2, .slice v.h.a1 D.H.n v.h.c1, .slice v.h.a2 D.H.D.n v.h.c2] 60)) w.heap.size 4 (nb v D)) := box4 w _ _ _ _ 60
  have HB : Hid (Blw w (w.alloc (.cells #[.slice v.g.a1 D.G.n v.g.c1, .slice v.g.a2 D.G.D.n v.g.c2, .slice v.h.a1 D.H.n v.h.c1, .slice v.h.a2 D.H.D.n v.h.c2] 60))) := hb0
  clear h hb0
  go_enter Try.func70, Try.ntmps70
  obtain ⟨p0, p1, p2, p3⟩ := get4 HR.out
  go_wp2_with fail
  clear p0 p1 p2 p3
  refine (specGood_any v.g D.G Y _ hg HN.out.g).mono ?_
  rintro e w1 ⟨r, rfl, hr, hb1⟩
  have HT : Hid (r = true ↔ D.G.Good) := hr
  replace HN : Hid (NAt Y w1 v D) := HN.out.blw hb1
  replace HR : Hid (Row w1 w.heap.size 4 (nb v D)) := HR.out.blw hb1
  replace HB : Hid (Blw w w1) := HB.out.trans hb1
  clear hb1 hr
  cases r
  · have HNG : Hid (¬ D.Good) := fun g => by have := HT.out.2 g.g; simp at this
    clear HT HN HR
    go_wp2
    exact bodyPost_ret (v := .bool false) (by simp [results, Try.results70, go_sem]) rfl ⟨_, rfl, iff_f HNG.out, HB.out⟩
  have HG : Hid D.G.Good := HT.out.1 (by first | rfl | trivial)
  clear HT
  obtain ⟨p0, p1, p2, p3⟩ := get4 HR.out
  go_wp2_with fail
  clear p0 p1 p2 p3
  refine (specGood_any v.h D.H Y _ hh HN.out.h).mono ?_
  rintro e w2 ⟨r, rfl, hr, hb1⟩
  have HT : Hid (r = true ↔ D.H.Good) := hr
  replace HN : Hid (NAt Y w2 v D) := HN.out.blw hb1
  replace HR : Hid (Row w2 w.heap.size 4 (nb v D)) := HR.out.blw hb1
  replace HB : Hid (Blw w w2) := HB.out.trans hb1
  clear hb1 hr
  cases r
  · have HNG : Hid (¬ D.Good) := fun g => by have := HT.out.2 g.h; simp at this
    clear HT HN HR
    go_wp2
    exact bodyPost_ret (v := .bool false) (by simp [results, Try.results70, go_sem]) rfl ⟨_, rfl, iff_f HNG.out, HB.out⟩
  have HH : Hid D.H.Good := HT.out.1 (by first | rfl | trivial)
  clear HT HN
  obtain ⟨p0, p1, p2, p3⟩ := get4 HR.out
  clear HR
  by_cases d1 : D.G.D.n = 4
  case neg =>
    have e1 : (((D.G.D.n : Nat) : Int) == 4) = false := by simp; omega
    have HNG : Hid (¬ D.Good) := fun g => d1 g.ng
    clear d1 HG HH
    go_wp2
    exact bodyPost_ret (v := .bool false) (by simp [results, Try.results70, go_sem]) rfl ⟨_, rfl, iff_f HNG.out, HB.out⟩
  have D1 : Hid (D.G.D.n = 4) := d1
  have e1 : (((D.G.D.n : Nat) : Int) == 4) = true := by simp; omega
  clear d1
  by_cases d2 : D.H.D.n = 4
  case neg =>
    have e2 : (((D.H.D.n : Nat) : Int) == 4) = false := by simp; omega
    have HNG : Hid (¬ D.Good) := fun g => d2 g.nh
    clear d2 HG HH D1
    go_wp2
    exact bodyPost_ret (v := .bool false) (by simp [results, Try.results70, go_sem]) rfl ⟨_, rfl, iff_f HNG.out, HB.out⟩
  have e2 : (((D.H.D.n : Nat) : Int) == 4) = true := by simp; omega
  have HGG : Hid D.Good := ⟨HG.out, HH.out, D1.out, d2⟩
  clear d2 HG HH D1
  go_wp2
  exact bodyPost_ret (v := .bool true) (by simp [results, Try.results70, go_sem]) rfl ⟨_, rfl, iff_t HGG.out, HB.out⟩
theorem l6FindB_any (b : BV) (B : BD) (a : Nat) (Y : Nat → Prop) (w : World) (g : B.Good) (ha : a < 16) (h : BookAt Y w b B) :
    Calls Try.prog 114 #[b.val B, .int .i64 a] w fun e w' => e = .returned (.agg #[.int .i64 (gP B a), .int .i64 (gM B a)]) ∧ Blw w w' := by
  obtain ⟨n, c, ⟨kn, len, p, m⟩⟩ := B
  have hn4 : n = 4 := g.n
  subst hn4
  exact l6Find_any b c kn len p m a Y w g ha h
set_option maxHeartbeats 3200000 in
theorem l8Walk_any (v : NV) (D : ND) (a : Nat) (k : Int) (Y : Nat → Prop) (w : World) (g : D.Good) (ha : a < 16) (h : NAt Y w v D) :
    Calls Try.prog 118 #[v.val D, .int .i64 a, .int .i64 k] w fun e w' => ∃ x c, e = .returned (.tuple #[.int .i64 x, .int .i64 c]) ∧ nwOut D.G D.H a k x c ∧ Blw w w' := by
  have hb0 : Blw w (w.alloc (.cells #[.slice v.g.a1 D.G.n v.g.c1, .slice v.g.a2 D.G.D.n v.g.c2, .slice v.h.a1 D.H.n v.h.c1, .slice v.h.a2 D.H.D.n v.h.c2] 60)) := (Blw.refl _).alloc _
  have HN : Hid (NAt Y (w.alloc (.cells #[.slice v.g.a1 D.G.n v.g.c1, .slice v.g.a2 D.G.D.n v.g.c2, .slice v.h.a1 D.H.n v.h.c1, .slice v.h.a2 D.H.D.n v.h.c2] 60)) v D) := h.blw hb0
  have HR : Hid (Row (w.alloc (.cells #[.slice v.g.a1 D.G.n v.g.c1, .slice v.g.a2 D.G.D.n v.g.c2, .slice v.h.a1 D.H.n v.h.c1, .slice v.h.a2 D.H.D.n v.h.c2] 60)) w.heap.size 4 (nb v D)) := box4 w _ _ _ _ 60
  have HB : Hid (Blw w (w.alloc (.cells #[.slice v.g.a1 D.G.n v.g.c1, .slice v.g.a2 D.G.D.n v.g.c2, .slice v.h.a1 D.H.n v.h.c1, .slice v.h.a2 D.H.D.n v.h.c2] 60))) := hb0
  have HG : Hid D.Good := g
  clear h hb0 g
  go_enter Try.func118, Try.ntmps118
  obtain ⟨p0, p1, p2, p3⟩ := get4 HR.out
  go_wp2_with fail
  clear p0 p1 p2 p3
  refine (l6FindB_any v.g D.G a Y _ HG.out.g ha HN.out.g).mono ?_
  rintro e w1 ⟨rfl, hb1⟩
  have hA : Blw w1 (w1.alloc (.cells #[.int .i64 (gP D.G a), .int .i64 (gM D.G a)] 144)) := (Blw.refl _).alloc _
  obtain ⟨q0, q1⟩ := get2 (box2 w1 (.int .i64 (gP D.G a)) (.int .i64 (gM D.G a)) 144)
  have hgp : 0 ≤ gP D.G a ∧ gP D.G a ≤ 15 := (leafs HG.out.g ha).1
  obtain ⟨y, hy⟩ : ∃ y : Nat, gP D.G a = y := ⟨(gP D.G a).toNat, by omega⟩
  have hy16 : y < 16 := by omega
  have HY : Hid (gP D.G a = (y : Int)) := hy
  replace HN : Hid (NAt Y (w1.alloc (.cells #[.int .i64 (gP D.G a), .int .i64 (gM D.G a)] 144)) v D) := (HN.out.blw hb1).blw hA
  replace HR : Hid (Row (w1.alloc (.cells #[.int .i64 (gP D.G a), .int .i64 (gM D.G a)] 144)) w.heap.size 4 (nb v D)) := (HR.out.blw hb1).blw hA
  replace HB : Hid (Blw w (w1.alloc (.cells #[.int .i64 (gP D.G a), .int .i64 (gM D.G a)] 144))) := (HB.out.trans hb1).trans hA
  have HQ : Hid (Row (w1.alloc (.cells #[.int .i64 (gP D.G a), .int .i64 (gM D.G a)] 144)) w1.heap.size 2 (fun i => if i = 0 then .int .i64 (gP D.G a) else .int .i64 (gM D.G a))) := box2 w1 _ _ 144
  clear hb1 hA hgp
  by_cases hm : hasMay (gM D.G a) k
  case neg =>
    have HM : Hid (¬ hasMay (gM D.G a) k) := hm
    have d1 : (bits .and .i64 (gM D.G a) k != k) = true := by simp; exact hm
    clear hm hy
    go_wp2
    exact bodyPost_ret (v := .tuple #[.int .i64 0, .int .i64 1]) (by simp [results, Try.results118, go_sem]) rfl ⟨_, _, rfl, Or.inl ⟨HM.out, rfl, rfl⟩, HB.out⟩
  have HM : Hid (hasMay (gM D.G a) k) := hm
  have d1 : (bits .and .i64 (gM D.G a) k != k) = false := by rw [show bits .and .i64 (gM D.G a) k = k from hm]; simp
  clear hm hy
  go_upto_region 2 with fail
  generalize (w1.alloc (.cells #[.int .i64 (gP D.G a), .int .i64 (gM D.G a)] 144)) = w2 at *
  generalize w1.heap.size = zl at *
  rw [HY.out] at q0
  obtain ⟨p0, p1, p2, p3⟩ := get4 HR.out
  go_wp2_with fail
  clear p0 p1 p2 p3 q0 q1 d1
  refine (l6FindB_any v.h D.H y Y _ HG.out.h hy16 HN.out.h).mono ?_
  rintro e w3 ⟨rfl, hb3⟩
  have hA : Blw w3 (w3.alloc (.cells #[.int .i64 (gP D.H y), .int .i64 (gM D.H y)] 144)) := (Blw.refl _).alloc _
  obtain ⟨q0, q1⟩ := get2 (box2 w3 (.int .i64 (gP D.H y)) (.int .i64 (gM D.H y)) 144)
  replace HB : Hid (Blw w (w3.alloc (.cells #[.int .i64 (gP D.H y), .int .i64 (gM D.H y)] 144))) := (HB.out.trans hb3).trans hA
  have HX : Hid (fX D.G D.H a = gP D.H y) := by show gP D.H (gP D.G a).toNat = _; rw [HY.out, Int.toNat_natCast]
  have HYN : Hid ((gP D.G a).toNat = y) := by show _ = _; rw [HY.out, Int.toNat_natCast]
  clear hb3 hA HQ HR HN
  by_cases hm : hasMay (gM D.H y) k
  · have HM2 : Hid (hasMay (gM D.H y) k) := hm
    have d1 : (bits .and .i64 (gM D.H y) k != k) = false := by rw [show bits .and .i64 (gM D.H y) k = k from hm]; simp
    clear hm
    go_wp2
    exact bodyPost_ret (v := .tuple #[.int .i64 (gP D.H y), .int .i64 0]) (by simp [results, Try.results118, go_sem]) rfl ⟨_, _, rfl, Or.inr (Or.inr ⟨HM.out, by rw [HYN.out]; exact HM2.out, HX.out.symm, rfl⟩), HB.out⟩
  · have HM2 : Hid (¬ hasMay (gM D.H y) k) := hm
    have d1 : (bits .and .i64 (gM D.H y) k != k) = true := by simp; exact hm
    clear hm
    go_wp2
    exact bodyPost_ret (v := .tuple #[.int .i64 0, .int .i64 2]) (by simp [results, Try.results118, go_sem]) rfl ⟨_, _, rfl, Or.inr (Or.inl ⟨HM.out, by rw [HYN.out]; exact HM2.out, rfl, rfl⟩), HB.out⟩
/-- What WalkNest tells. -/
def wnOut (D : ND) (a k x c : Int) (r : Bool) : Prop :=
  (¬ (D.Good ∧ pgOK a ∧ mayOK k) ∧ x = 0 ∧ c = 0 ∧ r = false) ∨ ((D.Good ∧ pgOK a ∧ mayOK k) ∧ nwOut D.G D.H a.toNat k x c ∧ r = true)
theorem wnOut_same {D : ND} {a k x c x' c' : Int} {r r' : Bool} (h : wnOut D a k x c r) (h' : wnOut D a k x' c' r') : x = x' ∧ c = c' ∧ r = r' := by
  rcases h with ⟨n, rfl, rfl, rfl⟩ | ⟨n, h, rfl⟩ <;> rcases h' with ⟨n', rfl, rfl, rfl⟩ | ⟨n', h', rfl⟩
  · exact ⟨rfl, rfl, rfl⟩
  · exact absurd n' n
  · exact absurd n n'
  · obtain ⟨e1, e2⟩ := nwOut_same h h'
    exact ⟨e1, e2, rfl⟩
set_option maxHeartbeats 3200000 in
theorem specWalkN_any (v : NV) (D : ND) (a k : Int) (Y : Nat → Prop) (w : World) (hg : D.G.n ≤ 1048576) (hh : D.H.n ≤ 1048576) (h : NAt Y w v D) :
    Calls Try.prog 45 #[v.val D, .int .i64 a, .int .i64 k] w fun e w' => ∃ x c r, e = .returned (.tuple #[.int .i64 x, .int .i64 c, .bool r]) ∧ wnOut D a k x c r ∧ Blw w w' := by
  have hb0 : Blw w (w.alloc (.cells #[.slice v.g.a1 D.G.n v.g.c1, .slice v.g.a2 D.G.D.n v.g.c2, .slice v.h.a1 D.H.n v.h.c1, .slice v.h.a2 D.H.D.n v.h.c2] 60)) := (Blw.refl _).alloc _
  have HN : Hid (NAt Y (w.alloc (.cells #[.slice v.g.a1 D.G.n v.g.c1, .slice v.g.a2 D.G.D.n v.g.c2, .slice v.h.a1 D.H.n v.h.c1, .slice v.h.a2 D.H.D.n v.h.c2] 60)) v D) := h.blw hb0
  have HR : Hid (Row (w.alloc (.cells #[.slice v.g.a1 D.G.n v.g.c1, .slice v.g.a2 D.G.D.n v.g.c2, .slice v.h.a1 D.H.n v.h.c1, .slice v.h.a2 D.H.D.n v.h.c2] 60)) w.heap.size 4 (nb v D)) := box4 w _ _ _ _ 60
  have HB : Hid (Blw w (w.alloc (.cells #[.slice v.g.a1 D.G.n v.g.c1, .slice v.g.a2 D.G.D.n v.g.c2, .slice v.h.a1 D.H.n v.h.c1, .slice v.h.a2 D.H.D.n v.h.c2] 60))) := hb0
  clear h hb0
  go_enter Try.func45, Try.ntmps45
  obtain ⟨p0, p1, p2, p3⟩ := get4 HR.out
  go_wp2_with fail
  clear p0 p1 p2 p3
  refine (specGoodN_any v D Y _ hg hh HN.out).mono ?_
  rintro e w1 ⟨r, rfl, hr, hb1⟩
  have HT : Hid (r = true ↔ D.Good) := hr
  replace HN : Hid (NAt Y w1 v D) := HN.out.blw hb1
  replace HR : Hid (Row w1 w.heap.size 4 (nb v D)) := HR.out.blw hb1
  replace HB : Hid (Blw w w1) := HB.out.trans hb1
  clear hb1 hr
  cases r
  · have HNG : Hid (¬ D.Good) := fun g => by have := HT.out.2 g; simp at this
    clear HT HN HR
    go_wp2
    exact bodyPost_ret (v := .tuple #[.int .i64 0, .int .i64 0, .bool false]) (by simp [results, Try.results45, go_sem]) rfl ⟨_, _, _, rfl, Or.inl ⟨fun q => HNG.out q.1, rfl, rfl, rfl⟩, HB.out⟩
  have HG : Hid D.Good := HT.out.1 (by first | rfl | trivial)
  clear HT
  go_wp2_with fail
  refine (l6At_any a _).mono ?_
  rintro e w1 ⟨r, rfl, hr, rfl⟩
  have HT : Hid (r = true ↔ pgOK a) := hr
  clear hr
  cases r
  · have HNG : Hid (¬ pgOK a) := fun g => by have := HT.out.2 g; simp at this
    clear HT HN HR
    go_wp2
    exact bodyPost_ret (v := .tuple #[.int .i64 0, .int .i64 0, .bool false]) (by simp [results, Try.results45, go_sem]) rfl ⟨_, _, _, rfl, Or.inl ⟨fun q => HNG.out q.2.1, rfl, rfl, rfl⟩, HB.out⟩
  have H1 : Hid (pgOK a) := HT.out.1 (by first | rfl | trivial)
  clear HT
  go_wp2_with fail
  refine (l1In_any k 1 3 _).mono ?_
  rintro e w1 ⟨r, rfl, hr, rfl⟩
  have HT : Hid (r = true ↔ (1 ≤ k ∧ k ≤ 3)) := hr
  clear hr
  cases r
  · have HNG : Hid (¬ (1 ≤ k ∧ k ≤ 3)) := fun g => by have := HT.out.2 g; simp at this
    clear HT HN HR
    go_wp2
    exact bodyPost_ret (v := .tuple #[.int .i64 0, .int .i64 0, .bool false]) (by simp [results, Try.results45, go_sem]) rfl ⟨_, _, _, rfl, Or.inl ⟨fun q => HNG.out q.2.2, rfl, rfl, rfl⟩, HB.out⟩
  have H2 : Hid (mayOK k) := HT.out.1 (by first | rfl | trivial)
  clear HT
  obtain ⟨x, hx, hx16⟩ : ∃ x : Nat, a = x ∧ x < 16 := ⟨a.toNat, by have := H1.out; unfold pgOK at this; omega, by have := H1.out; unfold pgOK at this; omega⟩
  subst hx
  obtain ⟨p0, p1, p2, p3⟩ := get4 HR.out
  go_wp2_with fail
  clear p0 p1 p2 p3
  refine (l8Walk_any v D x k Y _ HG.out hx16 HN.out).mono ?_
  rintro e w2 ⟨p, c, rfl, ho, hb2⟩
  have FIN : Hid (∃ x' c' r, (Ending.returned (.tuple #[.int .i64 p, .int .i64 c, .bool true])) = .returned (.tuple #[.int .i64 x', .int .i64 c', .bool r]) ∧ wnOut D (x : Int) k x' c' r ∧ Blw w w2) := ⟨p, c, true, rfl, Or.inr ⟨⟨HG.out, H1.out, H2.out⟩, by rw [Int.toNat_natCast]; exact ho, rfl⟩, HB.out.trans hb2⟩
  clear ho hb2 HB HN HR
  go_wp2
  exact bodyPost_ret (v := .tuple #[.int .i64 p, .int .i64 c, .bool true]) (by simp [results, Try.results45, go_sem]) rfl FIN.out
end Go.Proofs.Ytjplodenflkghaa
