/- FnIsolated: facts, and what it draws. -/
import Derived.Test.YtjplodenflkghaaJoin11
namespace Go.Proofs.Ytjplodenflkghaa
open Go.RowKit
set_option linter.unusedSimpArgs false
set_option linter.unusedVariables false
set_option maxHeartbeats 1600000 in
theorem has_any (ao : Option Addr) (c n : Nat) (f : Nat → Int) (Y : Nat → Prop) (w : World) (x : Int) (h : IntsAt Y w ao n f) :
    Calls Try.prog 56 #[.slice ao n c, .int .i64 x] w fun e w' => ∃ b, e = .returned (.bool b) ∧ (b = true ↔ hasLine n f x) ∧ w' = w := by
  obtain ⟨hn, h⟩ := h
  have HH : Hid (∀ i, i < n → ∃ b o, ao = some ⟨b, o, none⟩ ∧ Y b ∧ w.cell? ⟨b, o + i, none⟩ = some (.int .i64 (f i))) := h
  clear h
  go_enter Try.func56, Try.ntmps56
  go_wp2
  go_loopw [9] (fun i wr => ∃ k : Nat, k ≤ n ∧ i = .int .i64 k ∧ (∀ t, t < k → ¬ f t = x) ∧ wr = w) (fun i _ => n - (intOf i).toNat)
  case atStart => exact ⟨0, Nat.zero_le _, rfl, fun t ht => absurd ht (Nat.not_lt_zero _), rfl⟩
  case round =>
    obtain ⟨k, hk, rfl, hok, rfl⟩ := hrel
    have HO : Hid (∀ t, t < k → ¬ f t = x) := hok
    clear hok
    by_cases hlt : k < n
    · obtain ⟨b, o, rfl, -, g1⟩ := HH.out k hlt
      have hlt' : (k : Int) < n := by omega
      by_cases hr : f k = (x : Int)
      · have d1 : (f k == (x : Int)) = true := by simp [hr]
        go_wp2
        go_ret
        exact ⟨true, rfl, ⟨fun _ => ⟨k, hlt, hr⟩, fun _ => rfl⟩, rfl⟩
      · have d1 : (f k == (x : Int)) = false := by simp [hr]
        go_wp2
        go_roundw
        case rel => exact ⟨k + 1, by omega, by go_num, fun t ht => by
          by_cases e : t = k
          · subst e; exact hr
          · exact HO.out t (by omega), by first | rfl | trivial⟩
        case measure => simp [intOf]; omega
    · obtain rfl : k = n := by omega
      go_wp2
      go_ret
      exact ⟨false, rfl, ⟨fun h => absurd h (by decide), fun ⟨t, h1, h2⟩ => absurd h2 (HO.out t h1)⟩, rfl⟩
theorem own4_leaf (B : BD) (a : Nat) : gM (own4 B) a = gM B a ∧ gP (own4 B) a = gP B a := ⟨rfl, rfl⟩
theorem own4_good {B : BD} (g : B.Good) : (own4 B).Good := ⟨rfl, g.k, fun i hi => ⟨rfl, (g.leaf i hi).2⟩, fun i hi => g.top i (by rw [g.n]; exact hi), fun i j hi hj => g.dis i j (by rw [g.n]; exact hi) hj, fun k hk h => g.idle k hk (fun i hi => h i (by rw [g.n] at hi; exact hi))⟩
/-- A host's leaf set: what stands then. -/
structure Set1 (D W : ND) (x : Nat) (y : Int) : Prop where
  good : W.Good
  g : W.G = own4 D.G
  leaf : ∀ a, a < 16 → gM W.H a = (if a = x then y else gM D.H a) ∧ gP W.H a = gP D.H a
theorem set1_of {D R : ND} {x q : Nat} {y : Int} (g : D.Good) (hx : x < 16) (hq : goes D.H.c D.H.D.n (x / 4) q) (hy : mayOK y) (hR : R = ⟨own4 D.G, chB D.H x q (gP D.H x) y⟩) : Set1 D R x y := by
  subst hR
  have lf := leafs g.h hx
  have lo : leafOK (gP D.H x) y := ⟨lf.1, ⟨by have := hy.1; omega, hy.2⟩, Or.inl (by have := hy.1; omega)⟩
  refine ⟨⟨own4_good g.g, ch_good g.h hx hq lo, g.ng, g.nh⟩, rfl, fun a ha => ?_⟩
  obtain ⟨h1, h2⟩ := ch_leaf (gp := gP D.H x) (y := y) g.h hx ha hq
  refine ⟨h2, ?_⟩
  show lfP _ _ a = _
  rw [h1]
  by_cases e : a = x
  · rw [if_pos e, e]
  · rw [if_neg e]
/-- The same table again. -/
theorem back_same {c : Nat → Int} {kn x q q' : Nat} {p m : Nat → Nat → Int} (g : (T4 c kn p m).Good) (hx : x < 16) (h3 : gM (T4 c kn p m) x = 3) (hq : goes c kn (x / 4) q) (hq' : goes (chB (T4 c kn p m) x q (gP (T4 c kn p m) x) 1).c kn (x / 4) q') :
    chB (chB (T4 c kn p m) x q (gP (T4 c kn p m) x) 1) x q' (gP (chB (T4 c kn p m) x q (gP (T4 c kn p m) x) 1) x) 3 = T4 c kn p m := by
  have h0 : 0 ≤ c (x / 4) := by
    by_cases h : 0 ≤ c (x / 4)
    · exact h
    · have : gM (T4 c kn p m) x = 0 := lfP_no h
      omega
  have hc : c (x / 4) = q := by
    rcases hq with h | ⟨h, _⟩
    · exact h
    · omega
  have hp : gP (T4 c kn p m) x = p q (x % 4) := lfP_yes hc
  have hm : m q (x % 4) = 3 := by rw [← h3]; exact (lfP_yes hc).symm
  have e1 : chB (T4 c kn p m) x q (gP (T4 c kn p m) x) 1 = T4 c kn p (upd2 m q (x % 4) 1) := by
    unfold chB
    rw [hp, upd2_self rfl, topsOf_no (nz8 (j := x % 4) (y := 1) (by omega) ⟨by omega, by omega⟩ (upd2_at _ _ _ _)), upd_self hc]
  rw [e1] at hq' ⊢
  have hc' : c (x / 4) = q' := by
    rcases hq' with h | ⟨h, _⟩
    · exact h
    · have h' : c (x / 4) = -1 := h
      omega
  obtain rfl : q = q' := by omega
  have hp2 : gP (T4 c kn p (upd2 m q (x % 4) 1)) x = p q (x % 4) := lfP_yes hc
  unfold chB
  rw [hp2]
  show (⟨4, topsOf c (x / 4) q (upd2 p q (x % 4) (p q (x % 4)) q) (upd2 (upd2 m q (x % 4) 1) q (x % 4) 3 q), ⟨kn, fun _ => 4, upd2 p q (x % 4) (p q (x % 4)), upd2 (upd2 m q (x % 4) 1) q (x % 4) 3⟩⟩ : BD) = T4 c kn p m
  rw [upd2_self rfl, topsOf_no (nz8 (j := x % 4) (y := 3) (by omega) ⟨by omega, by omega⟩ (upd2_at _ _ _ _)), upd_self hc]
  have em : upd2 (upd2 m q (x % 4) 1) q (x % 4) 3 = m := by
    funext i j
    unfold upd2
    by_cases e : i = q ∧ j = x % 4
    · rw [if_pos e, e.1, e.2, hm]
    · rw [if_neg e, if_neg e]
  rw [em]
/-- Watched, then let: the nest again. -/
theorem watch_let {D R L : ND} {a : Int} {r : Bool} (hD : NDr D) (h : hsOut D a 3 1 R true) (h2 : hsOut R a 1 3 L r) : Set1 D R a.toNat 1 ∧ D.Good ∧ gM D.H a.toNat = 3 ∧ pgOK a ∧ r = true ∧ L = D := by
  obtain ⟨cg, pg, mg, ch, kn, ph, mh, rfl, hk⟩ := hD
  rcases h with ⟨⟨g, hp, hm⟩, ⟨q, hq, hR⟩, _⟩ | ⟨_, _, e⟩
  case inr => cases e
  have hx : a.toNat < 16 := by unfold pgOK at hp; omega
  have S := set1_of g hx hq ⟨by omega, by omega⟩ hR
  have l1 := (S.leaf a.toNat hx).1
  rw [if_pos rfl] at l1
  rcases h2 with ⟨_, ⟨q', hq', hL⟩, rfl⟩ | ⟨n, _, _⟩
  case inr => exact absurd ⟨S.good, hp, l1⟩ n
  refine ⟨S, g, hm, hp, rfl, ?_⟩
  rw [hL, hR]
  rw [hR] at hq'
  have e1 := back_same g.h hx hm hq hq'
  have e2 : own4 (own4 (T4 cg 4 pg mg)) = T4 cg 4 pg mg := rfl
  show (⟨own4 (own4 (T4 cg 4 pg mg)), _⟩ : ND) = _
  rw [e2]
  exact congrArg (ND.mk _) e1
/-- A read is as it was; a write to the page is told. -/
theorem iso_walk {D W : ND} {x : Nat} (g : D.Good) (S : Set1 D W x 1) (hx : x < 16) (h3 : gM D.H x = 3) {a : Nat} (ha : a < 16) {p0 y0 p1 c1 p2 c2 p3 c3 : Int} {r : Bool}
    (h0 : wtOut D.G (a : Int) 2 p0 y0 r) (h1 : nwOut W.G W.H a 2 p1 c1) (h2 : nwOut D.G D.H a 1 p2 c2) (hq : nwOut W.G W.H a 1 p3 c3) : c2 = c3 ∧ (r = true → p0 = (x : Int) → c1 = 2) := by
  have eg : gM W.G a = gM D.G a ∧ gP W.G a = gP D.G a := by rw [S.g]; exact ⟨rfl, rfl⟩
  have lg := leafs g.g ha
  have hy : (gP D.G a).toNat < 16 := by omega
  obtain ⟨m1, -⟩ := S.leaf (gP D.G a).toNat hy
  have d12 : hasMay 1 1 ∧ hasMay 3 1 ∧ ¬ hasMay 1 2 := by unfold hasMay; decide
  have hh : hasMay (gM W.H (gP W.G a).toNat) 1 ↔ hasMay (gM D.H (gP D.G a).toNat) 1 := by
    rw [eg.2, m1]
    by_cases e : (gP D.G a).toNat = x
    · rw [if_pos e, e, h3]; exact ⟨fun _ => d12.2.1, fun _ => d12.1⟩
    · rw [if_neg e]
  constructor
  · rcases h2 with ⟨n, _, rfl⟩ | ⟨p, n, _, rfl⟩ | ⟨p, q, _, rfl⟩ <;> rcases hq with ⟨n', _, rfl⟩ | ⟨p', n', _, rfl⟩ | ⟨p', q', _, rfl⟩ <;> rw [eg.1] at * <;> first | rfl | (exact absurd p' n) | (exact absurd p n') | (exact absurd (hh.2 q) n') | (exact absurd (hh.1 q') n)
  · intro hr hp
    rcases h0 with ⟨_, _, _, e⟩ | ⟨_, _, h0⟩
    · rw [e] at hr; cases hr
    · rw [Int.toNat_natCast] at h0
      rcases h0 with ⟨hm, ep, _⟩ | ⟨_, _, e⟩
      · have hgp : gP D.G a = (x : Int) := ep.symm.trans hp
        have hyx : (gP D.G a).toNat = x := by rw [hgp, Int.toNat_natCast]
        rw [hyx, if_pos rfl] at m1
        rcases h1 with ⟨n, _, _⟩ | ⟨_, _, _, e⟩ | ⟨_, q, _, _⟩
        · rw [eg.1] at n; exact absurd hm n
        · exact e
        · rw [eg.2, hyx, m1] at q; exact absurd q d12.2.2
      · rw [e] at hr; cases hr
/-- The first nest drawn, boxed at zb; two boxes for what is answered. -/
structure DI (w wr : World) (k zb : Nat) (v : NV) (D : ND) : Prop where
  blw : Blw w wr
  cur : Cur (fun x => x < w.heap.size) wr (w.heap.size + 1 + 1) k
  o1 : Row wr w.heap.size 4 (fun i => if i = 0 then .slice none 0 0 else if i = 1 then .slice none 0 0 else if i = 2 then .slice none 0 0 else .slice none 0 0)
  o2 : Row wr (w.heap.size + 1) 4 (fun i => if i = 0 then .slice none 0 0 else if i = 1 then .slice none 0 0 else if i = 2 then .slice none 0 0 else .slice none 0 0)
  box : Row wr zb 4 (nb v D)
  at_ : NAt (fun x => w.heap.size + 1 + 1 < x ∧ x < wr.heap.size) wr v D
  zb : w.heap.size + 1 + 1 < zb
theorem DI.go {w wr w1 : World} {k k' zb : Nat} {v : NV} {D : ND} (h : DI w wr k zb v D) (hc : Cur (fun x => x < w.heap.size) w1 (w.heap.size + 1 + 1) k') (hm : Mod (fun b => b = w.heap.size + 1 + 1) wr w1) : DI w w1 k' zb v D := by
  have hs := hm.size
  have hz := h.zb
  exact ⟨Mod.blw h.blw hm (fun i hi => by omega), hc, h.o1.mod hm (by omega), h.o2.mod hm (by omega), h.box.mod hm (by omega), (h.at_.mod hm (fun x hx e => by omega)).mono (fun x hx => by omega), hz⟩
set_option maxRecDepth 10000 in
set_option maxHeartbeats 6400000 in
theorem drawIso_any (ao : Option Addr) (n cc : Nat) (f : Nat → Int) (w : World) (h : BytesAt (fun b => b < w.heap.size) w ao n f) :
    Calls Try.prog 53 #[.slice ao n cc] w fun e w' => ∃ v D u E, e = .returned (.tuple #[v.val D, u.val E]) ∧ NDr D ∧ NDr E ∧ NAt (fun x => x < w'.heap.size) w' v D ∧ NAt (fun x => x < w'.heap.size) w' u E ∧ Blw w w' := by
  have b1 : Blw w (w.alloc (.cells #[.slice none 0 0, .slice none 0 0, .slice none 0 0, .slice none 0 0] 60)) := (Blw.refl _).alloc _
  have b2 : Blw (w.alloc (.cells #[.slice none 0 0, .slice none 0 0, .slice none 0 0, .slice none 0 0] 60)) ((w.alloc (.cells #[.slice none 0 0, .slice none 0 0, .slice none 0 0, .slice none 0 0] 60)).alloc (.cells #[.slice none 0 0, .slice none 0 0, .slice none 0 0, .slice none 0 0] 60)) := (Blw.refl _).alloc _
  have b3 : Blw ((w.alloc (.cells #[.slice none 0 0, .slice none 0 0, .slice none 0 0, .slice none 0 0] 60)).alloc (.cells #[.slice none 0 0, .slice none 0 0, .slice none 0 0, .slice none 0 0] 60)) (((w.alloc (.cells #[.slice none 0 0, .slice none 0 0, .slice none 0 0, .slice none 0 0] 60)).alloc (.cells #[.slice none 0 0, .slice none 0 0, .slice none 0 0, .slice none 0 0] 60)).alloc (.cells #[.slice ao n cc, .int .i64 0, .int .u64 0] 104)) := (Blw.refl _).alloc _
  have hb0 := (b1.trans b2).trans b3
  have r1 := (box4 w (.slice none 0 0) (.slice none 0 0) (.slice none 0 0) (.slice none 0 0) 60).blw (b2.trans b3)
  have r2 := (box4 (w.alloc (.cells #[.slice none 0 0, .slice none 0 0, .slice none 0 0, .slice none 0 0] 60)) (.slice none 0 0) (.slice none 0 0) (.slice none 0 0) (.slice none 0 0) 60).blw b3
  rw [World.size_alloc] at r2
  have r3 := box3 ((w.alloc (.cells #[.slice none 0 0, .slice none 0 0, .slice none 0 0, .slice none 0 0] 60)).alloc (.cells #[.slice none 0 0, .slice none 0 0, .slice none 0 0, .slice none 0 0] 60)) (.slice ao n cc) (.int .i64 0) (.int .u64 0) 104
  rw [World.size_alloc, World.size_alloc] at r3
  have c0 : Cur (fun x => x < w.heap.size) (((w.alloc (.cells #[.slice none 0 0, .slice none 0 0, .slice none 0 0, .slice none 0 0] 60)).alloc (.cells #[.slice none 0 0, .slice none 0 0, .slice none 0 0, .slice none 0 0] 60)).alloc (.cells #[.slice ao n cc, .int .i64 0, .int .u64 0] 104)) (w.heap.size + 1 + 1) 0 := ⟨ao, n, cc, 0, f, 0, r3, h.blw hb0, Nat.le_refl _, fun b hb => by omega⟩
  have hsz : (((w.alloc (.cells #[.slice none 0 0, .slice none 0 0, .slice none 0 0, .slice none 0 0] 60)).alloc (.cells #[.slice none 0 0, .slice none 0 0, .slice none 0 0, .slice none 0 0] 60)).alloc (.cells #[.slice ao n cc, .int .i64 0, .int .u64 0] 104)).heap.size = w.heap.size + 1 + 1 + 1 := by simp
  have HB : Hid (Blw w (((w.alloc (.cells #[.slice none 0 0, .slice none 0 0, .slice none 0 0, .slice none 0 0] 60)).alloc (.cells #[.slice none 0 0, .slice none 0 0, .slice none 0 0, .slice none 0 0] 60)).alloc (.cells #[.slice ao n cc, .int .i64 0, .int .u64 0] 104))) := hb0
  have R1 : Hid (Row (((w.alloc (.cells #[.slice none 0 0, .slice none 0 0, .slice none 0 0, .slice none 0 0] 60)).alloc (.cells #[.slice none 0 0, .slice none 0 0, .slice none 0 0, .slice none 0 0] 60)).alloc (.cells #[.slice ao n cc, .int .i64 0, .int .u64 0] 104)) w.heap.size 4 (fun i => if i = 0 then .slice none 0 0 else if i = 1 then .slice none 0 0 else if i = 2 then .slice none 0 0 else .slice none 0 0)) := r1
  have R2 : Hid (Row (((w.alloc (.cells #[.slice none 0 0, .slice none 0 0, .slice none 0 0, .slice none 0 0] 60)).alloc (.cells #[.slice none 0 0, .slice none 0 0, .slice none 0 0, .slice none 0 0] 60)).alloc (.cells #[.slice ao n cc, .int .i64 0, .int .u64 0] 104)) (w.heap.size + 1) 4 (fun i => if i = 0 then .slice none 0 0 else if i = 1 then .slice none 0 0 else if i = 2 then .slice none 0 0 else .slice none 0 0)) := r2
  have HC : Hid (Cur (fun x => x < w.heap.size) (((w.alloc (.cells #[.slice none 0 0, .slice none 0 0, .slice none 0 0, .slice none 0 0] 60)).alloc (.cells #[.slice none 0 0, .slice none 0 0, .slice none 0 0, .slice none 0 0] 60)).alloc (.cells #[.slice ao n cc, .int .i64 0, .int .u64 0] 104)) (w.heap.size + 1 + 1) 0) := c0
  have HS : Hid ((((w.alloc (.cells #[.slice none 0 0, .slice none 0 0, .slice none 0 0, .slice none 0 0] 60)).alloc (.cells #[.slice none 0 0, .slice none 0 0, .slice none 0 0, .slice none 0 0] 60)).alloc (.cells #[.slice ao n cc, .int .i64 0, .int .u64 0] 104)).heap.size = w.heap.size + 1 + 1 + 1) := hsz
  clear h b1 b2 b3 hb0 r1 r2 r3 c0 hsz
  go_enter Try.func53, Try.ntmps53
  go_upto_region 2 with fail
  generalize (((w.alloc (.cells #[.slice none 0 0, .slice none 0 0, .slice none 0 0, .slice none 0 0] 60)).alloc (.cells #[.slice none 0 0, .slice none 0 0, .slice none 0 0, .slice none 0 0] 60)).alloc (.cells #[.slice ao n cc, .int .i64 0, .int .u64 0] 104)) = w0 at *
  go_wp2_with fail
  refine (nest_any _ (w.heap.size + 1 + 1) 0 0 _ (by omega) (by omega) (fun b hb => by have := HS.out; omega) HC.out).mono ?_
  rintro e w1 ⟨v, D, rfl, hD, own, c1, m1⟩
  have HND : Hid (NDr D) := hD
  have hA : Blw w1 (w1.alloc (.cells #[.slice v.g.a1 D.G.n v.g.c1, .slice v.g.a2 D.G.D.n v.g.c2, .slice v.h.a1 D.H.n v.h.c1, .slice v.h.a2 D.H.D.n v.h.c2] 60)) := (Blw.refl _).alloc _
  have hs1 := m1.size
  have hss := HS.out
  have HD : Hid (DI w (w1.alloc (.cells #[.slice v.g.a1 D.G.n v.g.c1, .slice v.g.a2 D.G.D.n v.g.c2, .slice v.h.a1 D.H.n v.h.c1, .slice v.h.a2 D.H.D.n v.h.c2] 60)) (0 + 1000) w1.heap.size v D) := ⟨(Mod.blw HB.out m1 (fun i hi => by omega)).trans hA, c1.blw hA, (R1.out.mod m1 (by omega)).blw hA, (R2.out.mod m1 (by omega)).blw hA, box4 w1 _ _ _ _ 60, (own.at.blw hA).mono (fun x hx => ⟨by omega, by simp; omega⟩), by omega⟩
  clear hD own c1 m1 hA hs1 hss HB R1 R2 HC HS
  go_upto_region 3 with fail
  generalize (w1.alloc (.cells #[.slice v.g.a1 D.G.n v.g.c1, .slice v.g.a2 D.G.D.n v.g.c2, .slice v.h.a1 D.H.n v.h.c1, .slice v.h.a2 D.H.D.n v.h.c2] 60)) = w2 at *
  generalize w1.heap.size = zb at *
  go_wp2_with fail
  refine (one_any _ _ (0 + 1000) 2 _ (by omega) (by omega) HD.out.cur).mono ?_
  rintro e w3 ⟨r, rfl, hc, hm⟩
  replace HD : Hid (DI w w3 (0 + 1000 + 2) zb v D) := HD.out.go hc hm
  clear hc hm
  cases r
  case true =>
    go_upto_region 4 with fail
    replace HD : Hid (DI w w3.drew (0 + 1000 + 2) zb v D) := ⟨HD.out.blw.drew, HD.out.cur.blw (Blw.refl _).drew, HD.out.o1.blw (Blw.refl _).drew, HD.out.o2.blw (Blw.refl _).drew, HD.out.box.blw (Blw.refl _).drew, (HD.out.at_.blw (Blw.refl _).drew).mono (fun x hx => ⟨hx.1, by have := (Blw.refl w3).drew.size; omega⟩), HD.out.zb⟩
    have P0 : ∀ w', (Row w' zb 4 (nb v D)) → w'.cell? ⟨zb, 0, none⟩ = some (.slice v.g.a1 D.G.n v.g.c1) ∧ w'.cell? ⟨zb, 1, none⟩ = some (.slice v.g.a2 D.G.D.n v.g.c2) ∧ w'.cell? ⟨zb, 2, none⟩ = some (.slice v.h.a1 D.H.n v.h.c1) ∧ w'.cell? ⟨zb, 3, none⟩ = some (.slice v.h.a2 D.H.D.n v.h.c2) := fun w' hh => get4 hh
    refine wp_region_noPanic ?_
    refine wp_region_held_drew (S := (fun w' => Row w' zb 4 (nb v D))) (by kernel_rfl) HD.out.box (fun hB => ?_)
    clear hB
    generalize w3.drew = wd at *
    refine wpAnyH_take (i := 0) (oi := { dst := some 13, op := Op.load 60 (Operand.tmp 5), type := 60, pos := _, after := #[], guard := none }) (v := (.agg #[.slice v.g.a1 D.G.n v.g.c1, .slice v.g.a2 D.G.D.n v.g.c2, .slice v.h.a1 D.H.n v.h.c1, .slice v.h.a2 D.H.D.n v.h.c2])) rfl (by kernel_rfl) (by kernel_rfl) (by kernel_rfl) (fun _ _ _ h => h) (Or.inl ⟨by rfl, fun w' hS => by (try dsimp only at hS); go_simp⟩) HD.out.box ?_
    simp only [Act.put, List.setIfInBounds_toArray, List.set_cons_zero, List.set_cons_succ]
    refine wpAnyH_take (i := 1) (oi := { dst := some 14, op := Op.move (Operand.tmp 4), type := 101, pos := _, after := #[], guard := none }) (v := (.pointer (some ⟨w.heap.size + 1 + 1, 0, none⟩))) rfl (by kernel_rfl) (by kernel_rfl) (by kernel_rfl) (fun _ _ _ h => h) (Or.inl ⟨by rfl, fun w' hS => by (try dsimp only at hS); go_simp⟩) HD.out.box ?_
    simp only [Act.put, List.setIfInBounds_toArray, List.set_cons_zero, List.set_cons_succ]
    refine wpAnyH_ready (rs := [2]) (by kernel_rfl) (by simp) ?_
    refine AllReadyH.cons (o := { dst := some 15, op := Op.call { callee := Callee.value (Operand.func 117), args := #[Operand.tmp 14, Operand.const (Value.int IntKind.i64 8)], argTypes := #[101, 3] }, type := 60, pos := _, after := #[{ on := 1, ground := Ground.data }], guard := none }) rfl (fun K hK => ?_) AllReadyH.nil
    go_simp
    refine (nest_any _ (w.heap.size + 1 + 1) (0 + 1000 + 2) 8 _ (by omega) (by omega) (fun b hb => by have := HD.out.blw.size; have := HD.out.box.lt; have := HD.out.zb; omega) HD.out.cur).mono ?_
    rintro e wn ⟨u, E, rfl, hE, own, c1, m1⟩
    have HNE : Hid (NDr E) := hE
    have hsl := HD.out.blw.size
    have hbl := HD.out.box.lt
    have hzb := HD.out.zb
    replace HD : Hid (DI w wn (0 + 1000 + 2 + 1000) zb v D) := HD.out.go c1 m1
    have HU : Hid (NAt (fun x => zb < x ∧ x < wn.heap.size) wn u E) := own.at.mono (fun x hx => by omega)
    clear hE own c1 m1 hsl hbl hzb
    refine hK.out _ _ HD.out.box (fun hB => ?_)
    clear hK K hB
    try simp only [Act.put, List.setIfInBounds_toArray, List.set_cons_zero, List.set_cons_succ]
    refine wpAnyH_ready (rs := [3]) (by kernel_rfl) (by simp) ?_
    refine AllReadyH.cons (o := { dst := none, op := Op.store 60 (Operand.tmp 2) (Operand.tmp 13), type := 0, pos := _, after := #[{ on := 0, ground := Ground.data }, { on := 2, ground := Ground.chain }, { on := 0, ground := Ground.phase }, { on := 1, ground := Ground.textOnly Departure.lateStores }, { on := 2, ground := Ground.textOnly Departure.lateStoresUnsure }], guard := none }) rfl (fun K hK => ?_) AllReadyH.nil
    obtain ⟨t0, t1, t2, t3⟩ := get4 HD.out.o1
    have f0 := HD.out.o1.frozen 0; have f1 := HD.out.o1.frozen 1; have f2 := HD.out.o1.frozen 2; have f3 := HD.out.o1.frozen 3
    go_simp
    have hm1 : Mod (fun x => x = w.heap.size) wn ((((wn.setCell ⟨w.heap.size, 0, none⟩ (.slice v.g.a1 D.G.n v.g.c1)).setCell ⟨w.heap.size, 1, none⟩ (.slice v.g.a2 D.G.D.n v.g.c2)).setCell ⟨w.heap.size, 2, none⟩ (.slice v.h.a1 D.H.n v.h.c1)).setCell ⟨w.heap.size, 3, none⟩ (.slice v.h.a2 D.H.D.n v.h.c2)) := set4_mod wn w.heap.size (.slice v.g.a1 D.G.n v.g.c1) (.slice v.g.a2 D.G.D.n v.g.c2) (.slice v.h.a1 D.H.n v.h.c1) (.slice v.h.a2 D.H.D.n v.h.c2)
    have hzb := HD.out.zb
    have hsz1 : wn.heap.size ≤ ((((wn.setCell ⟨w.heap.size, 0, none⟩ (.slice v.g.a1 D.G.n v.g.c1)).setCell ⟨w.heap.size, 1, none⟩ (.slice v.g.a2 D.G.D.n v.g.c2)).setCell ⟨w.heap.size, 2, none⟩ (.slice v.h.a1 D.H.n v.h.c1)).setCell ⟨w.heap.size, 3, none⟩ (.slice v.h.a2 D.H.D.n v.h.c2)).heap.size := hm1.size
    have HQ1 : Hid (Row ((((wn.setCell ⟨w.heap.size, 0, none⟩ (.slice v.g.a1 D.G.n v.g.c1)).setCell ⟨w.heap.size, 1, none⟩ (.slice v.g.a2 D.G.D.n v.g.c2)).setCell ⟨w.heap.size, 2, none⟩ (.slice v.h.a1 D.H.n v.h.c1)).setCell ⟨w.heap.size, 3, none⟩ (.slice v.h.a2 D.H.D.n v.h.c2)) w.heap.size 4 (nb v D)) := set4_23 (set4_01 HD.out.o1 _ _) _ _
    have HZ2 : Hid (Row ((((wn.setCell ⟨w.heap.size, 0, none⟩ (.slice v.g.a1 D.G.n v.g.c1)).setCell ⟨w.heap.size, 1, none⟩ (.slice v.g.a2 D.G.D.n v.g.c2)).setCell ⟨w.heap.size, 2, none⟩ (.slice v.h.a1 D.H.n v.h.c1)).setCell ⟨w.heap.size, 3, none⟩ (.slice v.h.a2 D.H.D.n v.h.c2)) (w.heap.size + 1) 4 (fun i => if i = 0 then .slice none 0 0 else if i = 1 then .slice none 0 0 else if i = 2 then .slice none 0 0 else .slice none 0 0)) := HD.out.o2.mod hm1 (by omega)
    have HV : Hid (NAt (fun x => w.heap.size + 1 + 1 < x ∧ x < wn.heap.size) ((((wn.setCell ⟨w.heap.size, 0, none⟩ (.slice v.g.a1 D.G.n v.g.c1)).setCell ⟨w.heap.size, 1, none⟩ (.slice v.g.a2 D.G.D.n v.g.c2)).setCell ⟨w.heap.size, 2, none⟩ (.slice v.h.a1 D.H.n v.h.c1)).setCell ⟨w.heap.size, 3, none⟩ (.slice v.h.a2 D.H.D.n v.h.c2)) v D) := HD.out.at_.mod hm1 (fun x hx e => by omega)
    have HU1 : Hid (NAt (fun x => zb < x ∧ x < wn.heap.size) ((((wn.setCell ⟨w.heap.size, 0, none⟩ (.slice v.g.a1 D.G.n v.g.c1)).setCell ⟨w.heap.size, 1, none⟩ (.slice v.g.a2 D.G.D.n v.g.c2)).setCell ⟨w.heap.size, 2, none⟩ (.slice v.h.a1 D.H.n v.h.c1)).setCell ⟨w.heap.size, 3, none⟩ (.slice v.h.a2 D.H.D.n v.h.c2)) u E) := HU.out.mod hm1 (fun x hx e => by omega)
    have HB1 : Hid (Blw w ((((wn.setCell ⟨w.heap.size, 0, none⟩ (.slice v.g.a1 D.G.n v.g.c1)).setCell ⟨w.heap.size, 1, none⟩ (.slice v.g.a2 D.G.D.n v.g.c2)).setCell ⟨w.heap.size, 2, none⟩ (.slice v.h.a1 D.H.n v.h.c1)).setCell ⟨w.heap.size, 3, none⟩ (.slice v.h.a2 D.H.D.n v.h.c2))) := Mod.blw HD.out.blw hm1 (fun i hi => by omega)
    have HBX : Hid (Row ((((wn.setCell ⟨w.heap.size, 0, none⟩ (.slice v.g.a1 D.G.n v.g.c1)).setCell ⟨w.heap.size, 1, none⟩ (.slice v.g.a2 D.G.D.n v.g.c2)).setCell ⟨w.heap.size, 2, none⟩ (.slice v.h.a1 D.H.n v.h.c1)).setCell ⟨w.heap.size, 3, none⟩ (.slice v.h.a2 D.H.D.n v.h.c2)) zb 4 (nb v D)) := HD.out.box.mod hm1 (by omega)
    have HSS : Hid (wn.heap.size ≤ ((((wn.setCell ⟨w.heap.size, 0, none⟩ (.slice v.g.a1 D.G.n v.g.c1)).setCell ⟨w.heap.size, 1, none⟩ (.slice v.g.a2 D.G.D.n v.g.c2)).setCell ⟨w.heap.size, 2, none⟩ (.slice v.h.a1 D.H.n v.h.c1)).setCell ⟨w.heap.size, 3, none⟩ (.slice v.h.a2 D.H.D.n v.h.c2)).heap.size) := hsz1
    clear hm1 hsz1 hzb
    refine hK.out _ _ HBX.out (fun hB => ?_)
    clear hK K hB
    try simp only [Act.put, List.setIfInBounds_toArray, List.set_cons_zero, List.set_cons_succ]
    clear t0 t1 t2 t3 f0 f1 f2 f3
    generalize hwq : ((((wn.setCell ⟨w.heap.size, 0, none⟩ (.slice v.g.a1 D.G.n v.g.c1)).setCell ⟨w.heap.size, 1, none⟩ (.slice v.g.a2 D.G.D.n v.g.c2)).setCell ⟨w.heap.size, 2, none⟩ (.slice v.h.a1 D.H.n v.h.c1)).setCell ⟨w.heap.size, 3, none⟩ (.slice v.h.a2 D.H.D.n v.h.c2)) = wq at *
    clear hwq
    refine wpAnyH_ready (rs := [4]) (by kernel_rfl) (by simp) ?_
    refine AllReadyH.cons (o := { dst := none, op := Op.store 60 (Operand.tmp 3) (Operand.tmp 15), type := 0, pos := _, after := #[{ on := 2, ground := Ground.data }, { on := 3, ground := Ground.chain }, { on := 0, ground := Ground.phase }, { on := 1, ground := Ground.phase }, { on := 2, ground := Ground.phase }, { on := 3, ground := Ground.phase }], guard := none }) rfl (fun K hK => ?_) AllReadyH.nil
    obtain ⟨t0, t1, t2, t3⟩ := get4 HZ2.out
    have f0 := HZ2.out.frozen 0; have f1 := HZ2.out.frozen 1; have f2 := HZ2.out.frozen 2; have f3 := HZ2.out.frozen 3
    go_simp
    have hm1 : Mod (fun x => x = w.heap.size + 1) wq ((((wq.setCell ⟨w.heap.size + 1, 0, none⟩ (.slice u.g.a1 E.G.n u.g.c1)).setCell ⟨w.heap.size + 1, 1, none⟩ (.slice u.g.a2 E.G.D.n u.g.c2)).setCell ⟨w.heap.size + 1, 2, none⟩ (.slice u.h.a1 E.H.n u.h.c1)).setCell ⟨w.heap.size + 1, 3, none⟩ (.slice u.h.a2 E.H.D.n u.h.c2)) := set4_mod wq (w.heap.size + 1) (.slice u.g.a1 E.G.n u.g.c1) (.slice u.g.a2 E.G.D.n u.g.c2) (.slice u.h.a1 E.H.n u.h.c1) (.slice u.h.a2 E.H.D.n u.h.c2)
    have hzb := HD.out.zb
    have hsz1 : wq.heap.size ≤ ((((wq.setCell ⟨w.heap.size + 1, 0, none⟩ (.slice u.g.a1 E.G.n u.g.c1)).setCell ⟨w.heap.size + 1, 1, none⟩ (.slice u.g.a2 E.G.D.n u.g.c2)).setCell ⟨w.heap.size + 1, 2, none⟩ (.slice u.h.a1 E.H.n u.h.c1)).setCell ⟨w.heap.size + 1, 3, none⟩ (.slice u.h.a2 E.H.D.n u.h.c2)).heap.size := hm1.size
    have hss := HSS.out
    obtain ⟨s0, s1, s2, s3⟩ := get4 HQ1.out
    have FIN : Hid (NAt (fun x => x < ((((wq.setCell ⟨w.heap.size + 1, 0, none⟩ (.slice u.g.a1 E.G.n u.g.c1)).setCell ⟨w.heap.size + 1, 1, none⟩ (.slice u.g.a2 E.G.D.n u.g.c2)).setCell ⟨w.heap.size + 1, 2, none⟩ (.slice u.h.a1 E.H.n u.h.c1)).setCell ⟨w.heap.size + 1, 3, none⟩ (.slice u.h.a2 E.H.D.n u.h.c2)).heap.size) ((((wq.setCell ⟨w.heap.size + 1, 0, none⟩ (.slice u.g.a1 E.G.n u.g.c1)).setCell ⟨w.heap.size + 1, 1, none⟩ (.slice u.g.a2 E.G.D.n u.g.c2)).setCell ⟨w.heap.size + 1, 2, none⟩ (.slice u.h.a1 E.H.n u.h.c1)).setCell ⟨w.heap.size + 1, 3, none⟩ (.slice u.h.a2 E.H.D.n u.h.c2)) v D ∧ NAt (fun x => x < ((((wq.setCell ⟨w.heap.size + 1, 0, none⟩ (.slice u.g.a1 E.G.n u.g.c1)).setCell ⟨w.heap.size + 1, 1, none⟩ (.slice u.g.a2 E.G.D.n u.g.c2)).setCell ⟨w.heap.size + 1, 2, none⟩ (.slice u.h.a1 E.H.n u.h.c1)).setCell ⟨w.heap.size + 1, 3, none⟩ (.slice u.h.a2 E.H.D.n u.h.c2)).heap.size) ((((wq.setCell ⟨w.heap.size + 1, 0, none⟩ (.slice u.g.a1 E.G.n u.g.c1)).setCell ⟨w.heap.size + 1, 1, none⟩ (.slice u.g.a2 E.G.D.n u.g.c2)).setCell ⟨w.heap.size + 1, 2, none⟩ (.slice u.h.a1 E.H.n u.h.c1)).setCell ⟨w.heap.size + 1, 3, none⟩ (.slice u.h.a2 E.H.D.n u.h.c2)) u E ∧ Blw w ((((wq.setCell ⟨w.heap.size + 1, 0, none⟩ (.slice u.g.a1 E.G.n u.g.c1)).setCell ⟨w.heap.size + 1, 1, none⟩ (.slice u.g.a2 E.G.D.n u.g.c2)).setCell ⟨w.heap.size + 1, 2, none⟩ (.slice u.h.a1 E.H.n u.h.c1)).setCell ⟨w.heap.size + 1, 3, none⟩ (.slice u.h.a2 E.H.D.n u.h.c2))) := ⟨(HV.out.mod hm1 (fun x hx e => by omega)).mono (fun x hx => by omega), (HU1.out.mod hm1 (fun x hx e => by omega)).mono (fun x hx => by omega), Mod.blw HB1.out hm1 (fun i hi => by omega)⟩
    have HBY : Hid (Row ((((wq.setCell ⟨w.heap.size + 1, 0, none⟩ (.slice u.g.a1 E.G.n u.g.c1)).setCell ⟨w.heap.size + 1, 1, none⟩ (.slice u.g.a2 E.G.D.n u.g.c2)).setCell ⟨w.heap.size + 1, 2, none⟩ (.slice u.h.a1 E.H.n u.h.c1)).setCell ⟨w.heap.size + 1, 3, none⟩ (.slice u.h.a2 E.H.D.n u.h.c2)) zb 4 (nb v D)) := HBX.out.mod hm1 (by omega)
    clear hm1 hsz1 hzb hss
    refine hK.out _ _ HBY.out (fun hB => ?_)
    clear hK K hB
    try simp only [Act.put, List.setIfInBounds_toArray, List.set_cons_zero, List.set_cons_succ]
    refine wpAnyH_done (by kernel_rfl) ?_ _
    refine NoPanic.normal ?_
    clear P0
    go_wp2
    exact bodyPost_ret (v := .tuple #[v.val D, u.val E]) (by simp [results, Try.results53, go_sem, s0, s1, s2, s3, t0, t1, t2, t3]) rfl ⟨v, D, u, E, rfl, HND.out, HNE.out, FIN.out⟩
  case false =>
    go_upto_region 5 with fail
    replace HD : Hid (DI w w3.drew (0 + 1000 + 2) zb v D) := ⟨HD.out.blw.drew, HD.out.cur.blw (Blw.refl _).drew, HD.out.o1.blw (Blw.refl _).drew, HD.out.o2.blw (Blw.refl _).drew, HD.out.box.blw (Blw.refl _).drew, (HD.out.at_.blw (Blw.refl _).drew).mono (fun x hx => ⟨hx.1, by have := (Blw.refl w3).drew.size; omega⟩), HD.out.zb⟩
    have P0 : ∀ w', (Row w' zb 4 (nb v D)) → w'.cell? ⟨zb, 0, none⟩ = some (.slice v.g.a1 D.G.n v.g.c1) ∧ w'.cell? ⟨zb, 1, none⟩ = some (.slice v.g.a2 D.G.D.n v.g.c2) ∧ w'.cell? ⟨zb, 2, none⟩ = some (.slice v.h.a1 D.H.n v.h.c1) ∧ w'.cell? ⟨zb, 3, none⟩ = some (.slice v.h.a2 D.H.D.n v.h.c2) := fun w' hh => get4 hh
    refine wp_region_noPanic ?_
    refine wp_region_held_drew (S := (fun w' => Row w' zb 4 (nb v D))) (by kernel_rfl) HD.out.box (fun hB => ?_)
    clear hB
    generalize w3.drew = wd at *
    refine wpAnyH_take (i := 0) (oi := { dst := some 16, op := Op.load 60 (Operand.tmp 5), type := 60, pos := _, after := #[], guard := none }) (v := (.agg #[.slice v.g.a1 D.G.n v.g.c1, .slice v.g.a2 D.G.D.n v.g.c2, .slice v.h.a1 D.H.n v.h.c1, .slice v.h.a2 D.H.D.n v.h.c2])) rfl (by kernel_rfl) (by kernel_rfl) (by kernel_rfl) (fun _ _ _ h => h) (Or.inl ⟨by rfl, fun w' hS => by (try dsimp only at hS); go_simp⟩) HD.out.box ?_
    simp only [Act.put, List.setIfInBounds_toArray, List.set_cons_zero, List.set_cons_succ]
    refine wpAnyH_take (i := 1) (oi := { dst := some 17, op := Op.move (Operand.tmp 4), type := 101, pos := _, after := #[], guard := none }) (v := (.pointer (some ⟨w.heap.size + 1 + 1, 0, none⟩))) rfl (by kernel_rfl) (by kernel_rfl) (by kernel_rfl) (fun _ _ _ h => h) (Or.inl ⟨by rfl, fun w' hS => by (try dsimp only at hS); go_simp⟩) HD.out.box ?_
    simp only [Act.put, List.setIfInBounds_toArray, List.set_cons_zero, List.set_cons_succ]
    refine wpAnyH_take (i := 2) (oi := { dst := some 18, op := Op.move (Operand.tmp 4), type := 101, pos := _, after := #[], guard := none }) (v := (.pointer (some ⟨w.heap.size + 1 + 1, 0, none⟩))) rfl (by kernel_rfl) (by kernel_rfl) (by kernel_rfl) (fun _ _ _ h => h) (Or.inl ⟨by rfl, fun w' hS => by (try dsimp only at hS); go_simp⟩) HD.out.box ?_
    simp only [Act.put, List.setIfInBounds_toArray, List.set_cons_zero, List.set_cons_succ]
    refine wpAnyH_ready (rs := [3]) (by kernel_rfl) (by simp) ?_
    refine AllReadyH.cons (o := { dst := some 19, op := Op.call { callee := Callee.value (Operand.func 78), args := #[Operand.tmp 18, Operand.const (Value.int IntKind.i64 8)], argTypes := #[101, 3] }, type := 3, pos := _, after := #[{ on := 2, ground := Ground.data }], guard := none }) rfl (fun K hK => ?_) AllReadyH.nil
    go_simp
    refine (pick_any _ _ (0 + 1000 + 2) 8 _ (by omega) (by omega) HD.out.cur).mono ?_
    rintro e wp ⟨x, rfl, hx, hc, hm⟩
    replace HD : Hid (DI w wp (0 + 1000 + 2 + 2) zb v D) := HD.out.go hc hm
    have hx8 : x ≤ 8 := by omega
    clear hc hm
    refine hK.out _ _ HD.out.box (fun hB => ?_)
    clear hK K hB
    try simp only [Act.put, List.setIfInBounds_toArray, List.set_cons_zero, List.set_cons_succ]
    refine wpAnyH_ready (rs := [4]) (by kernel_rfl) (by simp) ?_
    refine AllReadyH.cons (o := { dst := some 20, op := Op.call { callee := Callee.value (Operand.func 117), args := #[Operand.tmp 17, Operand.tmp 19], argTypes := #[101, 3] }, type := 60, pos := _, after := #[{ on := 1, ground := Ground.data }, { on := 3, ground := Ground.data }, { on := 3, ground := Ground.chain }], guard := none }) rfl (fun K hK => ?_) AllReadyH.nil
    go_simp
    refine (nest_any _ (w.heap.size + 1 + 1) (0 + 1000 + 2 + 2) x _ (by omega) (by omega) (fun b hb => by have := HD.out.blw.size; have := HD.out.box.lt; have := HD.out.zb; omega) HD.out.cur).mono ?_
    rintro e wn ⟨u, E, rfl, hE, own, c1, m1⟩
    have HNE : Hid (NDr E) := hE
    have hsl := HD.out.blw.size
    have hbl := HD.out.box.lt
    have hzb := HD.out.zb
    replace HD : Hid (DI w wn (0 + 1000 + 2 + 2 + 1000) zb v D) := HD.out.go c1 m1
    have HU : Hid (NAt (fun x => zb < x ∧ x < wn.heap.size) wn u E) := own.at.mono (fun x hx => by omega)
    clear hE own c1 m1 hsl hbl hzb
    refine hK.out _ _ HD.out.box (fun hB => ?_)
    clear hK K hB
    try simp only [Act.put, List.setIfInBounds_toArray, List.set_cons_zero, List.set_cons_succ]
    refine wpAnyH_ready (rs := [5]) (by kernel_rfl) (by simp) ?_
    refine AllReadyH.cons (o := { dst := none, op := Op.store 60 (Operand.tmp 2) (Operand.tmp 16), type := 0, pos := _, after := #[{ on := 0, ground := Ground.data }, { on := 4, ground := Ground.chain }, { on := 0, ground := Ground.phase }, { on := 1, ground := Ground.textOnly Departure.lateStores }, { on := 2, ground := Ground.textOnly Departure.lateStores }, { on := 3, ground := Ground.textOnly Departure.lateStoresUnsure }, { on := 4, ground := Ground.textOnly Departure.lateStoresUnsure }], guard := none }) rfl (fun K hK => ?_) AllReadyH.nil
    obtain ⟨t0, t1, t2, t3⟩ := get4 HD.out.o1
    have f0 := HD.out.o1.frozen 0; have f1 := HD.out.o1.frozen 1; have f2 := HD.out.o1.frozen 2; have f3 := HD.out.o1.frozen 3
    go_simp
    have hm1 : Mod (fun x => x = w.heap.size) wn ((((wn.setCell ⟨w.heap.size, 0, none⟩ (.slice v.g.a1 D.G.n v.g.c1)).setCell ⟨w.heap.size, 1, none⟩ (.slice v.g.a2 D.G.D.n v.g.c2)).setCell ⟨w.heap.size, 2, none⟩ (.slice v.h.a1 D.H.n v.h.c1)).setCell ⟨w.heap.size, 3, none⟩ (.slice v.h.a2 D.H.D.n v.h.c2)) := set4_mod wn w.heap.size (.slice v.g.a1 D.G.n v.g.c1) (.slice v.g.a2 D.G.D.n v.g.c2) (.slice v.h.a1 D.H.n v.h.c1) (.slice v.h.a2 D.H.D.n v.h.c2)
    have hzb := HD.out.zb
    have hsz1 : wn.heap.size ≤ ((((wn.setCell ⟨w.heap.size, 0, none⟩ (.slice v.g.a1 D.G.n v.g.c1)).setCell ⟨w.heap.size, 1, none⟩ (.slice v.g.a2 D.G.D.n v.g.c2)).setCell ⟨w.heap.size, 2, none⟩ (.slice v.h.a1 D.H.n v.h.c1)).setCell ⟨w.heap.size, 3, none⟩ (.slice v.h.a2 D.H.D.n v.h.c2)).heap.size := hm1.size
    have HQ1 : Hid (Row ((((wn.setCell ⟨w.heap.size, 0, none⟩ (.slice v.g.a1 D.G.n v.g.c1)).setCell ⟨w.heap.size, 1, none⟩ (.slice v.g.a2 D.G.D.n v.g.c2)).setCell ⟨w.heap.size, 2, none⟩ (.slice v.h.a1 D.H.n v.h.c1)).setCell ⟨w.heap.size, 3, none⟩ (.slice v.h.a2 D.H.D.n v.h.c2)) w.heap.size 4 (nb v D)) := set4_23 (set4_01 HD.out.o1 _ _) _ _
    have HZ2 : Hid (Row ((((wn.setCell ⟨w.heap.size, 0, none⟩ (.slice v.g.a1 D.G.n v.g.c1)).setCell ⟨w.heap.size, 1, none⟩ (.slice v.g.a2 D.G.D.n v.g.c2)).setCell ⟨w.heap.size, 2, none⟩ (.slice v.h.a1 D.H.n v.h.c1)).setCell ⟨w.heap.size, 3, none⟩ (.slice v.h.a2 D.H.D.n v.h.c2)) (w.heap.size + 1) 4 (fun i => if i = 0 then .slice none 0 0 else if i = 1 then .slice none 0 0 else if i = 2 then .slice none 0 0 else .slice none 0 0)) := HD.out.o2.mod hm1 (by omega)
    have HV : Hid (NAt (fun x => w.heap.size + 1 + 1 < x ∧ x < wn.heap.size) ((((wn.setCell ⟨w.heap.size, 0, none⟩ (.slice v.g.a1 D.G.n v.g.c1)).setCell ⟨w.heap.size, 1, none⟩ (.slice v.g.a2 D.G.D.n v.g.c2)).setCell ⟨w.heap.size, 2, none⟩ (.slice v.h.a1 D.H.n v.h.c1)).setCell ⟨w.heap.size, 3, none⟩ (.slice v.h.a2 D.H.D.n v.h.c2)) v D) := HD.out.at_.mod hm1 (fun x hx e => by omega)
    have HU1 : Hid (NAt (fun x => zb < x ∧ x < wn.heap.size) ((((wn.setCell ⟨w.heap.size, 0, none⟩ (.slice v.g.a1 D.G.n v.g.c1)).setCell ⟨w.heap.size, 1, none⟩ (.slice v.g.a2 D.G.D.n v.g.c2)).setCell ⟨w.heap.size, 2, none⟩ (.slice v.h.a1 D.H.n v.h.c1)).setCell ⟨w.heap.size, 3, none⟩ (.slice v.h.a2 D.H.D.n v.h.c2)) u E) := HU.out.mod hm1 (fun x hx e => by omega)
    have HB1 : Hid (Blw w ((((wn.setCell ⟨w.heap.size, 0, none⟩ (.slice v.g.a1 D.G.n v.g.c1)).setCell ⟨w.heap.size, 1, none⟩ (.slice v.g.a2 D.G.D.n v.g.c2)).setCell ⟨w.heap.size, 2, none⟩ (.slice v.h.a1 D.H.n v.h.c1)).setCell ⟨w.heap.size, 3, none⟩ (.slice v.h.a2 D.H.D.n v.h.c2))) := Mod.blw HD.out.blw hm1 (fun i hi => by omega)
    have HBX : Hid (Row ((((wn.setCell ⟨w.heap.size, 0, none⟩ (.slice v.g.a1 D.G.n v.g.c1)).setCell ⟨w.heap.size, 1, none⟩ (.slice v.g.a2 D.G.D.n v.g.c2)).setCell ⟨w.heap.size, 2, none⟩ (.slice v.h.a1 D.H.n v.h.c1)).setCell ⟨w.heap.size, 3, none⟩ (.slice v.h.a2 D.H.D.n v.h.c2)) zb 4 (nb v D)) := HD.out.box.mod hm1 (by omega)
    have HSS : Hid (wn.heap.size ≤ ((((wn.setCell ⟨w.heap.size, 0, none⟩ (.slice v.g.a1 D.G.n v.g.c1)).setCell ⟨w.heap.size, 1, none⟩ (.slice v.g.a2 D.G.D.n v.g.c2)).setCell ⟨w.heap.size, 2, none⟩ (.slice v.h.a1 D.H.n v.h.c1)).setCell ⟨w.heap.size, 3, none⟩ (.slice v.h.a2 D.H.D.n v.h.c2)).heap.size) := hsz1
    clear hm1 hsz1 hzb
    refine hK.out _ _ HBX.out (fun hB => ?_)
    clear hK K hB
    try simp only [Act.put, List.setIfInBounds_toArray, List.set_cons_zero, List.set_cons_succ]
    clear t0 t1 t2 t3 f0 f1 f2 f3
    generalize hwq : ((((wn.setCell ⟨w.heap.size, 0, none⟩ (.slice v.g.a1 D.G.n v.g.c1)).setCell ⟨w.heap.size, 1, none⟩ (.slice v.g.a2 D.G.D.n v.g.c2)).setCell ⟨w.heap.size, 2, none⟩ (.slice v.h.a1 D.H.n v.h.c1)).setCell ⟨w.heap.size, 3, none⟩ (.slice v.h.a2 D.H.D.n v.h.c2)) = wq at *
    clear hwq
    refine wpAnyH_ready (rs := [6]) (by kernel_rfl) (by simp) ?_
    refine AllReadyH.cons (o := { dst := none, op := Op.store 60 (Operand.tmp 3) (Operand.tmp 20), type := 0, pos := _, after := #[{ on := 4, ground := Ground.data }, { on := 5, ground := Ground.chain }, { on := 0, ground := Ground.phase }, { on := 1, ground := Ground.phase }, { on := 2, ground := Ground.phase }, { on := 3, ground := Ground.phase }, { on := 4, ground := Ground.phase }, { on := 5, ground := Ground.phase }], guard := none }) rfl (fun K hK => ?_) AllReadyH.nil
    obtain ⟨t0, t1, t2, t3⟩ := get4 HZ2.out
    have f0 := HZ2.out.frozen 0; have f1 := HZ2.out.frozen 1; have f2 := HZ2.out.frozen 2; have f3 := HZ2.out.frozen 3
    go_simp
    have hm1 : Mod (fun x => x = w.heap.size + 1) wq ((((wq.setCell ⟨w.heap.size + 1, 0, none⟩ (.slice u.g.a1 E.G.n u.g.c1)).setCell ⟨w.heap.size + 1, 1, none⟩ (.slice u.g.a2 E.G.D.n u.g.c2)).setCell ⟨w.heap.size + 1, 2, none⟩ (.slice u.h.a1 E.H.n u.h.c1)).setCell ⟨w.heap.size + 1, 3, none⟩ (.slice u.h.a2 E.H.D.n u.h.c2)) := set4_mod wq (w.heap.size + 1) (.slice u.g.a1 E.G.n u.g.c1) (.slice u.g.a2 E.G.D.n u.g.c2) (.slice u.h.a1 E.H.n u.h.c1) (.slice u.h.a2 E.H.D.n u.h.c2)
    have hzb := HD.out.zb
    have hsz1 : wq.heap.size ≤ ((((wq.setCell ⟨w.heap.size + 1, 0, none⟩ (.slice u.g.a1 E.G.n u.g.c1)).setCell ⟨w.heap.size + 1, 1, none⟩ (.slice u.g.a2 E.G.D.n u.g.c2)).setCell ⟨w.heap.size + 1, 2, none⟩ (.slice u.h.a1 E.H.n u.h.c1)).setCell ⟨w.heap.size + 1, 3, none⟩ (.slice u.h.a2 E.H.D.n u.h.c2)).heap.size := hm1.size
    have hss := HSS.out
    obtain ⟨s0, s1, s2, s3⟩ := get4 HQ1.out
    have FIN : Hid (NAt (fun x => x < ((((wq.setCell ⟨w.heap.size + 1, 0, none⟩ (.slice u.g.a1 E.G.n u.g.c1)).setCell ⟨w.heap.size + 1, 1, none⟩ (.slice u.g.a2 E.G.D.n u.g.c2)).setCell ⟨w.heap.size + 1, 2, none⟩ (.slice u.h.a1 E.H.n u.h.c1)).setCell ⟨w.heap.size + 1, 3, none⟩ (.slice u.h.a2 E.H.D.n u.h.c2)).heap.size) ((((wq.setCell ⟨w.heap.size + 1, 0, none⟩ (.slice u.g.a1 E.G.n u.g.c1)).setCell ⟨w.heap.size + 1, 1, none⟩ (.slice u.g.a2 E.G.D.n u.g.c2)).setCell ⟨w.heap.size + 1, 2, none⟩ (.slice u.h.a1 E.H.n u.h.c1)).setCell ⟨w.heap.size + 1, 3, none⟩ (.slice u.h.a2 E.H.D.n u.h.c2)) v D ∧ NAt (fun x => x < ((((wq.setCell ⟨w.heap.size + 1, 0, none⟩ (.slice u.g.a1 E.G.n u.g.c1)).setCell ⟨w.heap.size + 1, 1, none⟩ (.slice u.g.a2 E.G.D.n u.g.c2)).setCell ⟨w.heap.size + 1, 2, none⟩ (.slice u.h.a1 E.H.n u.h.c1)).setCell ⟨w.heap.size + 1, 3, none⟩ (.slice u.h.a2 E.H.D.n u.h.c2)).heap.size) ((((wq.setCell ⟨w.heap.size + 1, 0, none⟩ (.slice u.g.a1 E.G.n u.g.c1)).setCell ⟨w.heap.size + 1, 1, none⟩ (.slice u.g.a2 E.G.D.n u.g.c2)).setCell ⟨w.heap.size + 1, 2, none⟩ (.slice u.h.a1 E.H.n u.h.c1)).setCell ⟨w.heap.size + 1, 3, none⟩ (.slice u.h.a2 E.H.D.n u.h.c2)) u E ∧ Blw w ((((wq.setCell ⟨w.heap.size + 1, 0, none⟩ (.slice u.g.a1 E.G.n u.g.c1)).setCell ⟨w.heap.size + 1, 1, none⟩ (.slice u.g.a2 E.G.D.n u.g.c2)).setCell ⟨w.heap.size + 1, 2, none⟩ (.slice u.h.a1 E.H.n u.h.c1)).setCell ⟨w.heap.size + 1, 3, none⟩ (.slice u.h.a2 E.H.D.n u.h.c2))) := ⟨(HV.out.mod hm1 (fun x hx e => by omega)).mono (fun x hx => by omega), (HU1.out.mod hm1 (fun x hx e => by omega)).mono (fun x hx => by omega), Mod.blw HB1.out hm1 (fun i hi => by omega)⟩
    have HBY : Hid (Row ((((wq.setCell ⟨w.heap.size + 1, 0, none⟩ (.slice u.g.a1 E.G.n u.g.c1)).setCell ⟨w.heap.size + 1, 1, none⟩ (.slice u.g.a2 E.G.D.n u.g.c2)).setCell ⟨w.heap.size + 1, 2, none⟩ (.slice u.h.a1 E.H.n u.h.c1)).setCell ⟨w.heap.size + 1, 3, none⟩ (.slice u.h.a2 E.H.D.n u.h.c2)) zb 4 (nb v D)) := HBX.out.mod hm1 (by omega)
    clear hm1 hsz1 hzb hss
    refine hK.out _ _ HBY.out (fun hB => ?_)
    clear hK K hB
    try simp only [Act.put, List.setIfInBounds_toArray, List.set_cons_zero, List.set_cons_succ]
    refine wpAnyH_done (by kernel_rfl) ?_ _
    refine NoPanic.normal ?_
    clear P0
    go_wp2
    exact bodyPost_ret (v := .tuple #[v.val D, u.val E]) (by simp [results, Try.results53, go_sem, s0, s1, s2, s3, t0, t1, t2, t3]) rfl ⟨v, D, u, E, rfl, HND.out, HNE.out, FIN.out⟩
end Go.Proofs.Ytjplodenflkghaa
