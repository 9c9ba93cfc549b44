/- Books that are drawn. -/
import Derived.Test.YtagjfkkjmgfoiaaDrawC
import Derived.Test.YtagjfkkjmgfoiaaAllI
namespace Go.Proofs.Ytagjfkkjmgfoiaa
open Go.RowKit
set_option linter.unusedSimpArgs false
set_option linter.unusedVariables false
/-- A book that is being drawn: its box at zs, at most j entries. -/
structure Bk (Y : Nat → Prop) (w wr : World) (C k zs j : Nat) : Prop where
  mod : Mod (fun b => b = C) w wr
  cur : Cur Y wr C k
  out : Row wr w.heap.size 2 (fun i => if i = 0 then .slice none 0 0 else .slice none 0 0)
  zl : w.heap.size < zs ∧ zs < wr.heap.size
  ex : ∃ b S, S.n = 8 ∧ S.k ≤ j ∧ Row wr zs 2 (fun i => if i = 0 then .slice b.a1 S.n b.c1 else .slice b.a2 S.k b.c2) ∧ BookAt (fun x => w.heap.size < x ∧ x < wr.heap.size ∧ x ≠ zs) wr b S ∧
    (S.k = 0 ∨ ∃ X1 X2, OwnB X1 X2 wr b S ∧ ∀ x, X1 x ∨ X2 x → w.heap.size < x ∧ x < wr.heap.size ∧ x ≠ zs)
theorem Bk.go {Y : Nat → Prop} {w wr w1 : World} {C k k' zs j : Nat} (hC : C < w.heap.size) (h : Bk Y w wr C k zs j) (hc : Cur Y w1 C k') (hm : Mod (fun b => b = C) wr w1) : Bk Y w w1 C k' zs j := by
  obtain ⟨b, S, h1, h2, h3, h4, h5⟩ := h.ex
  have hs := hm.size
  have hz := h.zl
  refine ⟨h.mod.trans hm, hc, h.out.mod hm (by omega), by omega, b, S, h1, h2, h3.mod hm (by omega), (h4.mod hm (fun x hx e => by omega)).mono (fun x hx => by omega), ?_⟩
  rcases h5 with h5 | ⟨X1, X2, h6, h7⟩
  · exact Or.inl h5
  · exact Or.inr ⟨X1, X2, h6.mod hm (fun x hx e => by have := h7 x (Or.inl hx); omega) (fun x hx e => by have := h7 x (Or.inr hx); omega), fun x hx => by have := h7 x hx; omega⟩
/-- A book of one's own put into the box. -/
theorem Bk.put {Y : Nat → Prop} {w wr w2 : World} {C k k' zs j : Nat} {b : BV} {R : BD} {X1 X2 : Nat → Prop} (hC : C < w.heap.size) (hY : ∀ x, Y x → x < w.heap.size) (h : Bk Y w wr C k zs j) (hm : Mod (fun b => b = C) w w2) (hc : Cur Y w2 C k') (ho : Row w2 w.heap.size 2 (fun i => if i = 0 then .slice none 0 0 else .slice none 0 0)) {u v : Value} (hbx : Row w2 zs 2 (fun i => if i = 0 then u else v)) (hs : wr.heap.size ≤ w2.heap.size)
    (hn : R.n = 8) {j' : Nat} (hk : R.k ≤ j') (hj : j' ≤ 1000) (own : OwnB X1 X2 w2 b R) (hX : ∀ x, X1 x ∨ X2 x → w.heap.size < x ∧ x < w2.heap.size ∧ x ≠ zs) :
    Bk Y w ((w2.setCell ⟨zs, 0, none⟩ (.slice b.a1 R.n b.c1)).setCell ⟨zs, 1, none⟩ (.slice b.a2 R.k b.c2)) C k' zs j' := by
  have hz := h.zl
  have ms := set2_mod (X := fun x => x = zs) w2 rfl (.slice b.a1 R.n b.c1) (.slice b.a2 R.k b.c2)
  have hs3 := ms.size
  have own3 := own.mod ms (fun x hx e => by have := hX x (Or.inl hx); omega) (fun x hx e => by have := hX x (Or.inr hx); omega)
  refine ⟨hm.newer' ms (fun i hi => by omega), hc.mod ms (by omega) (fun x hx e => by have := hY x hx; omega), ho.mod ms (by omega), by omega, b, R, hn, hk, ((hbx.set 0 _).set 1 _).congr (fun i hi => ?_), (own3.at (by omega)).mono (fun x hx => by have := hX x hx; omega), Or.inr ⟨X1, X2, own3, fun x hx => by have := hX x hx; omega⟩⟩
  match i, hi with
  | 0, _ => rfl
  | 1, _ => rfl
/-- What stands behind the last store. -/
theorem bk_fin {Y : Nat → Prop} {w wr : World} {C k' K : Nat} {b : BV} {S : BD} (hC : C < w.heap.size) (hY : ∀ x, Y x → x < w.heap.size) (hm : Mod (fun b => b = C) w wr) (hc : Cur Y wr C k') (hk' : k' ≤ K) (hz : w.heap.size < wr.heap.size) (hn : S.n = 8) (hk : S.k ≤ 9) (hat : BookAt (fun x => w.heap.size < x ∧ x < wr.heap.size) wr b S) :
    S.n = 8 ∧ S.k ≤ 9 ∧ BookAt (fun x => w.heap.size < x ∧ x < ((wr.setCell ⟨w.heap.size, 0, none⟩ (.slice b.a1 S.n b.c1)).setCell ⟨w.heap.size, 1, none⟩ (.slice b.a2 S.k b.c2)).heap.size) ((wr.setCell ⟨w.heap.size, 0, none⟩ (.slice b.a1 S.n b.c1)).setCell ⟨w.heap.size, 1, none⟩ (.slice b.a2 S.k b.c2)) b S ∧ Cur Y ((wr.setCell ⟨w.heap.size, 0, none⟩ (.slice b.a1 S.n b.c1)).setCell ⟨w.heap.size, 1, none⟩ (.slice b.a2 S.k b.c2)) C K ∧ Mod (fun b => b = C) w ((wr.setCell ⟨w.heap.size, 0, none⟩ (.slice b.a1 S.n b.c1)).setCell ⟨w.heap.size, 1, none⟩ (.slice b.a2 S.k b.c2)) := by
  have ms := set2_mod (X := fun x => x = w.heap.size) wr rfl (.slice b.a1 S.n b.c1) (.slice b.a2 S.k b.c2)
  have hs := ms.size
  exact ⟨hn, hk, (hat.mod ms (fun x hx e => by omega)).mono (fun x hx => by omega), (hc.mod ms (by omega) (fun x hx e => by have := hY x hx; omega)).le hk', hm.newer' ms (fun i hi => by omega)⟩
set_option maxRecDepth 10000 in
set_option maxHeartbeats 6400000 in
theorem book_any (Y : Nat → Prop) (C k : Nat) (w : World) (hk : k ≤ 700000) (hY : ∀ b, Y b → b < w.heap.size ∧ b ≠ C) (h : Cur Y w C k) :
    Calls Try.prog 52 #[.pointer (some ⟨C, 0, none⟩)] w fun e w' => ∃ b S, e = .returned (b.val S) ∧ S.n = 8 ∧ S.k ≤ 9 ∧ BookAt (fun x => w.heap.size < x ∧ x < w'.heap.size) w' b S ∧ Cur Y w' C (k + 400) ∧ Mod (fun b => b = C) w w' := by
  have hC := h.lt
  have hYw : ∀ x, Y x → x < w.heap.size := fun x hx => (hY x hx).1
  have hb0 : Blw w (w.alloc (.cells z2 26)) := (Blw.refl _).alloc _
  have r0 := box2 w (.slice none 0 0) (.slice none 0 0) 26
  have HC0 : Hid (Cur Y (w.alloc (.cells z2 26)) C k) := h.blw hb0
  clear h
  go_enter Try.func52, Try.ntmps52
  go_wp2_with fail
  refine (cells_any Y C k _ (by omega) (fun b hb => by have := hY b hb; simp; omega) HC0.out).mono ?_
  rintro e w1 ⟨v, rfl, hbl⟩
  obtain ⟨c, hbf⟩ := hbl.ex
  obtain ⟨ao, cap, rfl, hio⟩ := BufI.own hbf (by omega)
  have HI : Hid (IntsAt _ w1 ao 8 c) := hio.at
  have hm1 : Mod (fun b => b = C) w w1 := (hb0.mod _).trans hbl.mod
  have HM1 : Hid (Mod (fun b => b = C) w w1) := hm1
  have HC1 : Hid (Cur Y w1 C (k + 100)) := hbl.cur
  have r1 := r0.mod hbl.mod (by omega)
  clear hbl hbf hio hm1 r0 HC0 hb0
  go_wp2_with fail
  refine (specNew_any _ 8 cap c _ _ (by omega) HI.out).mono ?_
  rintro e w2 ⟨b2, R, r, rfl, ho2, hs2, own2, hb2⟩
  have hz1 := r1.lt
  have hs12 := hb2.size
  have hA : Blw w2 (w2.alloc (.cells #[.slice b2.a1 R.n b2.c1, .slice b2.a2 R.k b2.c2] 26)) := (Blw.refl _).alloc _
  have HC2 : Hid (Cur Y (w2.alloc (.cells #[.slice b2.a1 R.n b2.c1, .slice b2.a2 R.k b2.c2] 26)) C (k + 100)) := (HC1.out.blw hb2).blw hA
  have HM2 : Hid (Mod (fun b => b = C) w (w2.alloc (.cells #[.slice b2.a1 R.n b2.c1, .slice b2.a2 R.k b2.c2] 26))) := (HM1.out.trans (hb2.mod _)).trans (hA.mod _)
  have HR2 : Hid (Row (w2.alloc (.cells #[.slice b2.a1 R.n b2.c1, .slice b2.a2 R.k b2.c2] 26)) w.heap.size 2 (fun i => if i = 0 then .slice none 0 0 else .slice none 0 0)) := (r1.blw hb2).blw hA
  have HB2 : Hid (Row (w2.alloc (.cells #[.slice b2.a1 R.n b2.c1, .slice b2.a2 R.k b2.c2] 26)) w2.heap.size 2 (fun i => if i = 0 then .slice b2.a1 R.n b2.c1 else .slice b2.a2 R.k b2.c2)) := box2 w2 _ _ 26
  have HAT : Hid (BookAt (fun x => w.heap.size < x ∧ x < w2.heap.size) (w2.alloc (.cells #[.slice b2.a1 R.n b2.c1, .slice b2.a2 R.k b2.c2] 26)) b2 R) := (own2.at.mono (fun x hx => by omega)).blw hA
  have HZ : Hid (w.heap.size < w2.heap.size) := by show _ < _; omega
  have HO2 : Hid (nbOut 8 c R r) := ho2
  clear ho2 hs2 own2 hb2 r1 hz1 hs12 hA HC1 HM1 HI
  have key : ∀ (W : World), Mod (fun b => b = C) w W → Cur Y W C (k + 100) → Row W w.heap.size 2 (fun i => if i = 0 then .slice none 0 0 else .slice none 0 0) → w2.heap.size < W.heap.size → (∃ b S, S.n = 8 ∧ S.k = 0 ∧ Row W w2.heap.size 2 (fun i => if i = 0 then .slice b.a1 S.n b.c1 else .slice b.a2 S.k b.c2) ∧ BookAt (fun x => w.heap.size < x ∧ x < W.heap.size ∧ x ≠ w2.heap.size) W b S) → Bk Y w W C (k + 100) w2.heap.size 0 := fun W h1 h2 h3 h4 ⟨b, S, h5, h6, h7, h8⟩ => ⟨h1, h2, h3, ⟨HZ.out, h4⟩, b, S, h5, by omega, h7, h8, Or.inl h6⟩
  have KEY : Hid (∀ (W : World), Mod (fun b => b = C) w W → Cur Y W C (k + 100) → Row W w.heap.size 2 (fun i => if i = 0 then .slice none 0 0 else .slice none 0 0) → w2.heap.size < W.heap.size → (∃ b S, S.n = 8 ∧ S.k = 0 ∧ Row W w2.heap.size 2 (fun i => if i = 0 then .slice b.a1 S.n b.c1 else .slice b.a2 S.k b.c2) ∧ BookAt (fun x => w.heap.size < x ∧ x < W.heap.size ∧ x ≠ w2.heap.size) W b S) → Bk Y w W C (k + 100) w2.heap.size 0) := key
  clear key
  go_upto_if 13 with fail
  go_cut [] from 14 to 18 (fun wx => Bk Y w wx C (k + 100) w2.heap.size 0)
  case first =>
    cases r
    · have hm8 := mk8
      go_wp2_with fail
      clear hm8
      have hA8 : Blw (w2.alloc (.cells #[.slice b2.a1 R.n b2.c1, .slice b2.a2 R.k b2.c2] 26)) ((w2.alloc (.cells #[.slice b2.a1 R.n b2.c1, .slice b2.a2 R.k b2.c2] 26)).alloc (.cells (madeCells #[.int .i64 0] 8) 3)) := (Blw.refl _).alloc _
      have HZ8 : Hid (IntsAt (fun x => x = (w2.alloc (.cells #[.slice b2.a1 R.n b2.c1, .slice b2.a2 R.k b2.c2] 26)).heap.size) ((w2.alloc (.cells #[.slice b2.a1 R.n b2.c1, .slice b2.a2 R.k b2.c2] 26)).alloc (.cells (madeCells #[.int .i64 0] 8) 3)) (some ⟨(w2.alloc (.cells #[.slice b2.a1 R.n b2.c1, .slice b2.a2 R.k b2.c2] 26)).heap.size, 0, none⟩) 8 (fun _ => 0)) := ⟨by omega, fun i hi => ⟨_, 0, rfl, rfl, by rw [Nat.zero_add]; exact (Row.made _ (.int .i64 0) 8 3).cell hi⟩⟩
      rw [World.size_alloc] at HZ8
      refine (specNew_any _ 8 8 (fun _ => 0) _ _ (by omega) HZ8.out).mono ?_
      rintro e w3 ⟨b3, R3, r3, rfl, ho3, hs3, own3, hb3⟩
      have eR : R3 = ⟨8, fun _ => 0, 0, zf, zf⟩ := by
        rcases ho3 with ⟨-, -, e⟩ | ⟨g, -⟩
        · exact e
        · exact absurd ⟨rfl, fun i hi => ⟨by show (0 : Int) ≤ 0; omega, by show (0 : Int) ≤ 65535; omega⟩⟩ g
      subst eR
      have hb23 := hA8.trans hb3
      have bx := HB2.out.blw hb23
      obtain ⟨p0, p1⟩ := get2 bx
      have f0 := bx.frozen 0
      have f1 := bx.frozen 1
      have ms := set2_mod (X := fun x => x = w2.heap.size) w3 rfl (.slice b3.a1 8 b3.c1) (.slice b3.a2 0 b3.c2)
      have hs := ms.size
      have hs23 := hb23.size
      have hA8s := hb3.size
      simp only [World.size_alloc] at hs23 hA8s
      have FIN : Hid (Bk Y w ((w3.setCell ⟨w2.heap.size, 0, none⟩ (.slice b3.a1 8 b3.c1)).setCell ⟨w2.heap.size, 1, none⟩ (.slice b3.a2 0 b3.c2)) C (k + 100) w2.heap.size 0) := KEY.out _ ((HM2.out.trans (hb23.mod _)).newer' ms (fun i hi => by have := HZ.out; omega)) ((HC2.out.blw hb23).mod ms (by have := HZ.out; omega) (fun x hx e => by have := hYw x hx; have := HZ.out; omega)) ((HR2.out.blw hb23).mod ms (by have := HZ.out; omega)) (by omega)
        ⟨b3, _, rfl, rfl, ((bx.set 0 _).set 1 _).congr (fun i hi => by
          match i, hi with
          | 0, _ => rfl
          | 1, _ => rfl), ((own3.at.mono (Y := fun x => w.heap.size < x ∧ x < w3.heap.size ∧ x ≠ w2.heap.size) (fun x hx => by have := HZ.out; have h1 := hx.1; simp only [World.size_alloc] at h1; omega)).mod ms (fun x hx e => by omega)).mono (fun x hx => by omega)⟩
      clear ho3 hs3 own3 hb3 hb23 bx ms HZ8 hA8
      go_wp2_with fail
      go_meet
      exact FIN.out
    · have FIN : Hid (Bk Y w (w2.alloc (.cells #[.slice b2.a1 R.n b2.c1, .slice b2.a2 R.k b2.c2] 26)) C (k + 100) w2.heap.size 0) := KEY.out _ HM2.out HC2.out HR2.out (by simp) (by
        rcases HO2.out with ⟨-, -, e⟩ | ⟨-, e, -⟩
        · subst e
          exact ⟨b2, _, rfl, rfl, HB2.out, HAT.out.mono (fun x hx => by simp; omega)⟩
        · cases e)
      go_wp2_with fail
      go_meet
      exact FIN.out
  case rest =>
    have HK : Hid (Bk Y w wc C (k + 100) w2.heap.size 0) := hcut
    clear hcut KEY HC2 HM2 HR2 HB2 HAT HO2
    generalize w2.heap.size = zs at *
    go_wp2_with fail
    refine (pick_any Y C (k + 100) 8 _ (by omega) (by omega) HK.out.cur).mono ?_
    rintro e w3 ⟨n, rfl, hn8, hc3, hm3⟩
    have HK3 : Hid (Bk Y w w3 C (k + 102) zs 0) := HK.out.go hC hc3 hm3
    clear HK hc3 hm3
    go_wp2_with fail
    go_loopw [5] (fun v wr => ∃ i : Nat, i ≤ 7 ∧ v = .int .i64 i ∧ Bk Y w wr C (k + 102 + 4 * (7 - i)) zs (7 - i)) (fun v _ => (intOf v).toNat)
    case atStart => exact ⟨n, by omega, rfl, ⟨HK3.out.mod, HK3.out.cur.le (by omega), HK3.out.out, HK3.out.zl, by obtain ⟨b, S, h1, h2, h3⟩ := HK3.out.ex; exact ⟨b, S, h1, by omega, h3⟩⟩⟩
    case round =>
      obtain ⟨i, hi7, rfl, hbk⟩ := hrel
      clear HK3
      have HK : Hid (Bk Y w wr C (k + 102 + 4 * (7 - i)) zs (7 - i)) := hbk
      obtain ⟨b4, S, hSn, hSk, hbx, hat, hor⟩ := hbk.ex
      obtain ⟨p0, p1⟩ := get2 hbx
      have HSN : Hid (S.n = 8) := hSn
      have HAT : Hid (BookAt (fun x => w.heap.size < x ∧ x < wr.heap.size ∧ x ≠ zs) wr b4 S) := hat
      have HBX : Hid (Row wr zs 2 (fun i => if i = 0 then .slice b4.a1 S.n b4.c1 else .slice b4.a2 S.k b4.c2)) := hbx
      have HOR : Hid (S.k = 0 ∨ ∃ X1 X2, OwnB X1 X2 wr b4 S ∧ ∀ x, X1 x ∨ X2 x → w.heap.size < x ∧ x < wr.heap.size ∧ x ≠ zs) := hor
      clear hbk hSn hbx hat hor
      by_cases hi0 : 0 < i
      · have hi0' : (0 : Int) < i := by omega
        go_wp2_with fail
        clear p0 p1
        refine (l3Own_any b4 S _ _ (by have := HSN.out; omega) HAT.out).mono ?_
        rintro e w5 ⟨b5, rfl, X1, X2, own5, hX5, hb5⟩
        have HK5 : Hid (Bk Y w w5 C (k + 102 + 4 * (7 - i)) zs (7 - i)) := HK.out.go hC (HK.out.cur.blw hb5) (hb5.mod _)
        have hs5 := hb5.size
        have hws := HK.out.mod.size
        have HX5 : Hid (∀ x, X1 x ∨ X2 x → w.heap.size < x ∧ wr.heap.size < x ∧ x < w5.heap.size) := fun x hx => by have := hX5 x hx; omega
        have HO5 : Hid (OwnB X1 X2 w5 b5 S) := own5
        have HBX5 : Hid (Row w5 zs 2 (fun i => if i = 0 then .slice b4.a1 S.n b4.c1 else .slice b4.a2 S.k b4.c2)) := HBX.out.blw hb5
        have HZS : Hid (zs < wr.heap.size) := HK.out.zl.2
        clear own5 hX5 hb5 HAT HBX HOR HK hs5 hws
        go_wp2_with fail
        refine (pick_any Y C _ 8 _ (by omega) (by omega) HK5.out.cur).mono ?_
        rintro e w6 ⟨x, rfl, hx8, hc6, hm6⟩
        have HK6 : Hid (Bk Y w w6 C (k + 102 + 4 * (7 - i) + 2) zs (7 - i)) := HK5.out.go hC hc6 hm6
        have HO6 : Hid (OwnB X1 X2 w6 b5 S) := HO5.out.mod hm6 (fun y hy e => by have := HX5.out y (Or.inl hy); omega) (fun y hy e => by have := HX5.out y (Or.inr hy); omega)
        have HBX6 : Hid (Row w6 zs 2 (fun i => if i = 0 then .slice b4.a1 S.n b4.c1 else .slice b4.a2 S.k b4.c2)) := HBX5.out.mod hm6 (by have := HK5.out.zl; omega)
        have HX6 : Hid (∀ x, X1 x ∨ X2 x → w.heap.size < x ∧ wr.heap.size < x ∧ x < w6.heap.size) := fun y hy => by have := HX5.out y hy; have := hm6.size; omega
        clear hc6 hm6 HK5 HO5 HBX5 HX5
        go_wp2_with fail
        refine (pick_any Y C _ 9 _ (by omega) (by omega) HK6.out.cur).mono ?_
        rintro e w7 ⟨y, rfl, hy9, hc7, hm7⟩
        have HK7 : Hid (Bk Y w w7 C (k + 102 + 4 * (7 - i) + 2 + 2) zs (7 - i)) := HK6.out.go hC hc7 hm7
        have HO7 : Hid (OwnB X1 X2 w7 b5 S) := HO6.out.mod hm7 (fun y hy e => by have := HX6.out y (Or.inl hy); omega) (fun y hy e => by have := HX6.out y (Or.inr hy); omega)
        have HBX7 : Hid (Row w7 zs 2 (fun i => if i = 0 then .slice b4.a1 S.n b4.c1 else .slice b4.a2 S.k b4.c2)) := HBX6.out.mod hm7 (by have := HK6.out.zl; omega)
        have HX7 : Hid (∀ x, X1 x ∨ X2 x → w.heap.size < x ∧ wr.heap.size < x ∧ x < w7.heap.size) := fun y hy => by have := HX6.out y hy; have := hm7.size; omega
        clear hc7 hm7 HK6 HO6 HBX6 HX6
        go_wp2_with fail
        refine (l3Write_any b5 S X1 X2 x y _ HSN.out (by omega) (by omega) (fun z hz => (HX7.out z hz).2.2) HO7.out).mono ?_
        rintro e w8 ⟨b8, R, rfl, hwr⟩
        have hm8 : Mod (fun b => b = C) w w8 := HK7.out.mod.newer' hwr.mod (fun z hz => by have := HX7.out z hz; omega)
        have hle := logged_le hwr.l
        have hs8 := hwr.mod.size
        have bx8 := HBX7.out.mod hwr.mod (fun e => by have := HX7.out _ e; have := HZS.out; omega)
        obtain ⟨p0, p1⟩ := get2 bx8
        have f0 := bx8.frozen 0
        have f1 := bx8.frozen 1
        have FIN : Hid (Bk Y w ((w8.setCell ⟨zs, 0, none⟩ (.slice b8.a1 R.n b8.c1)).setCell ⟨zs, 1, none⟩ (.slice b8.a2 R.k b8.c2)) C (k + 102 + 4 * (7 - (i - 1))) zs (7 - (i - 1))) := by
          have hz := HK7.out.zl
          have hzs := HZS.out
          have hws := HK7.out.mod.size
          refine Bk.put hC hYw HK7.out hm8 ((HK7.out.cur.mod hwr.mod (fun e => by have := HX7.out C e; omega) (fun z hz e => by have := HX7.out z e; have := hYw z hz; omega)).le (by omega)) (HK7.out.out.mod hwr.mod (fun e => by have := HX7.out _ e; omega)) bx8 hs8 hwr.n8 (by omega) (by omega) hwr.own (fun z hz => ?_)
          rcases hz with hz | hz
          · have := HX7.out z (Or.inl hz); omega
          · rcases hz.1 with h1 | h1
            · have := HX7.out z (Or.inr h1); omega
            · have := hz.2; omega
        clear hwr hm8 hle hs8 bx8 HK7 HO7 HBX7 HX7 HSN
        go_wp2
        go_roundw
        case rel => exact ⟨i - 1, by omega, by congr 1; omega, FIN.out⟩
        case measure => simp [intOf]; omega
      · obtain rfl : i = 0 := by omega
        by_cases hk0 : S.k = 0
        · have hk0' : ¬ (0 : Int) < (S.k : Int) := by omega
          obtain ⟨t0, t1⟩ := get2 HK.out.out
          have f0 := HK.out.out.frozen 0
          have f1 := HK.out.out.frozen 1
          have FIN : Hid _ := bk_fin (K := k + 400) hC hYw HK.out.mod HK.out.cur (by omega) (by have := HK.out.zl; omega) HSN.out (by omega) (HAT.out.mono (fun x hx => by omega))
          clear hk0 HK HSN HAT HBX HOR hSk
          go_wp2
          exact bodyPost_ret (v := b4.val S) (by simp [results, Try.results52, go_sem, t0, t1, BV.val]) rfl ⟨b4, S, rfl, FIN.out⟩
        · have hk0' : (0 : Int) < (S.k : Int) := by omega
          have HKP : Hid (0 < S.k) := by show _ < _; omega
          have HSK : Hid (S.k ≤ 7) := hSk
          clear hk0 hSk
          go_wp2_with fail
          clear p0 p1
          refine (one_any Y C _ 30 _ (by omega) (by omega) HK.out.cur).mono ?_
          rintro e w9 ⟨q, rfl, hc9, hm9⟩
          have HK9 : Hid (Bk Y w w9 C (k + 102 + 4 * (7 - 0) + 2) zs (7 - 0)) := HK.out.go hC hc9 hm9
          have hzl := HK.out.zl
          have bx9 := HBX.out.mod hm9 (by omega)
          have HAT9 : Hid (BookAt (fun x => w.heap.size < x ∧ x < wr.heap.size ∧ x ≠ zs) w9 b4 S) := HAT.out.mod hm9 (fun x hx e => by omega)
          have hor9 : ∃ X1 X2, OwnB X1 X2 w9 b4 S ∧ ∀ x, X1 x ∨ X2 x → w.heap.size < x ∧ x < wr.heap.size ∧ x ≠ zs := by
            rcases HOR.out with h | ⟨X1, X2, h, hX⟩
            · have := HKP.out; omega
            · exact ⟨X1, X2, h.mod hm9 (fun x hx e => by have := hX x (Or.inl hx); omega) (fun x hx e => by have := hX x (Or.inr hx); omega), hX⟩
          have hs9 := hm9.size
          clear HK HBX HAT HOR hc9 hm9
          obtain ⟨p0, p1⟩ := get2 bx9
          cases q
          · obtain ⟨t0, t1⟩ := get2 HK9.out.out
            have f0 := HK9.out.out.frozen 0
            have f1 := HK9.out.out.frozen 1
            have FIN : Hid _ := bk_fin (K := k + 400) hC hYw HK9.out.mod HK9.out.cur (by omega) (by omega) HSN.out (by have := HSK.out; omega) (HAT9.out.mono (fun x hx => by omega))
            clear HK9 HSN HAT9 bx9 hor9 HKP HSK hzl hs9
            go_wp2
            exact bodyPost_ret (v := b4.val S) (by simp [results, Try.results52, go_sem, t0, t1, BV.val]) rfl ⟨b4, S, rfl, FIN.out⟩
          · obtain ⟨X1, X2, own, hX⟩ := hor9
            obtain ⟨b1, b2, c1, c2⟩ := b4
            obtain ⟨n, c, kk, lc, lw⟩ := S
            dsimp only at *
            obtain ⟨ao, cap, e', hu⟩ := BufU.own own.l (show kk ≤ 9223372036854775807 by have := HSK.out; omega)
            cases e'
            obtain ⟨gl, hgX, rfl, hrow⟩ := hu.2 HKP.out
            obtain ⟨l0, l1⟩ := undo_get hrow (i := 0) HKP.out
            obtain ⟨a2', cap2, w2, hrun, hB, hM⟩ := pushU own.l (show kk ≤ 1048576 by have := HSK.out; omega) (lc 0) (lw 0)
            have HRN : Hid _ := hrun
            have hM0 : Mod (fun y => X2 y) w9 w2 := hM.mono (fun y hy => own.l.2 y hy)
            have s2 := hM0.size
            have hA : Blw w9 (w9.alloc (.cells #[.int .i64 (lc 0), .int .i64 (lw 0)] 69)) := (Blw.refl _).alloc _
            have qa : (w9.alloc (.cells #[.int .i64 (lc 0), .int .i64 (lw 0)] 69)).cell? ⟨zs, 1, none⟩ = some (.slice (some ⟨gl, 0, none⟩) kk c2) := hA.cell p1
            have bx2 := bx9.mod hM0 (fun e => by have := hX _ (Or.inr e); omega)
            obtain ⟨u0, u1⟩ := get2 bx2
            have fu := bx2.frozen 1
            have ms : Mod (fun y => y = zs) w2 (w2.setCell ⟨zs, 1, none⟩ (.slice a2' (kk + 1) cap2)) := Mod.setCell (X := fun y => y = zs) _ (p := ⟨zs, 1, none⟩) rfl _
            have ss := ms.size
            have bx3 := bx2.set 1 (.slice a2' (kk + 1) cap2)
            have q0 : (w2.setCell ⟨zs, 1, none⟩ (.slice a2' (kk + 1) cap2)).cell? ⟨zs, 0, none⟩ = some (.slice b1 n c1) := by
              have := bx3.cell (i := 0) (by omega)
              simpa using this
            have q1 : (w2.setCell ⟨zs, 1, none⟩ (.slice a2' (kk + 1) cap2)).cell? ⟨zs, 1, none⟩ = some (.slice a2' (kk + 1) cap2) := by
              have := bx3.cell (i := 1) (by omega)
              simpa using this
            have r3 := (HK9.out.out.mod hM0 (fun e => by have := hX _ (Or.inr e); omega)).mod ms (by omega)
            obtain ⟨t0, t1⟩ := get2 r3
            have f0 := r3.frozen 0
            have f1 := r3.frozen 1
            have m3 : Mod (fun b => b = C) w (w2.setCell ⟨zs, 1, none⟩ (.slice a2' (kk + 1) cap2)) := (HK9.out.mod.newer' hM0 (fun x hx => by have := hX x (Or.inr hx); omega)).newer' ms (fun x hx => by omega)
            have c3 := (HK9.out.cur.mod hM0 (fun e => by have := hX _ (Or.inr e); omega) (fun x hx e => by have := hX _ (Or.inr e); have := hYw x hx; omega)).mod ms (by omega) (fun x hx e => by have := hYw x hx; omega)
            have own2 : OwnB X1 (fun b => (X2 b ∨ w9.heap.size < b) ∧ b < w2.heap.size) w2 ⟨b1, a2', c1, cap2⟩ ⟨n, c, kk + 1, snoc kk lc (lc 0), snoc kk lw (lw 0)⟩ := ⟨own.c.mod hM0 (fun y hy e => own.d y hy e), hB, fun y hy hh => by
              rcases hh.1 with h | h
              · exact own.d y hy h
              · have := hX y (Or.inl hy); omega⟩
            have FIN : Hid _ := bk_fin (K := k + 400) (b := ⟨b1, a2', c1, cap2⟩) (S := ⟨n, c, kk + 1, snoc kk lc (lc 0), snoc kk lw (lw 0)⟩) hC hYw m3 c3 (by omega) (by omega) HSN.out (by have := HSK.out; (try dsimp only); omega)
              (((own2.at (by have := HSK.out; (try dsimp only); omega)).mono (Y := fun x => w.heap.size < x ∧ x < w2.heap.size ∧ x ≠ zs) (fun x hx => by
                rcases hx with hx | hx
                · have := hX x (Or.inl hx); omega
                · rcases hx.1 with h | h
                  · have := hX x (Or.inr h); omega
                  · have := hx.2; omega)).mod ms (fun x hx e => by omega) |>.mono (fun x hx => by omega))
            have Q0 : Hid _ := q0
            have Q1 : Hid _ := q1
            have T0 : Hid _ := t0
            have T1 : Hid _ := t1
            have F0 : Hid _ := f0
            have F1 : Hid _ := f1
            have U1 : Hid _ := u1
            have FU : Hid _ := fu
            have hkp : (0 : Int) < (kk : Int) := hk0'
            clear q0 q1 t0 t1 f0 f1 u0 u1 fu bx2 bx3 bx9 r3 m3 c3 own2 own hB hM hM0 hrun ms hu hrow HK9 HAT9 HSN HSK HKP hX hA hs9 s2 ss hzl
            go_wp2_with fail
            refine wp_region_noPanic ?_
            refine wp_region_held_drew (S := fun _ => True) (by kernel_rfl) trivial (fun hB => ?_)
            clear hB
            refine wpAnyH_take (i := 0) (oi := { dst := some 40, op := Op.fieldAddr 26 (Operand.tmp 3) 1, type := 0, pos := _, after := #[], guard := none }) (v := (.pointer (some ⟨zs, 1, none⟩))) rfl (by kernel_rfl) (by kernel_rfl) (by kernel_rfl) (fun _ _ _ h => h) (Or.inl ⟨by rfl, fun w' hS => by go_simp⟩) trivial ?_
            simp only [Act.put, List.setIfInBounds_toArray, List.set_cons_zero, List.set_cons_succ]
            refine wpAnyH_take (i := 2) (oi := { dst := some 42, op := Op.fieldAddr 26 (Operand.tmp 3) 1, type := 0, pos := _, after := #[], guard := none }) (v := (.pointer (some ⟨zs, 1, none⟩))) rfl (by kernel_rfl) (by kernel_rfl) (by kernel_rfl) (fun _ _ _ h => h) (Or.inl ⟨by rfl, fun w' hS => by go_simp⟩) trivial ?_
            simp only [Act.put, List.setIfInBounds_toArray, List.set_cons_zero, List.set_cons_succ]
            refine wpAnyH_ready (rs := [1, 3]) (by kernel_rfl) (by simp) ?_
            refine (AllReadyH.cons (o := { dst := some 41, op := Op.load 24 (Operand.tmp 40), type := 24, pos := _, after := #[{ on := 0, ground := Ground.data }], guard := none }) rfl (fun K hK => ?_) (AllReadyH.cons (o := { dst := some 43, op := Op.load 24 (Operand.tmp 42), type := 24, pos := _, after := #[{ on := 2, ground := Ground.data }], guard := none }) rfl (fun K hK => ?_) AllReadyH.nil))
            · go_simp
              refine hK.out _ _ trivial (fun hB => ?_)
              clear hK K hB
              try simp only [Act.put, List.setIfInBounds_toArray, List.set_cons_zero, List.set_cons_succ]
              refine wpAnyH_ready (rs := [3]) (by kernel_rfl) (by simp) ?_
              refine (AllReadyH.cons (o := { dst := some 43, op := Op.load 24 (Operand.tmp 42), type := 24, pos := _, after := #[{ on := 2, ground := Ground.data }], guard := none }) rfl (fun K hK => ?_) AllReadyH.nil)
              go_simp
              refine hK.out _ _ trivial (fun hB => ?_)
              clear hK K hB
              try simp only [Act.put, List.setIfInBounds_toArray, List.set_cons_zero, List.set_cons_succ]
              refine wpAnyH_take (i := 4) (oi := { dst := some 44, op := Op.indexAddr 24 (Operand.tmp 43) (Operand.const (Value.int IntKind.i64 0)), type := 0, pos := _, after := #[{ on := 3, ground := Ground.data }], guard := none }) (v := (.pointer (some ⟨gl, 0, none⟩))) rfl (by kernel_rfl) (by kernel_rfl) (by kernel_rfl) (fun _ _ _ h => h) (Or.inl ⟨by rfl, fun w' hS => by go_simp⟩) trivial ?_
              simp only [Act.put, List.setIfInBounds_toArray, List.set_cons_zero, List.set_cons_succ]
              refine wpAnyH_ready (rs := [5]) (by kernel_rfl) (by simp) ?_
              refine (AllReadyH.cons (o := { dst := some 45, op := Op.load 69 (Operand.tmp 44), type := 69, pos := _, after := #[{ on := 4, ground := Ground.data }], guard := none }) rfl (fun K hK => ?_) AllReadyH.nil)
              go_simp
              refine hK.out _ _ trivial (fun hB => ?_)
              clear hK K hB
              try simp only [Act.put, List.setIfInBounds_toArray, List.set_cons_zero, List.set_cons_succ]
              refine wpAnyH_ready (rs := [6]) (by kernel_rfl) (by simp) ?_
              refine (AllReadyH.cons (o := { dst := some 46, op := Op.buildSlice 24 1 #[(0, Operand.tmp 45)], type := 24, pos := _, after := #[{ on := 5, ground := Ground.data }], guard := none }) rfl (fun K hK => ?_) AllReadyH.nil)
              go_simp
              refine hK.out _ _ trivial (fun hB => ?_)
              clear hK K hB
              try simp only [Act.put, List.setIfInBounds_toArray, List.set_cons_zero, List.set_cons_succ]
              refine wpAnyH_ready (rs := [7]) (by kernel_rfl) (by simp) ?_
              refine (AllReadyH.cons (o := { dst := some 47, op := Op.call { callee := Callee.builtin Builtin.append, args := #[Operand.tmp 41, Operand.tmp 46], argTypes := #[24, 24] }, type := 24, pos := _, after := #[{ on := 1, ground := Ground.data }, { on := 6, ground := Ground.data }], guard := none }) rfl (fun K hK => ?_) AllReadyH.nil)
              refine step_appIs 41 46 24 (by decide +kernel) ?_
              refine ⟨_, _, HRN.out, ?_⟩
              refine hK.out _ _ trivial (fun hB => ?_)
              clear hK K hB
              try simp only [Act.put, List.setIfInBounds_toArray, List.set_cons_zero, List.set_cons_succ]
              refine wpAnyH_take (i := 8) (oi := { dst := some 48, op := Op.fieldAddr 26 (Operand.tmp 3) 1, type := 0, pos := _, after := #[{ on := 0, ground := Ground.phase }, { on := 1, ground := Ground.phase }, { on := 2, ground := Ground.phase }, { on := 3, ground := Ground.phase }, { on := 4, ground := Ground.phase }, { on := 5, ground := Ground.phase }, { on := 6, ground := Ground.phase }, { on := 7, ground := Ground.phase }], guard := none }) (v := (.pointer (some ⟨zs, 1, none⟩))) rfl (by kernel_rfl) (by kernel_rfl) (by kernel_rfl) (fun _ _ _ h => h) (Or.inl ⟨by rfl, fun w' hS => by go_simp⟩) trivial ?_
              simp only [Act.put, List.setIfInBounds_toArray, List.set_cons_zero, List.set_cons_succ]
              refine wpAnyH_ready (rs := [9]) (by kernel_rfl) (by simp) ?_
              refine (AllReadyH.cons (o := { dst := none, op := Op.store 24 (Operand.tmp 48) (Operand.tmp 47), type := 0, pos := _, after := #[{ on := 8, ground := Ground.data }, { on := 7, ground := Ground.data }, { on := 7, ground := Ground.chain }, { on := 0, ground := Ground.phase }, { on := 1, ground := Ground.phase }, { on := 2, ground := Ground.phase }, { on := 3, ground := Ground.phase }, { on := 4, ground := Ground.phase }, { on := 5, ground := Ground.phase }, { on := 6, ground := Ground.phase }, { on := 7, ground := Ground.phase }], guard := none }) rfl (fun K hK => ?_) AllReadyH.nil)
              have u1 := U1.out
              have fu := FU.out
              go_simp
              refine hK.out _ _ trivial (fun hB => ?_)
              clear hK K hB
              try simp only [Act.put, List.setIfInBounds_toArray, List.set_cons_zero, List.set_cons_succ]
              refine wpAnyH_done (by kernel_rfl) ?_ _
              refine NoPanic.normal ?_
              have q0 := Q0.out
              have q1 := Q1.out
              have t0 := T0.out
              have t1 := T1.out
              have f0 := F0.out
              have f1 := F1.out
              go_wp2
              exact bodyPost_ret (v := .agg #[.slice b1 n c1, .slice a2' (kk + 1) cap2]) (by simp [results, Try.results52, go_sem, t0, t1, BV.val]) rfl ⟨⟨b1, a2', c1, cap2⟩, ⟨n, c, kk + 1, snoc kk lc (lc 0), snoc kk lw (lw 0)⟩, rfl, FIN.out⟩
            · go_simp
              refine hK.out _ _ trivial (fun hB => ?_)
              clear hK K hB
              try simp only [Act.put, List.setIfInBounds_toArray, List.set_cons_zero, List.set_cons_succ]
              refine wpAnyH_take (i := 4) (oi := { dst := some 44, op := Op.indexAddr 24 (Operand.tmp 43) (Operand.const (Value.int IntKind.i64 0)), type := 0, pos := _, after := #[{ on := 3, ground := Ground.data }], guard := none }) (v := (.pointer (some ⟨gl, 0, none⟩))) rfl (by kernel_rfl) (by kernel_rfl) (by kernel_rfl) (fun _ _ _ h => h) (Or.inl ⟨by rfl, fun w' hS => by go_simp⟩) trivial ?_
              simp only [Act.put, List.setIfInBounds_toArray, List.set_cons_zero, List.set_cons_succ]
              refine wpAnyH_ready (rs := [1, 5]) (by kernel_rfl) (by simp) ?_
              refine (AllReadyH.cons (o := { dst := some 41, op := Op.load 24 (Operand.tmp 40), type := 24, pos := _, after := #[{ on := 0, ground := Ground.data }], guard := none }) rfl (fun K hK => ?_) (AllReadyH.cons (o := { dst := some 45, op := Op.load 69 (Operand.tmp 44), type := 69, pos := _, after := #[{ on := 4, ground := Ground.data }], guard := none }) rfl (fun K hK => ?_) AllReadyH.nil))
              · go_simp
                refine hK.out _ _ trivial (fun hB => ?_)
                clear hK K hB
                try simp only [Act.put, List.setIfInBounds_toArray, List.set_cons_zero, List.set_cons_succ]
                refine wpAnyH_ready (rs := [5]) (by kernel_rfl) (by simp) ?_
                refine (AllReadyH.cons (o := { dst := some 45, op := Op.load 69 (Operand.tmp 44), type := 69, pos := _, after := #[{ on := 4, ground := Ground.data }], guard := none }) rfl (fun K hK => ?_) AllReadyH.nil)
                go_simp
                refine hK.out _ _ trivial (fun hB => ?_)
                clear hK K hB
                try simp only [Act.put, List.setIfInBounds_toArray, List.set_cons_zero, List.set_cons_succ]
                refine wpAnyH_ready (rs := [6]) (by kernel_rfl) (by simp) ?_
                refine (AllReadyH.cons (o := { dst := some 46, op := Op.buildSlice 24 1 #[(0, Operand.tmp 45)], type := 24, pos := _, after := #[{ on := 5, ground := Ground.data }], guard := none }) rfl (fun K hK => ?_) AllReadyH.nil)
                go_simp
                refine hK.out _ _ trivial (fun hB => ?_)
                clear hK K hB
                try simp only [Act.put, List.setIfInBounds_toArray, List.set_cons_zero, List.set_cons_succ]
                refine wpAnyH_ready (rs := [7]) (by kernel_rfl) (by simp) ?_
                refine (AllReadyH.cons (o := { dst := some 47, op := Op.call { callee := Callee.builtin Builtin.append, args := #[Operand.tmp 41, Operand.tmp 46], argTypes := #[24, 24] }, type := 24, pos := _, after := #[{ on := 1, ground := Ground.data }, { on := 6, ground := Ground.data }], guard := none }) rfl (fun K hK => ?_) AllReadyH.nil)
                refine step_appIs 41 46 24 (by decide +kernel) ?_
                refine ⟨_, _, HRN.out, ?_⟩
                refine hK.out _ _ trivial (fun hB => ?_)
                clear hK K hB
                try simp only [Act.put, List.setIfInBounds_toArray, List.set_cons_zero, List.set_cons_succ]
                refine wpAnyH_take (i := 8) (oi := { dst := some 48, op := Op.fieldAddr 26 (Operand.tmp 3) 1, type := 0, pos := _, after := #[{ on := 0, ground := Ground.phase }, { on := 1, ground := Ground.phase }, { on := 2, ground := Ground.phase }, { on := 3, ground := Ground.phase }, { on := 4, ground := Ground.phase }, { on := 5, ground := Ground.phase }, { on := 6, ground := Ground.phase }, { on := 7, ground := Ground.phase }], guard := none }) (v := (.pointer (some ⟨zs, 1, none⟩))) rfl (by kernel_rfl) (by kernel_rfl) (by kernel_rfl) (fun _ _ _ h => h) (Or.inl ⟨by rfl, fun w' hS => by go_simp⟩) trivial ?_
                simp only [Act.put, List.setIfInBounds_toArray, List.set_cons_zero, List.set_cons_succ]
                refine wpAnyH_ready (rs := [9]) (by kernel_rfl) (by simp) ?_
                refine (AllReadyH.cons (o := { dst := none, op := Op.store 24 (Operand.tmp 48) (Operand.tmp 47), type := 0, pos := _, after := #[{ on := 8, ground := Ground.data }, { on := 7, ground := Ground.data }, { on := 7, ground := Ground.chain }, { on := 0, ground := Ground.phase }, { on := 1, ground := Ground.phase }, { on := 2, ground := Ground.phase }, { on := 3, ground := Ground.phase }, { on := 4, ground := Ground.phase }, { on := 5, ground := Ground.phase }, { on := 6, ground := Ground.phase }, { on := 7, ground := Ground.phase }], guard := none }) rfl (fun K hK => ?_) AllReadyH.nil)
                have u1 := U1.out
                have fu := FU.out
                go_simp
                refine hK.out _ _ trivial (fun hB => ?_)
                clear hK K hB
                try simp only [Act.put, List.setIfInBounds_toArray, List.set_cons_zero, List.set_cons_succ]
                refine wpAnyH_done (by kernel_rfl) ?_ _
                refine NoPanic.normal ?_
                have q0 := Q0.out
                have q1 := Q1.out
                have t0 := T0.out
                have t1 := T1.out
                have f0 := F0.out
                have f1 := F1.out
                go_wp2
                exact bodyPost_ret (v := .agg #[.slice b1 n c1, .slice a2' (kk + 1) cap2]) (by simp [results, Try.results52, go_sem, t0, t1, BV.val]) rfl ⟨⟨b1, a2', c1, cap2⟩, ⟨n, c, kk + 1, snoc kk lc (lc 0), snoc kk lw (lw 0)⟩, rfl, FIN.out⟩
              · go_simp
                refine hK.out _ _ trivial (fun hB => ?_)
                clear hK K hB
                try simp only [Act.put, List.setIfInBounds_toArray, List.set_cons_zero, List.set_cons_succ]
                refine wpAnyH_ready (rs := [1, 6]) (by kernel_rfl) (by simp) ?_
                refine (AllReadyH.cons (o := { dst := some 41, op := Op.load 24 (Operand.tmp 40), type := 24, pos := _, after := #[{ on := 0, ground := Ground.data }], guard := none }) rfl (fun K hK => ?_) (AllReadyH.cons (o := { dst := some 46, op := Op.buildSlice 24 1 #[(0, Operand.tmp 45)], type := 24, pos := _, after := #[{ on := 5, ground := Ground.data }], guard := none }) rfl (fun K hK => ?_) AllReadyH.nil))
                · go_simp
                  refine hK.out _ _ trivial (fun hB => ?_)
                  clear hK K hB
                  try simp only [Act.put, List.setIfInBounds_toArray, List.set_cons_zero, List.set_cons_succ]
                  refine wpAnyH_ready (rs := [6]) (by kernel_rfl) (by simp) ?_
                  refine (AllReadyH.cons (o := { dst := some 46, op := Op.buildSlice 24 1 #[(0, Operand.tmp 45)], type := 24, pos := _, after := #[{ on := 5, ground := Ground.data }], guard := none }) rfl (fun K hK => ?_) AllReadyH.nil)
                  go_simp
                  refine hK.out _ _ trivial (fun hB => ?_)
                  clear hK K hB
                  try simp only [Act.put, List.setIfInBounds_toArray, List.set_cons_zero, List.set_cons_succ]
                  refine wpAnyH_ready (rs := [7]) (by kernel_rfl) (by simp) ?_
                  refine (AllReadyH.cons (o := { dst := some 47, op := Op.call { callee := Callee.builtin Builtin.append, args := #[Operand.tmp 41, Operand.tmp 46], argTypes := #[24, 24] }, type := 24, pos := _, after := #[{ on := 1, ground := Ground.data }, { on := 6, ground := Ground.data }], guard := none }) rfl (fun K hK => ?_) AllReadyH.nil)
                  refine step_appIs 41 46 24 (by decide +kernel) ?_
                  refine ⟨_, _, HRN.out, ?_⟩
                  refine hK.out _ _ trivial (fun hB => ?_)
                  clear hK K hB
                  try simp only [Act.put, List.setIfInBounds_toArray, List.set_cons_zero, List.set_cons_succ]
                  refine wpAnyH_take (i := 8) (oi := { dst := some 48, op := Op.fieldAddr 26 (Operand.tmp 3) 1, type := 0, pos := _, after := #[{ on := 0, ground := Ground.phase }, { on := 1, ground := Ground.phase }, { on := 2, ground := Ground.phase }, { on := 3, ground := Ground.phase }, { on := 4, ground := Ground.phase }, { on := 5, ground := Ground.phase }, { on := 6, ground := Ground.phase }, { on := 7, ground := Ground.phase }], guard := none }) (v := (.pointer (some ⟨zs, 1, none⟩))) rfl (by kernel_rfl) (by kernel_rfl) (by kernel_rfl) (fun _ _ _ h => h) (Or.inl ⟨by rfl, fun w' hS => by go_simp⟩) trivial ?_
                  simp only [Act.put, List.setIfInBounds_toArray, List.set_cons_zero, List.set_cons_succ]
                  refine wpAnyH_ready (rs := [9]) (by kernel_rfl) (by simp) ?_
                  refine (AllReadyH.cons (o := { dst := none, op := Op.store 24 (Operand.tmp 48) (Operand.tmp 47), type := 0, pos := _, after := #[{ on := 8, ground := Ground.data }, { on := 7, ground := Ground.data }, { on := 7, ground := Ground.chain }, { on := 0, ground := Ground.phase }, { on := 1, ground := Ground.phase }, { on := 2, ground := Ground.phase }, { on := 3, ground := Ground.phase }, { on := 4, ground := Ground.phase }, { on := 5, ground := Ground.phase }, { on := 6, ground := Ground.phase }, { on := 7, ground := Ground.phase }], guard := none }) rfl (fun K hK => ?_) AllReadyH.nil)
                  have u1 := U1.out
                  have fu := FU.out
                  go_simp
                  refine hK.out _ _ trivial (fun hB => ?_)
                  clear hK K hB
                  try simp only [Act.put, List.setIfInBounds_toArray, List.set_cons_zero, List.set_cons_succ]
                  refine wpAnyH_done (by kernel_rfl) ?_ _
                  refine NoPanic.normal ?_
                  have q0 := Q0.out
                  have q1 := Q1.out
                  have t0 := T0.out
                  have t1 := T1.out
                  have f0 := F0.out
                  have f1 := F1.out
                  go_wp2
                  exact bodyPost_ret (v := .agg #[.slice b1 n c1, .slice a2' (kk + 1) cap2]) (by simp [results, Try.results52, go_sem, t0, t1, BV.val]) rfl ⟨⟨b1, a2', c1, cap2⟩, ⟨n, c, kk + 1, snoc kk lc (lc 0), snoc kk lw (lw 0)⟩, rfl, FIN.out⟩
                · go_simp
                  refine hK.out _ _ trivial (fun hB => ?_)
                  clear hK K hB
                  try simp only [Act.put, List.setIfInBounds_toArray, List.set_cons_zero, List.set_cons_succ]
                  refine wpAnyH_ready (rs := [1]) (by kernel_rfl) (by simp) ?_
                  refine (AllReadyH.cons (o := { dst := some 41, op := Op.load 24 (Operand.tmp 40), type := 24, pos := _, after := #[{ on := 0, ground := Ground.data }], guard := none }) rfl (fun K hK => ?_) AllReadyH.nil)
                  go_simp
                  refine hK.out _ _ trivial (fun hB => ?_)
                  clear hK K hB
                  try simp only [Act.put, List.setIfInBounds_toArray, List.set_cons_zero, List.set_cons_succ]
                  refine wpAnyH_ready (rs := [7]) (by kernel_rfl) (by simp) ?_
                  refine (AllReadyH.cons (o := { dst := some 47, op := Op.call { callee := Callee.builtin Builtin.append, args := #[Operand.tmp 41, Operand.tmp 46], argTypes := #[24, 24] }, type := 24, pos := _, after := #[{ on := 1, ground := Ground.data }, { on := 6, ground := Ground.data }], guard := none }) rfl (fun K hK => ?_) AllReadyH.nil)
                  refine step_appIs 41 46 24 (by decide +kernel) ?_
                  refine ⟨_, _, HRN.out, ?_⟩
                  refine hK.out _ _ trivial (fun hB => ?_)
                  clear hK K hB
                  try simp only [Act.put, List.setIfInBounds_toArray, List.set_cons_zero, List.set_cons_succ]
                  refine wpAnyH_take (i := 8) (oi := { dst := some 48, op := Op.fieldAddr 26 (Operand.tmp 3) 1, type := 0, pos := _, after := #[{ on := 0, ground := Ground.phase }, { on := 1, ground := Ground.phase }, { on := 2, ground := Ground.phase }, { on := 3, ground := Ground.phase }, { on := 4, ground := Ground.phase }, { on := 5, ground := Ground.phase }, { on := 6, ground := Ground.phase }, { on := 7, ground := Ground.phase }], guard := none }) (v := (.pointer (some ⟨zs, 1, none⟩))) rfl (by kernel_rfl) (by kernel_rfl) (by kernel_rfl) (fun _ _ _ h => h) (Or.inl ⟨by rfl, fun w' hS => by go_simp⟩) trivial ?_
                  simp only [Act.put, List.setIfInBounds_toArray, List.set_cons_zero, List.set_cons_succ]
                  refine wpAnyH_ready (rs := [9]) (by kernel_rfl) (by simp) ?_
                  refine (AllReadyH.cons (o := { dst := none, op := Op.store 24 (Operand.tmp 48) (Operand.tmp 47), type := 0, pos := _, after := #[{ on := 8, ground := Ground.data }, { on := 7, ground := Ground.data }, { on := 7, ground := Ground.chain }, { on := 0, ground := Ground.phase }, { on := 1, ground := Ground.phase }, { on := 2, ground := Ground.phase }, { on := 3, ground := Ground.phase }, { on := 4, ground := Ground.phase }, { on := 5, ground := Ground.phase }, { on := 6, ground := Ground.phase }, { on := 7, ground := Ground.phase }], guard := none }) rfl (fun K hK => ?_) AllReadyH.nil)
                  have u1 := U1.out
                  have fu := FU.out
                  go_simp
                  refine hK.out _ _ trivial (fun hB => ?_)
                  clear hK K hB
                  try simp only [Act.put, List.setIfInBounds_toArray, List.set_cons_zero, List.set_cons_succ]
                  refine wpAnyH_done (by kernel_rfl) ?_ _
                  refine NoPanic.normal ?_
                  have q0 := Q0.out
                  have q1 := Q1.out
                  have t0 := T0.out
                  have t1 := T1.out
                  have f0 := F0.out
                  have f1 := F1.out
                  go_wp2
                  exact bodyPost_ret (v := .agg #[.slice b1 n c1, .slice a2' (kk + 1) cap2]) (by simp [results, Try.results52, go_sem, t0, t1, BV.val]) rfl ⟨⟨b1, a2', c1, cap2⟩, ⟨n, c, kk + 1, snoc kk lc (lc 0), snoc kk lw (lw 0)⟩, rfl, FIN.out⟩
end Go.Proofs.Ytagjfkkjmgfoiaa
