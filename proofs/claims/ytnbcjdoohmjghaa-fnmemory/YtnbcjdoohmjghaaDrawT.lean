/- What is drawn for StoreAll: a list of words, too. -/
import Derived.Test.YtnbcjdoohmjghaaDrawS
import Derived.Test.YtnbcjdoohmjghaaSlotL
namespace Go.Proofs.Ytnbcjdoohmjghaa
open Go.RowKit
set_option linter.unusedSimpArgs false
set_option linter.unusedVariables false
/-- A list of numbers that is built behind w0, while the cursor at C goes on. -/
structure PutI (Y : Nat → Prop) (w0 wr : World) (C k : Nat) (v : Value) (l : List Int) : Prop where
  own : wr.ownsRow 0 3 1 v l.length (l.map (fun x => Value.int .i64 x))
  blk : ∀ g, v.ownBlock = some g → w0.heap.size ≤ g ∧ g < wr.heap.size
  mod : Mod (fun b => b = C) w0 wr
  cur : Cur Y wr C k
theorem PutI.next {Y : Nat → Prop} {w0 wr wp w' : World} {C k k' : Nat} {v : Value} {l : List Int} {g cap : Nat} {t : Int} (P : PutI Y w0 wr C k v l) (hC : C < w0.heap.size) (hY : ∀ b, Y b → b < w0.heap.size) (hp : Mod (fun b => b = C) wr wp) (cur : Cur Y wp C k')
    (own' : w'.ownsRow 0 3 1 (.slice (some ⟨g, 0, none⟩) (l.length + 1) cap) (l.length + 1) (l.map (fun x => Value.int .i64 x) ++ [.int .i64 t])) (gr : (wp.alloc (.cells #[.int .i64 t] 3)).grownBy w' v.ownBlock) (hg : v.ownBlock = some g ∨ g = (wp.alloc (.cells #[.int .i64 t] 3)).heap.size) (hgl : g < w'.heap.size) :
    PutI Y w0 w' C k' (.slice (some ⟨g, 0, none⟩) (l.length + 1) cap) (l ++ [t]) := by
  have hm : Mod (fun x => v.ownBlock = some x) (wp.alloc (.cells #[.int .i64 t] 3)) w' := grown_mod gr
  have m1 : Mod (fun b => b = C) w0 (wp.alloc (.cells #[.int .i64 t] 3)) := (P.mod.trans hp).alloc _
  have s1 := m1.size
  refine ⟨?_, fun x hx => ?_, ⟨hm.os.trans m1.os, hm.tape.trans m1.tape, hm.output.trans m1.output, Nat.le_trans m1.size hm.size, fun i hi hx => (hm.block i (Nat.lt_of_lt_of_le hi m1.size) (fun e => by have := (P.blk i e).1; omega)).trans (m1.block i hi hx)⟩, (cur.blw ((Blw.refl _).alloc _)).mod hm (fun e => by have := (P.blk C e).1; omega) (fun b hb e => by have := (P.blk b e).1; have := hY b hb; omega)⟩
  · rw [List.map_append, List.length_append]
    exact own'
  · simp only [Value.ownBlock, Option.some.injEq] at hx
    subst hx
    rcases hg with hg | hg
    · exact ⟨(P.blk _ hg).1, hgl⟩
    · exact ⟨by omega, hgl⟩
theorem PutI.ints {Y : Nat → Prop} {w0 wr : World} {C k : Nat} {v : Value} {l : List Int} (P : PutI Y w0 wr C k v l) (hl : l.length ≤ 100) : ∃ ao cap, v = .slice ao l.length cap ∧ IntsAt (fun b => w0.heap.size ≤ b ∧ b < wr.heap.size) wr ao l.length (fun i => l.getD i 0) := by
  have own := P.own
  have blk := P.blk
  rcases P.own.2 with ⟨e1, e2⟩ | ⟨g, cap, cur, rfl, r⟩
  · subst e1
    exact ⟨none, 0, by rw [e2], by omega, fun i hi => by omega⟩
  · refine ⟨_, cap, rfl, by omega, fun i hi => ?_⟩
    have rr : Row wr g l.length (fun i => .int .i64 (l.getD i 0)) := owned_row own (fun i hi => by simp [hi]) (by omega)
    exact ⟨g, 0, rfl, blk g rfl, by rw [Nat.zero_add]; exact rr.cell hi⟩
set_option maxRecDepth 10000 in
set_option maxHeartbeats 3200000 in
theorem drawStoreAll_any (ao : Option Addr) (n cc : Nat) (f : Nat → Int) (w : World) (h : BytesAt (fun b => b < w.heap.size) w ao n f) :
    Calls Try.prog 34 #[.slice ao n cc] w fun e w' => ∃ m s c d x a2 n2 c2 g, e = .returned (.tuple #[m.val (MD.full s c d), .int .i64 x, .slice a2 n2 c2]) ∧ n2 ≤ 9 ∧ MemOwn (fun b => w.heap.size ≤ b ∧ b < w'.heap.size) w' m (MD.full s c d) ∧ IntsAt (fun b => b < w'.heap.size) w' a2 n2 g ∧ Blw w w' := by
  obtain ⟨i0, hi0, hz0, hz1, hz2⟩ := info_parts tinfo3
  obtain ⟨hb0, c0, rR, sz⟩ := draw_start w ao n cc f h
  have HH : Hid (BytesAt (fun b => b < w.heap.size) w ao n f) := h
  clear h
  go_enter Try.func34, Try.ntmps34
  go_wp2_with fail
  refine (memory_any _ (w.heap.size + 1) 0 _ (by omega) (fun b hb => by omega) c0).mono ?_
  rintro e w1 ⟨m, s, c, d, rfl, own, c1, m1⟩
  have D : Ds w w1 100 m s c d := Ds.start HH.out own c1 m1
  clear own c1 m1 hb0 c0 rR sz HH
  simp only [MV.val, MD.full]
  go_wp2_with fail
  have hA : Blw w1 (w1.alloc (.cells #[.slice m.a1 12 m.c1, .slice m.a2 12 m.c2, .slice m.a3 12 m.c3] 26)) := (Blw.refl _).alloc _
  have bx := box3 w1 (.slice m.a1 12 m.c1) (.slice m.a2 12 m.c2) (.slice m.a3 12 m.c3) 26
  have hlt1 := D.cur.lt
  replace D := D.more hA
  refine (place_any _ (w.heap.size + 1) 100 _ (by omega) D.cur).mono ?_
  rintro e w2 ⟨x, rfl, c2, m2⟩
  replace D := D.go m2 c2
  replace bx := bx.mod m2 (by omega)
  clear c2 m2 hA
  go_wp2_with fail
  refine (pick_any _ (w.heap.size + 1) 104 10 _ (by omega) (by omega) D.cur).mono ?_
  rintro e w3 ⟨q, rfl, hq, c3, m3⟩
  replace D := D.go m3 c3
  replace bx := bx.mod m3 (by omega)
  have hq9 : q ≤ 9 := by omega
  have HD : Hid (Ds w w3 106 m s c d) := D
  have HX : Hid (Box w3 w1.heap.size m (MD.full s c d)) := bx
  have hC : w.heap.size + 1 < w3.heap.size := D.cur.lt
  have hz : w1.heap.size < w3.heap.size := bx.lt
  clear c3 m3 D bx hq
  generalize w1.heap.size = z at *
  go_wp2_with fail
  go_loopw [8, 9] (fun v i wr => ∃ (l : Nat) (L : List Int), l ≤ q ∧ i = .int .i64 l ∧ L.length = q - l ∧ PutI (fun b => b < w.heap.size) w3 wr (w.heap.size + 1) (106 + 2 * (q - l)) v L) (fun _ i _ => (intOf i).toNat)
  case atStart => exact ⟨q, [], Nat.le_refl _, rfl, by simp, ⟨⟨by simp, Or.inl ⟨rfl, rfl⟩⟩, fun g hg => by simp [Value.ownBlock] at hg, Mod.refl _ _, by rw [Nat.sub_self]; exact HD.out.cur⟩⟩
  case round =>
    obtain ⟨l, L, hl, rfl, hL, P⟩ := hrel
    have HL : Hid (L.length = q - l) := hL
    have hL9 : L.length ≤ 9 := by omega
    clear hL
    by_cases hl0 : 0 < l
    · have d1 : decide ((l : Int) > 0) = true := by simp; omega
      have HP : Hid _ := P
      clear P
      go_wp2_with fail
      refine (pick_any _ (w.heap.size + 1) (106 + 2 * (q - l)) 200 _ (by omega) (by omega) HP.out.cur).mono ?_
      rintro e wp ⟨y, rfl, hy, cp, mp⟩
      have HO : Hid ((wp.alloc (.cells #[.int .i64 ((y : Int) * 300)] 3)).ownsRow 0 3 1 _ L.length (L.map (fun x => Value.int .i64 x))) := ownsRow_modN (ownsRow_modN HP.out.own mp (fun g hg e => by have := (HP.out.blk g hg).1; omega)) (((Blw.refl wp).alloc _).mod (fun _ => False)) (fun _ _ => id)
      have HSrc : Hid (∀ j u, [Value.int .i64 ((y : Int) * 300)][j]? = some u → (wp.alloc (.cells #[.int .i64 ((y : Int) * 300)] 3)).cell? ((⟨wp.heap.size, 0, none⟩ : Addr).add j) = some u) := fun j u hj => by
        match j, hj with
        | 0, hj => rw [← hj]; go_cell
        | j + 1, hj => simp at hj
      have HN : Hid _ := fun g cap w' => HP.out.next (g := g) (cap := cap) (w' := w') (t := (y : Int) * 300) (k' := 106 + 2 * (q - (l - 1))) hC (fun b hb => by omega) mp (cp.le (by omega))
      clear mp cp HP
      go_wp2_with (at_builtin; refine wpList_append_lies _ rfl (.tmp 23) (.tmp 27) 27 rfl 0 3 i0 (.int .i64 0) 1 8 Try.underlying27 hi0 hz0 hz1 hz2 rfl (by decide) _ L.length _ rfl HO.out ⟨wp.heap.size, 0, none⟩ 1 1 [.int .i64 ((y : Int) * 300)] rfl (by simp) HSrc.out (fun u hu => by simp only [List.mem_singleton] at hu; subst hu; rfl) (by omega) (by unfold maxLen; omega) (by omega) (by omega) _ rfl ?_; intro g cap w' own' gr hg hgl; have I' := HN.out g cap w' own' gr hg hgl; clear own' gr hg hgl)
      clear HN HO HSrc
      go_roundw
      case rel => exact ⟨l - 1, L ++ [(y : Int) * 300], by omega, by congr 1; omega, by rw [List.length_append]; simp only [List.length_cons, List.length_nil]; have := HL.out; omega, I'⟩
      case measure => simp [intOf]; omega
    · obtain rfl : l = 0 := by omega
      have d1 : decide (((0 : Nat) : Int) > 0) = false := by decide
      obtain ⟨a2, c2, rfl, hI⟩ := P.ints (by omega)
      have D := HD.out.go P.mod P.cur
      obtain ⟨p0, p1, p2⟩ := get3 (HX.out.mod P.mod (by omega))
      obtain ⟨⟨x0, x1, x2⟩, f0, f1, f2⟩ := res6 D.res
      have hs := mod_set3 wr w.heap.size (.slice m.a1 12 m.c1) (.slice m.a2 12 m.c2) (.slice m.a3 12 m.c3)
      have hsz := hs.size
      have hI2 := (hI.mod hs (fun b hb => by have := hb.1; omega)).mono (fun b hb => Nat.lt_of_lt_of_le hb.2 hsz)
      have Z : Hid _ := And.intro D.done hI2
      clear D hI hI2 hs hsz HD HX P
      simp only [MD.full] at p0 p1 p2
      go_wp2
      exact bodyPost_ret (v := .tuple #[m.val (MD.full s c d), .int .i64 x, .slice a2 L.length c2]) (by simp [results, Try.results34, go_sem, x0, x1, x2, MD.full]) rfl ⟨m, s, c, d, x, a2, L.length, c2, _, rfl, hL9, Z.out.1.1, Z.out.2, Z.out.1.2⟩
end Go.Proofs.Ytnbcjdoohmjghaa
