/- What is drawn for the law on memories. -/
import Derived.Test.YtnbcjdoohmjghaaDrawT
import Derived.Test.YtnbcjdoohmjghaaRise
namespace Go.Proofs.Ytnbcjdoohmjghaa
open Go.RowKit
set_option linter.unusedSimpArgs false
set_option linter.unusedVariables false
theorem BytesAt.mono' {X Y : Nat → Prop} {w : World} {ao : Option Addr} {n : Nat} {f : Nat → Int} (h : BytesAt X w ao n f) (hxy : ∀ b, X b → Y b) : BytesAt Y w ao n f :=
  ⟨h.1, fun i hi => let ⟨b, o, h1, hX, h2⟩ := h.2 i hi; ⟨b, o, h1, hxy _ hX, h2⟩⟩
theorem PutI.go {Y : Nat → Prop} {w0 wr wp : World} {C k k' : Nat} {v : Value} {l : List Int} (P : PutI Y w0 wr C k v l) (hC : C < w0.heap.size) (hp : Mod (fun b => b = C) wr wp) (cur : Cur Y wp C k') : PutI Y w0 wp C k' v l :=
  ⟨ownsRow_modN P.own hp (fun g hg e => by have := (P.blk g hg).1; omega), fun g hg => ⟨(P.blk g hg).1, Nat.lt_of_lt_of_le (P.blk g hg).2 hp.size⟩, P.mod.trans hp, cur⟩
theorem int_src (w : World) (x : Int) : ∀ j u, [Value.int .i64 x][j]? = some u → (w.alloc (.cells #[.int .i64 x] 3)).cell? ((⟨w.heap.size, 0, none⟩ : Addr).add j) = some u := fun j u hj => by
  match j, hj with
  | 0, hj => rw [← hj]; go_cell
  | j + 1, hj => simp at hj
set_option maxRecDepth 10000 in
set_option maxHeartbeats 3200000 in
theorem kept_any (Y : Nat → Prop) (C k : Nat) (w : World) (hk : k ≤ 800000) (hY : ∀ b, Y b → b < w.heap.size) (h : Cur Y w C k) :
    Calls Try.prog 75 #[.pointer (some ⟨C, 0, none⟩)] w fun e w' => ∃ a n c f, e = .returned (.slice a n c) ∧ n ≤ 13 ∧ IntsAt (fun b => w.heap.size ≤ b ∧ b < w'.heap.size) w' a n f ∧ Cur Y w' C (k + 26) ∧ Mod (fun b => b = C) w w' := by
  obtain ⟨i0, hi0, hz0, hz1, hz2⟩ := info_parts tinfo3
  have hC := h.lt
  have HY : Hid (∀ b, Y b → b < w.heap.size) := hY
  have H0 : Hid (Cur Y w C k) := h
  clear hY h
  go_enter Try.func75, Try.ntmps75
  go_wp2_with fail
  go_loopw [3, 4] (fun v i wr => ∃ (l : Nat) (L : List Int), l ≤ 12 ∧ i = .int .i64 l ∧ L.length ≤ l ∧ PutI Y w wr C (k + 2 * l) v L) (fun _ i _ => 12 - (intOf i).toNat)
  case atStart => exact ⟨0, [], by omega, rfl, by simp, ⟨⟨by simp, Or.inl ⟨rfl, rfl⟩⟩, fun g hg => by simp [Value.ownBlock] at hg, Mod.refl _ _, H0.out⟩⟩
  case round =>
    obtain ⟨l, L, hl, rfl, hL, P⟩ := hrel
    by_cases hlt : l < 12
    · have hlt' : (l : Int) < 12 := by omega
      have HP : Hid _ := P
      clear P
      go_wp2_with fail
      refine (one_any _ C (k + 2 * l) 2 _ (by omega) (by omega) HP.out.cur).mono ?_
      rintro e wp ⟨b, rfl, cp, mp⟩
      cases b
      · have J := HP.out.go hC mp (cp.le (k' := k + 2 * (l + 1)) (by omega))
        clear HP cp mp
        go_wp2
        go_roundw
        case rel => exact ⟨l + 1, L, by omega, by go_num, by omega, J⟩
        case measure => simp [intOf]; omega
      · have HO : Hid ((wp.alloc (.cells #[.int .i64 (l : Int)] 3)).ownsRow 0 3 1 _ L.length (L.map (fun x => Value.int .i64 x))) := ownsRow_modN (ownsRow_modN HP.out.own mp (fun g hg e => by have := (HP.out.blk g hg).1; omega)) (((Blw.refl wp).alloc _).mod (fun _ => False)) (fun _ _ => id)
        have HSrc : Hid _ := int_src wp (l : Int)
        have HN : Hid _ := fun g cap w' => HP.out.next (g := g) (cap := cap) (w' := w') (t := (l : Int)) (k' := k + 2 * (l + 1)) hC HY.out mp (cp.le (by omega))
        clear mp cp HP
        go_wp2_with (at_builtin; refine wpList_append_lies _ rfl (.tmp 11) (.tmp 13) 27 rfl 0 3 i0 (.int .i64 0) 1 8 Try.underlying27 hi0 hz0 hz1 hz2 rfl (by decide) _ L.length _ rfl HO.out ⟨wp.heap.size, 0, none⟩ 1 1 [.int .i64 (l : Int)] rfl (by simp) HSrc.out (fun u hu => by simp only [List.mem_singleton] at hu; subst hu; rfl) (by omega) (by unfold maxLen; omega) (by omega) (by omega) _ rfl ?_; intro g cap w' own' gr hg hgl; have I' := HN.out g cap w' own' gr hg hgl; clear own' gr hg hgl)
        clear HN HO HSrc
        go_roundw
        case rel => exact ⟨l + 1, L ++ [(l : Int)], by omega, by go_num, by rw [List.length_append]; simp only [List.length_cons, List.length_nil]; omega, I'⟩
        case measure => simp [intOf]; omega
    · obtain rfl : l = 12 := by omega
      have HP : Hid _ := P
      clear P
      go_wp2_with fail
      refine (one_any _ C (k + 2 * 12) 30 _ (by omega) (by omega) HP.out.cur).mono ?_
      rintro e wp ⟨b, rfl, cp, mp⟩
      cases b
      · have J := HP.out.go hC mp (cp.le (k' := k + 26) (by omega))
        obtain ⟨a2, c2, rfl, hI⟩ := J.ints (by omega)
        have Z : Hid _ := And.intro hI (And.intro J.cur J.mod)
        clear HP cp mp J hI
        go_wp2
        go_ret
        exact ⟨a2, L.length, c2, _, rfl, by omega, Z.out⟩
      · have HO : Hid ((wp.alloc (.cells #[.int .i64 12] 3)).ownsRow 0 3 1 _ L.length (L.map (fun x => Value.int .i64 x))) := ownsRow_modN (ownsRow_modN HP.out.own mp (fun g hg e => by have := (HP.out.blk g hg).1; omega)) (((Blw.refl wp).alloc _).mod (fun _ => False)) (fun _ _ => id)
        have HSrc : Hid _ := int_src wp 12
        have HN : Hid _ := fun g cap w' => HP.out.next (g := g) (cap := cap) (w' := w') (t := 12) (k' := k + 26) hC HY.out mp (cp.le (by omega))
        clear mp cp HP
        go_wp2_with (at_builtin; refine wpList_append_lies _ rfl (.tmp 17) (.tmp 18) 27 rfl 0 3 i0 (.int .i64 0) 1 8 Try.underlying27 hi0 hz0 hz1 hz2 rfl (by decide) _ L.length _ rfl HO.out ⟨wp.heap.size, 0, none⟩ 1 1 [.int .i64 12] rfl (by simp) HSrc.out (fun u hu => by simp only [List.mem_singleton] at hu; subst hu; rfl) (by omega) (by unfold maxLen; omega) (by omega) (by omega) _ rfl ?_; intro g cap w' own' gr hg hgl; have I' := HN.out g cap w' own' gr hg hgl; clear own' gr hg hgl)
        clear HN HO HSrc
        have hln : (L ++ [(12 : Int)]).length = L.length + 1 := by simp
        obtain ⟨a2, c2, e2, hI⟩ := I'.ints (by omega)
        rw [hln] at e2 hI
        rw [e2]
        have Z : Hid _ := And.intro hI (And.intro I'.cur I'.mod)
        clear I' hI e2
        go_ret
        exact ⟨a2, L.length + 1, c2, _, rfl, by omega, Z.out⟩
set_option maxHeartbeats 1600000 in
theorem drawFail_any (ao : Option Addr) (n cc : Nat) (f : Nat → Int) (w : World) (h : BytesAt (fun b => b < w.heap.size) w ao n f) :
    Calls Try.prog 14 #[.slice ao n cc] w fun e w' => ∃ m s c d a2 n2 c2 g, e = .returned (.tuple #[m.val (MD.full s c d), .slice a2 n2 c2]) ∧ n2 ≤ 13 ∧ MemOwn (fun b => w.heap.size ≤ b ∧ b < w'.heap.size) w' m (MD.full s c d) ∧ IntsAt (fun b => b < w'.heap.size) w' a2 n2 g ∧ Blw w w' := by
  obtain ⟨hb0, c0, rR, sz⟩ := draw_start w ao n cc f h
  have HH : Hid (BytesAt (fun b => b < w.heap.size) w ao n f) := h
  clear h
  go_enter Try.func14, Try.ntmps14
  go_wp2_with fail
  refine (memory_any _ (w.heap.size + 1) 0 _ (by omega) (fun b hb => by omega) c0).mono ?_
  rintro e w1 ⟨m, s, c, d, rfl, own, c1, m1⟩
  have D : Ds w w1 100 m s c d := Ds.start HH.out own c1 m1
  clear own c1 m1 hb0 c0 rR sz HH
  go_wp2_with fail
  refine (kept_any _ (w.heap.size + 1) 100 _ (by omega) (fun b hb => Nat.lt_of_lt_of_le hb D.blw.size) D.cur).mono ?_
  rintro e w2 ⟨a2, n2, c2, g, rfl, hn2, hI, cu2, m2⟩
  have hlt := D.cur.lt
  replace D := D.go m2 cu2
  have hs := mod_set3 w2 w.heap.size (.slice m.a1 12 m.c1) (.slice m.a2 12 m.c2) (.slice m.a3 12 m.c3)
  have hI2 : Hid (IntsAt _ _ a2 n2 g) := (hI.mod hs (fun b hb => by have := hb.1; omega)).mono (fun b hb => Nat.lt_of_lt_of_le hb.2 hs.size)
  clear cu2 m2 hI hs hlt
  obtain ⟨⟨x0, x1, x2⟩, f0, f1, f2⟩ := res6 D.res
  have Z : Hid _ := D.done
  clear D
  simp only [MV.val, MD.full]
  go_wp2
  exact bodyPost_ret (v := .tuple #[m.val (MD.full s c d), .slice a2 n2 c2]) (by simp [results, Try.results14, go_sem, x0, x1, x2, MD.full]) rfl ⟨m, s, c, d, a2, n2, c2, g, rfl, hn2, Z.out.1, hI2.out, Z.out.2⟩
set_option maxHeartbeats 1600000 in
theorem drawFlushLine_any (ao : Option Addr) (n cc : Nat) (f : Nat → Int) (w : World) (h : BytesAt (fun b => b < w.heap.size) w ao n f) :
    Calls Try.prog 25 #[.slice ao n cc] w fun e w' => ∃ m s c d x, e = .returned (.tuple #[m.val (MD.full s c d), .int .i64 x]) ∧ MemOwn (fun b => w.heap.size ≤ b ∧ b < w'.heap.size) w' m (MD.full s c d) ∧ Blw w w' := by
  obtain ⟨hb0, c0, rR, sz⟩ := draw_start w ao n cc f h
  have HH : Hid (BytesAt (fun b => b < w.heap.size) w ao n f) := h
  clear h
  go_enter Try.func25, Try.ntmps25
  go_wp2_with fail
  refine (memory_any _ (w.heap.size + 1) 0 _ (by omega) (fun b hb => by omega) c0).mono ?_
  rintro e w1 ⟨m, s, c, d, rfl, own, c1, m1⟩
  have D : Ds w w1 100 m s c d := Ds.start HH.out own c1 m1
  clear own c1 m1 hb0 c0 rR sz HH
  go_wp2_with fail
  refine (pick_any _ (w.heap.size + 1) 100 14 _ (by omega) (by omega) D.cur).mono ?_
  rintro e w3 ⟨y, rfl, hy, c3, m3⟩
  replace D := D.go m3 c3
  clear c3 m3
  obtain ⟨⟨x0, x1, x2⟩, f0, f1, f2⟩ := res6 D.res
  have Z : Hid _ := D.done
  clear D
  simp only [MV.val, MD.full]
  go_wp2
  exact bodyPost_ret (v := .tuple #[m.val (MD.full s c d), .int .i64 ((y : Int) - 1)]) (by simp [results, Try.results25, go_sem, x0, x1, x2, MD.full]) rfl ⟨m, s, c, d, _, rfl, Z.out⟩
set_option maxHeartbeats 1600000 in
theorem drawGood_any (ao : Option Addr) (n cc : Nat) (f : Nat → Int) (w : World) (h : BytesAt (fun b => b < w.heap.size) w ao n f) :
    Calls Try.prog 86 #[.slice ao n cc] w fun e w' => ∃ m s c d, e = .returned (m.val (MD.full s c d)) ∧ MemOwn (fun b => w.heap.size ≤ b ∧ b < w'.heap.size) w' m (MD.full s c d) ∧ Blw w w' := by
  obtain ⟨hb0, c0, rR, sz⟩ := draw_start w ao n cc f h
  have HH : Hid (BytesAt (fun b => b < w.heap.size) w ao n f) := h
  clear h
  go_enter Try.func86, Try.ntmps86
  go_wp2_with fail
  refine (memory_any _ (w.heap.size + 1) 0 _ (by omega) (fun b hb => by omega) c0).mono ?_
  rintro e w1 ⟨m, s, c, d, rfl, own, c1, m1⟩
  have D : Ds w w1 100 m s c d := Ds.start HH.out own c1 m1
  clear own c1 m1 hb0 c0 rR sz HH
  obtain ⟨⟨x0, x1, x2⟩, f0, f1, f2⟩ := res6 D.res
  have Z : Hid _ := D.done
  clear D
  simp only [MV.val, MD.full]
  go_wp2
  exact bodyPost_ret (v := m.val (MD.full s c d)) (by simp [results, Try.results86, go_sem, x0, x1, x2, MD.full]) rfl ⟨m, s, c, d, rfl, Z.out⟩
set_option maxHeartbeats 1600000 in
theorem drawFlushAll_any (ao : Option Addr) (n cc : Nat) (f : Nat → Int) (w : World) (h : BytesAt (fun b => b < w.heap.size) w ao n f) :
    Calls Try.prog 23 #[.slice ao n cc] w fun e w' => ∃ m s c d, e = .returned (m.val (MD.full s c d)) ∧ MemOwn (fun b => w.heap.size ≤ b ∧ b < w'.heap.size) w' m (MD.full s c d) ∧ Blw w w' := by
  have hb0 : Blw w (w.alloc (.cells #[.slice none 0 0, .slice none 0 0, .slice none 0 0] 26)) := (Blw.refl _).alloc _
  have rR := row_box w 26
  have HH : Hid (BytesAt (fun b => b < (w.alloc (.cells #[.slice none 0 0, .slice none 0 0, .slice none 0 0] 26)).heap.size) (w.alloc (.cells #[.slice none 0 0, .slice none 0 0, .slice none 0 0] 26)) ao n f) := ⟨h.1, fun i hi => let ⟨b, o, h1, hX, h2⟩ := (h.blw hb0).2 i hi; ⟨b, o, h1, Nat.lt_of_lt_of_le hX hb0.size, h2⟩⟩
  clear h
  go_enter Try.func23, Try.ntmps23
  go_wp2_with fail
  refine (drawGood_any ao n cc f _ HH.out).mono ?_
  rintro e w1 ⟨m, s, c, d, rfl, own, hb1⟩
  obtain ⟨⟨x0, x1, x2⟩, f0, f1, f2⟩ := res6 (rR.blw hb1)
  have hs := mod_set3 w1 w.heap.size (.slice m.a1 12 m.c1) (.slice m.a2 12 m.c2) (.slice m.a3 12 m.c3)
  have sz : (w.alloc (.cells #[.slice none 0 0, .slice none 0 0, .slice none 0 0] 26)).heap.size = w.heap.size + 1 := by simp
  have hsz := hs.size
  have Z : Hid _ := And.intro ((own.mod hs (fun b hb => by have := hb.1; omega)).mono (Y := fun b => w.heap.size ≤ b ∧ b < (((w1.setCell ⟨w.heap.size, 0, none⟩ (.slice m.a1 12 m.c1)).setCell ⟨w.heap.size, 1, none⟩ (.slice m.a2 12 m.c2)).setCell ⟨w.heap.size, 2, none⟩ (.slice m.a3 12 m.c3)).heap.size) (fun b hb => ⟨by have := hb.1; omega, by have := hb.2; omega⟩)) (Mod.blw (hb0.trans hb1) hs (fun i hi => by omega))
  clear own hb1 hs rR hb0 HH sz hsz
  simp only [MV.val, MD.full]
  go_wp2
  exact bodyPost_ret (v := m.val (MD.full s c d)) (by simp [results, Try.results23, go_sem, x0, x1, x2, MD.full]) rfl ⟨m, s, c, d, rfl, Z.out⟩
set_option maxHeartbeats 1600000 in
theorem has_any (ao : Option Addr) (c n : Nat) (f : Nat → Int) (Y : Nat → Prop) (w : World) (x : Nat) (h : IntsAt Y w ao n f) :
    Calls Try.prog 22 #[.slice ao n c, .int .i64 x] w fun e w' => ∃ b, e = .returned (.bool b) ∧ (b = true ↔ hasLine n f x) ∧ w' = w := by
  obtain ⟨hn, h⟩ := h
  have HH : Hid (∀ i, i < n → ∃ b o, ao = some ⟨b, o, none⟩ ∧ Y b ∧ w.cell? ⟨b, o + i, none⟩ = some (.int .i64 (f i))) := h
  clear h
  go_enter Try.func22, Try.ntmps22
  go_wp2
  go_loopw [9] (fun i wr => ∃ k : Nat, k ≤ n ∧ i = .int .i64 k ∧ (∀ t, t < k → ¬ f t = x) ∧ wr = w) (fun i _ => n - (intOf i).toNat)
  case atStart => exact ⟨0, Nat.zero_le _, rfl, fun t ht => absurd ht (Nat.not_lt_zero _), rfl⟩
  case round =>
    obtain ⟨k, hk, rfl, hok, rfl⟩ := hrel
    have HO : Hid (∀ t, t < k → ¬ f t = x) := hok
    clear hok
    by_cases hlt : k < n
    · obtain ⟨b, o, rfl, -, g1⟩ := HH.out k hlt
      have hlt' : (k : Int) < n := by omega
      by_cases hr : f k = (x : Int)
      · have d1 : (f k == (x : Int)) = true := by simp [hr]
        go_wp2
        go_ret
        exact ⟨true, rfl, ⟨fun _ => ⟨k, hlt, hr⟩, fun _ => rfl⟩, rfl⟩
      · have d1 : (f k == (x : Int)) = false := by simp [hr]
        go_wp2
        go_roundw
        case rel => exact ⟨k + 1, by omega, by go_num, fun t ht => by
          by_cases e : t = k
          · subst e; exact hr
          · exact HO.out t (by omega), by first | rfl | trivial⟩
        case measure => simp [intOf]; omega
    · obtain rfl : k = n := by omega
      go_wp2
      go_ret
      exact ⟨false, rfl, ⟨fun h => absurd h (by decide), fun ⟨t, h1, h2⟩ => absurd h2 (HO.out t h1)⟩, rfl⟩
end Go.Proofs.Ytnbcjdoohmjghaa
