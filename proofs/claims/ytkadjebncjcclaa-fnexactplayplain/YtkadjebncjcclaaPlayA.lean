/- The program's PlayPlain. -/
import Derived.Test.YtkadjebncjcclaaPlayE
namespace Go.Proofs.Ytkadjebncjcclaa
open Go.RowKit
set_option linter.unusedSimpArgs false
set_option linter.unusedVariables false
theorem box1row (w : World) (u : Value) (t : TypeId) : Row (w.alloc (.cells #[u] t)) w.heap.size 1 (fun _ => u) :=
  Row.of_cells (heap_alloc_new w (.cells #[u] t)) (fun _ => u) (fun i hi => by obtain rfl : i = 0 := by simpa using hi
                                                                               rfl)
set_option maxRecDepth 10000 in
set_option maxHeartbeats 1600000 in
theorem answersTo_any (E : Nat → Prop) (zt : Nat) (b : BV) (B : BD) (ao : Option Addr) (n c : Nat) (F : Nat → Nat → Int) (w : World) (hn : n ≤ 1048576) (hE : ∀ x, E x → x < w.heap.size) (h : TS E w zt b B) (hl : KAt 4 (fun x => x < w.heap.size ∧ x ≠ zt) w ao n F) :
    Calls Try.prog 54 #[.slice ao n c, .func (.func 61) #[] #[.pointer (some ⟨zt, 0, none⟩)]] w fun e w' => ∃ z Bs A b', e = .returned (.slice (some ⟨z, 0, none⟩) n n) ∧ Plays B F n Bs A ∧ w.heap.size ≤ z ∧ Row w' z n (plRow n n A) ∧ TS E w' zt b' (Bs n) ∧ Mod (fun x => x = zt) w w' := by
  have hA : Blw w (w.alloc (.cells #[.func (.func 61) #[] #[.pointer (some ⟨zt, 0, none⟩)]] 94)) := (Blw.refl _).alloc _
  have HT : Hid (TS E (w.alloc (.cells #[.func (.func 61) #[] #[.pointer (some ⟨zt, 0, none⟩)]] 94)) zt b B) := h.blw hA
  have HF : Hid (Row (w.alloc (.cells #[.func (.func 61) #[] #[.pointer (some ⟨zt, 0, none⟩)]] 94)) w.heap.size 1 (fun _ => .func (.func 61) #[] #[.pointer (some ⟨zt, 0, none⟩)])) := box1row w _ _
  have HL : Hid (KAt 4 (fun x => x < (w.alloc (.cells #[.func (.func 61) #[] #[.pointer (some ⟨zt, 0, none⟩)]] 94)).heap.size ∧ x ≠ zt) (w.alloc (.cells #[.func (.func 61) #[] #[.pointer (some ⟨zt, 0, none⟩)]] 94)) ao n F) := (hl.blw hA).mono (fun x hx => ⟨Nat.lt_of_lt_of_le hx.1 hA.size, hx.2⟩)
  have HB : Hid (Blw w (w.alloc (.cells #[.func (.func 61) #[] #[.pointer (some ⟨zt, 0, none⟩)]] 94))) := hA
  have hz := h.box.lt
  have HZ : Hid (w.heap.size ≠ zt) := by show _ ≠ _; omega
  clear h hl hA hz
  go_enter Try.func54, Try.ntmps54
  go_wp2_with fail
  generalize w.alloc (.cells #[.func (.func 61) #[] #[.pointer (some ⟨zt, 0, none⟩)]] 94) = wp at *
  refine (eachP_any E zt w.heap.size b B ao n c F wp hn (fun x hx => Nat.lt_of_lt_of_le (hE x hx) HB.out.size) HZ.out HT.out HF.out HL.out).mono ?_
  rintro e w2 ⟨Bs, A, b2, rfl, hp, hr, ht, hm⟩
  have FIN : Hid (∃ z Bs A b', Ending.returned (.slice (some ⟨wp.heap.size, 0, none⟩) n n) = .returned (.slice (some ⟨z, 0, none⟩) n n) ∧ Plays B F n Bs A ∧ w.heap.size ≤ z ∧ Row w2 z n (plRow n n A) ∧ TS E w2 zt b' (Bs n) ∧ Mod (fun x => x = zt) w w2) := ⟨_, Bs, A, b2, rfl, hp, HB.out.size, hr, ht, (HB.out.mod _).trans hm⟩
  clear hp hr ht hm HT HF HL HB HZ
  go_wp2
  go_ret
  exact FIN.out
set_option maxRecDepth 10000 in
set_option maxHeartbeats 1600000 in
theorem tableToPlay_any (k : Int) (ao : Option Addr) (n c : Nat) (w : World) (hn : n ≤ 1048576) :
    Calls Try.prog 53 #[.int .i64 k, .slice ao n c] w (GivesB (resT (cntOK k ∧ n ≤ 60) (newB k)) w) := by
  have hb0 : Blw w (w.alloc (.cells #[.slice none 0 0, .slice none 0 0] 29)) := (Blw.refl _).alloc _
  have r0 := box2 w (.slice none 0 0) (.slice none 0 0) 29
  go_enter Try.func53, Try.ntmps53
  by_cases hle : n ≤ 60
  · have hle' : ¬ (n : Int) > 60 := by omega
    have HB : Hid (Blw w (w.alloc (.cells #[.slice none 0 0, .slice none 0 0] 29))) := hb0
    have HR : Hid (Row (w.alloc (.cells #[.slice none 0 0, .slice none 0 0] 29)) w.heap.size 2 (fun i => if i = 0 then .slice none 0 0 else .slice none 0 0)) := r0
    clear hb0 r0
    go_wp2_with fail
    clear hle'
    generalize w.alloc (.cells #[.slice none 0 0, .slice none 0 0] 29) = w0 at *
    refine (implNew_any k _).mono ?_
    rintro e w1 ⟨b, R, r, rfl, ho, hs, own, hb1⟩
    have hz := HR.out.lt
    replace HR : Hid (Row w1 w.heap.size 2 (fun i => if i = 0 then .slice none 0 0 else .slice none 0 0)) := HR.out.blw hb1
    have ho2 : resT (cntOK k ∧ n ≤ 60) (newB k) R r := ho.elim (fun ⟨h1, h2⟩ => Or.inl ⟨⟨h1, hle⟩, h2⟩) (fun ⟨h1, h2⟩ => Or.inr ⟨fun g => h1 g.1, h2⟩)
    have hm := set2_mod (X := fun x => x = w.heap.size) w1 rfl (.slice b.a1 R.n b.c1) (.slice b.a2 R.D.n b.c2)
    have hms := hm.size
    have hbs := HB.out.size
    have hb1s := hb1.size
    have FIN : Hid (GivesB (resT (cntOK k ∧ n ≤ 60) (newB k)) w (.returned (.tuple #[b.val R, .bool r])) ((w1.setCell ⟨w.heap.size, 0, none⟩ (.slice b.a1 R.n b.c1)).setCell ⟨w.heap.size, 1, none⟩ (.slice b.a2 R.D.n b.c2))) :=
      ⟨b, R, r, rfl, ho2, hs, (own.mod hm (fun x hx e => by omega)).mono (fun x hx => by omega), set2_blw (HB.out.trans hb1) (Nat.le_refl _) _ _⟩
    obtain ⟨t0, t1⟩ := get2 HR.out
    have f0 := HR.out.frozen 0
    have f1 := HR.out.frozen 1
    clear ho ho2 hs own hb1 HB HR hm hms hbs hb1s hz
    go_wp2
    exact bodyPost_ret (v := .tuple #[b.val R, .bool r]) (by simp [results, Try.results53, go_sem, t0, t1]) rfl FIN.out
  · have hle' : (n : Int) > 60 := by omega
    have FIN : Hid (GivesB (resT (cntOK k ∧ n ≤ 60) (newB k)) w (.returned (.tuple #[BV.zero.val BD.zero, .bool false])) (w.alloc (.cells #[.slice none 0 0, .slice none 0 0] 29))) := zero_givesT0 (Or.inr ⟨fun g => hle g.2, rfl, rfl⟩) hb0
    obtain ⟨t0, t1⟩ := get2 r0
    have f0 := r0.frozen 0
    have f1 := r0.frozen 1
    clear hb0 r0
    go_wp2
    exact bodyPost_ret (v := .tuple #[BV.zero.val BD.zero, .bool false]) (by simp [results, Try.results53, go_sem, t0, t1]) rfl FIN.out
/-- What PlayPlain answers. -/
def ppO (k : Int) (n : Nat) (F : Nat → Nat → Int) (N : Nat) (f : Nat → Int) (r : Bool) : Prop :=
  ((cntOK k ∧ n ≤ 60) ∧ r = true ∧ N = n ∧ ∃ Bs A, Plays (newB k) F n Bs A ∧ ∀ i, i < n → f i = A i) ∨ (¬ (cntOK k ∧ n ≤ 60) ∧ r = false ∧ N = 0)
theorem ppO_same {k : Int} {n : Nat} {F : Nat → Nat → Int} {N N' : Nat} {f f' : Nat → Int} {r r' : Bool} (h : ppO k n F N f r) (h' : ppO k n F N' f' r') : r = r' ∧ N = N' ∧ ∀ i, i < N → f i = f' i := by
  rcases h with ⟨g, rfl, rfl, Bs, A, hp, e⟩ | ⟨g, rfl, rfl⟩ <;> rcases h' with ⟨g', rfl, rfl, Bs', A', hp', e'⟩ | ⟨g', rfl, rfl⟩
  · exact ⟨rfl, rfl, fun i hi => (e i hi).trans (((hp.same hp').2 i hi).trans (e' i hi).symm)⟩
  · exact absurd g g'
  · exact absurd g' g
  · exact ⟨rfl, rfl, fun i hi => absurd hi (Nat.not_lt_zero _)⟩
set_option maxRecDepth 10000 in
set_option maxHeartbeats 1600000 in
theorem implPP_any (k : Int) (ao : Option Addr) (n c : Nat) (F : Nat → Nat → Int) (w : World) (hn : n ≤ 1048576) (hl : KAt 4 (fun x => x < w.heap.size) w ao n F) :
    Calls Try.prog 15 #[.int .i64 k, .slice ao n c] w (GivesI (ppO k n F) w) := by
  go_enter Try.func15, Try.ntmps15
  have HL : Hid (KAt 4 (fun x => x < w.heap.size) w ao n F) := hl
  clear hl
  go_wp2_with fail
  refine (tableToPlay_any k ao n c w hn).mono ?_
  rintro e w1 ⟨b, R, r, rfl, ho, hs, own, hb1⟩
  have HO : Hid (resT (cntOK k ∧ n ≤ 60) (newB k) R r) := ho
  have hA : Blw w1 (w1.alloc (.cells #[.slice b.a1 R.n b.c1, .slice b.a2 R.D.n b.c2] 29)) := (Blw.refl _).alloc _
  have HT : Hid (TS (fun _ : Nat => False) (w1.alloc (.cells #[.slice b.a1 R.n b.c1, .slice b.a2 R.D.n b.c2] 29)) w1.heap.size b R) := ⟨box2 w1 _ _ 29, (own.at.blw hA).mono (fun x hx => ⟨id, by simp; omega, by omega⟩)⟩
  have HB : Hid (Blw w (w1.alloc (.cells #[.slice b.a1 R.n b.c1, .slice b.a2 R.D.n b.c2] 29))) := hb1.trans hA
  have HL2 : Hid (KAt 4 (fun x => x < (w1.alloc (.cells #[.slice b.a1 R.n b.c1, .slice b.a2 R.D.n b.c2] 29)).heap.size ∧ x ≠ w1.heap.size) (w1.alloc (.cells #[.slice b.a1 R.n b.c1, .slice b.a2 R.D.n b.c2] 29)) ao n F) := (HL.out.blw (hb1.trans hA)).mono (fun x hx => by have h1 := hb1.size; have h2 := hA.size; omega)
  have HZ : Hid (w.heap.size ≤ w1.heap.size) := hb1.size
  clear ho hs own hb1 hA HL
  cases r
  · have HN : Hid (¬ (cntOK k ∧ n ≤ 60)) := HO.out.elim (fun g => by cases g.2.2) (fun g => g.1)
    have FIN : Hid _ := zero_givesI (out := ppO k n F) (w := w) (w1 := w1.alloc (.cells #[.slice b.a1 R.n b.c1, .slice b.a2 R.D.n b.c2] 29)) (Or.inr ⟨HN.out, rfl, rfl⟩) HB.out
    clear HO HT HB HL2 HZ HN
    go_wp2
    exact bodyPost_ret (v := .tuple #[.slice none 0 0, .bool false]) (by simp [results, Try.results15, go_sem]) rfl FIN.out
  have HY : Hid ((cntOK k ∧ n ≤ 60) ∧ R = newB k) := HO.out.elim (fun g => ⟨g.1, g.2.1⟩) (fun g => by cases g.2.2)
  clear HO
  go_wp2_with fail
  generalize w1.alloc (.cells #[.slice b.a1 R.n b.c1, .slice b.a2 R.D.n b.c2] 29) = wp at *
  refine (answersTo_any (fun _ : Nat => False) w1.heap.size b R ao n c F wp hn (fun x hx => hx.elim) HT.out HL2.out).mono ?_
  rintro e w2 ⟨z, Bs, A, b2, rfl, hp, hz, hr, ht, hm⟩
  have hzz := hr.lt
  have hbs := HB.out.size
  have FIN : Hid (GivesI (ppO k n F) w (.returned (.tuple #[.slice (some ⟨z, 0, none⟩) n n, .bool true])) w2) :=
    ⟨some ⟨z, 0, none⟩, n, n, A, true, rfl, Or.inl ⟨HY.out.1, rfl, rfl, Bs, A, HY.out.2 ▸ hp, fun i hi => rfl⟩, hn, ⟨by omega, fun hn => ⟨z, ⟨by omega, by omega⟩, rfl, hr.congr (fun i hi => by unfold plRow; rw [if_pos hi])⟩⟩, Mod.blw HB.out hm (fun i hi => by have := HZ.out; omega)⟩
  clear hp hr ht hm hz hzz hbs HT HB HL2 HZ HY
  go_wp2
  exact bodyPost_ret (v := .tuple #[.slice (some ⟨z, 0, none⟩) n n, .bool true]) (by simp [results, Try.results15, go_sem]) rfl FIN.out
end Go.Proofs.Ytkadjebncjcclaa
