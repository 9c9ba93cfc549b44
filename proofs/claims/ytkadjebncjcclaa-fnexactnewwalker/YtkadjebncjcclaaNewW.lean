/- New walkers: the program's and the model's. -/
import Derived.Test.YtkadjebncjcclaaWkL
import Derived.Test.YtkadjebncjcclaaOwnS
import Derived.Test.YtkadjebncjcclaaGiveT
import Derived.Test.YtkadjebncjcclaaLawB
namespace Go.Proofs.Ytkadjebncjcclaa
open Go.RowKit
set_option linter.unusedSimpArgs false
set_option linter.unusedVariables false
def GivesK (out : KD → Bool → Prop) (w : World) : Ending → World → Prop := fun e w' =>
  ∃ (v : KV) (R : KD) (r : Bool), e = .returned (.tuple #[v.val R, .bool r]) ∧ out R r ∧ R.small ∧ WkOwn (fun x => w.heap.size ≤ x ∧ x < w'.heap.size) w' v R ∧ Blw w w'
def resK (ok : Prop) (V R : KD) (r : Bool) : Prop := (ok ∧ R = V ∧ r = true) ∨ (¬ ok ∧ R = KD.zero ∧ r = false)
theorem resK_same {ok : Prop} {V R R' : KD} {b c : Bool} (h : resK ok V R b) (k : resK ok V R' c) : R = R' ∧ b = c := by
  rcases h with ⟨g, rfl, rfl⟩ | ⟨g, rfl, rfl⟩
  · rcases k with ⟨_, rfl, rfl⟩ | ⟨g', _, _⟩
    · exact ⟨rfl, rfl⟩
    · exact absurd g g'
  · rcases k with ⟨g', _⟩ | ⟨_, rfl, rfl⟩
    · exact absurd g' g
    · exact ⟨rfl, rfl⟩
abbrev own4 (B : BD) : BD := ⟨4, B.c, ⟨B.D.n, fun _ => 4, B.D.p, B.D.m⟩⟩
abbrev nwD (B : BD) : KD := ⟨own4 B, 0, fun _ _ => 0, 0⟩
abbrev set4 (W : World) (z : Nat) (a b c d : Value) : World := (((W.setCell ⟨z, 0, none⟩ a).setCell ⟨z, 1, none⟩ b).setCell ⟨z, 2, none⟩ c).setCell ⟨z, 3, none⟩ d
theorem set4_blw {w W : World} {z : Nat} (h : Blw w W) (hz : w.heap.size ≤ z) (a b c d : Value) : Blw w (set4 W z a b c d) := (((h.setCell hz _).setCell hz _).setCell hz _).setCell hz _
theorem set4_mod (W : World) (z : Nat) (a b c d : Value) : Mod (fun x => x = z) W (set4 W z a b c d) :=
  (((Mod.setCell (X := fun x => x = z) _ (p := ⟨z, 0, none⟩) rfl _).trans (Mod.setCell (X := fun x => x = z) _ (p := ⟨z, 1, none⟩) rfl _)).trans (Mod.setCell (X := fun x => x = z) _ (p := ⟨z, 2, none⟩) rfl _)).trans (Mod.setCell (X := fun x => x = z) _ (p := ⟨z, 3, none⟩) rfl _)
theorem zero_givesK {out : KD → Bool → Prop} {w W : World} {z : Nat} (hz : w.heap.size ≤ z) (ho : out KD.zero false) (hb : Blw w W) :
    GivesK out w (.returned (.tuple #[KV.zero.val KD.zero, .bool false])) (set4 W z (.slice none 0 0) (.slice none 0 0) (.slice none 0 0) (.int .i64 0)) :=
  ⟨KV.zero, KD.zero, false, rfl, ho, ⟨by decide, by decide⟩, WkOwn.zero _ _, set4_blw hb hz _ _ _ _⟩
theorem pass_givesK {out : KD → Bool → Prop} {X : Nat → Prop} {w W : World} {z : Nat} {v : KV} {R : KD} {r : Bool} (hz : w.heap.size ≤ z) (ho : out R r) (hs : R.small) (hb : Blw w W) (own : WkOwn X W v R) (hX : ∀ x, X x → w.heap.size ≤ x ∧ x ≠ z ∧ x < W.heap.size) :
    GivesK out w (.returned (.tuple #[v.val R, .bool r])) (set4 W z (.slice v.b.a1 R.B.n v.b.c1) (.slice v.b.a2 R.B.D.n v.b.c2) (.slice v.a R.n v.q) (.int .i64 R.h)) := by
  have hm := set4_mod W z (.slice v.b.a1 R.B.n v.b.c1) (.slice v.b.a2 R.B.D.n v.b.c2) (.slice v.a R.n v.q) (.int .i64 R.h)
  have := hm.size
  exact ⟨v, R, r, rfl, ho, hs, (own.mod hm (fun x hx e => (hX x hx).2.1 e)).mono (fun x hx => by have := hX x hx; omega), set4_blw hb hz _ _ _ _⟩
theorem own_small {B : BD} (g : B.Good) : (nwD B).small := ⟨tot4 (c := B.c) g.k.2, by show 0 ≤ _; omega⟩
theorem own_wk {X : Nat → Prop} {w : World} {b : BV} {B : BD} (h : BookOwn X w b (own4 B)) : WkOwn X w ⟨b, none, 0⟩ (nwD B) := ⟨X, fun _ => False, fun _ hx => ⟨hx, id⟩, fun _ h => h.elim, h, KOwn.nil _ _ _ _ _⟩
theorem eqnilTIn (d t : Nat) (e : TypeId) (ht : Try.prog.underlying t = some (.slice e)) (w : World) : (Op.equalIn (d + 1) t (.slice none 0 0) (.slice none 0 0)).run Try.prog w = .ok true w := by
  simp [Op.equalIn, run_underlying ht]
theorem eqnilT (t : Nat) (e : TypeId) (ht : Try.prog.underlying t = some (.slice e)) (w : World) : (binOp .eql t (.slice none 0 0) (.slice none 0 0)).run Try.prog w = .ok (.bool true) w := by
  have h1 : (Op.equal t (.slice none 0 0) (.slice none 0 0)).run Try.prog w = .ok true w := by
    exact eqnilTIn 9999 t e ht w
  simp only [binOp]
  simp [h1]
set_option maxHeartbeats 800000 in
theorem cloneNil_any (w : World) : Calls Try.prog 114 #[.slice none 0 0] w fun e w' => e = .returned (.slice none 0 0) ∧ Blw w w' := by
  have hnil := eqnilT 30 108 Try.underlying30
  go_enter Try.func114, Try.ntmps114
  go_wp2
  first | (go_ret; exact ⟨rfl, Blw.refl _⟩) | exact bodyPost_ret (v := .slice none 0 0) (by simp [results, Try.results114, go_sem]) rfl ⟨rfl, Blw.refl _⟩
set_option maxRecDepth 10000 in
set_option maxHeartbeats 3200000 in
theorem specNewW_any (b : BV) (B : BD) (Y : Nat → Prop) (w : World) (hn : B.n ≤ 1048576) (h : BookAt Y w b B) :
    Calls Try.prog 33 #[b.val B] w (GivesK (resK B.Good (nwD B)) w) := by
  have hA1 : Blw w (w.alloc (.cells #[.slice b.a1 B.n b.c1, .slice b.a2 B.D.n b.c2] 29)) := (Blw.refl _).alloc _
  have hA2 : Blw (w.alloc (.cells #[.slice b.a1 B.n b.c1, .slice b.a2 B.D.n b.c2] 29)) ((w.alloc (.cells #[.slice b.a1 B.n b.c1, .slice b.a2 B.D.n b.c2] 29)).alloc (.cells #[.slice none 0 0, .slice none 0 0, .slice none 0 0, .int .i64 0] 32)) := (Blw.refl _).alloc _
  have HB : Hid (Blw w ((w.alloc (.cells #[.slice b.a1 B.n b.c1, .slice b.a2 B.D.n b.c2] 29)).alloc (.cells #[.slice none 0 0, .slice none 0 0, .slice none 0 0, .int .i64 0] 32))) := hA1.trans hA2
  have rR := box4 (w.alloc (.cells #[.slice b.a1 B.n b.c1, .slice b.a2 B.D.n b.c2] 29)) (.slice none 0 0) (.slice none 0 0) (.slice none 0 0) (.int .i64 0) 32
  rw [World.size_alloc] at rR
  have HR : Hid (Row ((w.alloc (.cells #[.slice b.a1 B.n b.c1, .slice b.a2 B.D.n b.c2] 29)).alloc (.cells #[.slice none 0 0, .slice none 0 0, .slice none 0 0, .int .i64 0] 32)) (w.heap.size + 1) 4 (fun i => if i = 0 then .slice none 0 0 else if i = 1 then .slice none 0 0 else if i = 2 then .slice none 0 0 else .int .i64 0)) := rR
  have HA : Hid (BookAt Y ((w.alloc (.cells #[.slice b.a1 B.n b.c1, .slice b.a2 B.D.n b.c2] 29)).alloc (.cells #[.slice none 0 0, .slice none 0 0, .slice none 0 0, .int .i64 0] 32)) b B) := h.blw (hA1.trans hA2)
  have HA0 : Hid (Row ((w.alloc (.cells #[.slice b.a1 B.n b.c1, .slice b.a2 B.D.n b.c2] 29)).alloc (.cells #[.slice none 0 0, .slice none 0 0, .slice none 0 0, .int .i64 0] 32)) w.heap.size 2 (fun i => if i = 0 then .slice b.a1 B.n b.c1 else .slice b.a2 B.D.n b.c2)) := (box2 w _ _ 29).blw hA2
  have HSZ : Hid (w.heap.size + 1 + 1 = ((w.alloc (.cells #[.slice b.a1 B.n b.c1, .slice b.a2 B.D.n b.c2] 29)).alloc (.cells #[.slice none 0 0, .slice none 0 0, .slice none 0 0, .int .i64 0] 32)).heap.size) := by show _ = _; simp
  clear hA1 hA2 rR h
  go_enter Try.func33, Try.ntmps33
  obtain ⟨p0, p1⟩ := get2 HA0.out
  go_wp2_with fail
  clear p0 p1
  generalize ((w.alloc (.cells #[.slice b.a1 B.n b.c1, .slice b.a2 B.D.n b.c2] 29)).alloc (.cells #[.slice none 0 0, .slice none 0 0, .slice none 0 0, .int .i64 0] 32)) = w0 at *
  refine (specGood_any b B Y _ hn HA.out).mono ?_
  rintro e w1 ⟨r, rfl, hr, hb1⟩
  have HT : Hid (r = true ↔ B.Good) := hr
  replace HSZ : Hid (w.heap.size + 1 + 1 ≤ w1.heap.size) := by have := HSZ.out; have := hb1.size; show _ ≤ _; omega
  replace HB : Hid (Blw w w1) := HB.out.trans hb1
  replace HR : Hid (Row w1 (w.heap.size + 1) 4 (fun i => if i = 0 then .slice none 0 0 else if i = 1 then .slice none 0 0 else if i = 2 then .slice none 0 0 else .int .i64 0)) := HR.out.blw hb1
  replace HA0 : Hid (Row w1 w.heap.size 2 (fun i => if i = 0 then .slice b.a1 B.n b.c1 else .slice b.a2 B.D.n b.c2)) := HA0.out.blw hb1
  replace HA : Hid (BookAt Y w1 b B) := HA.out.blw hb1
  clear hr hb1
  cases r
  · have HN : Hid (¬ B.Good) := fun g => by have := HT.out.2 g; simp at this
    obtain ⟨t0, t1, t2, t3⟩ := get4 HR.out
    have f0 := HR.out.frozen 0; have f1 := HR.out.frozen 1; have f2 := HR.out.frozen 2; have f3 := HR.out.frozen 3
    clear HT HR HA0 HA
    go_wp2
    exact bodyPost_ret (v := .tuple #[KV.zero.val KD.zero, .bool false]) (by simp [results, Try.results33, go_sem, t0, t1, t2, t3]) rfl (zero_givesK (z := w.heap.size + 1) (by omega) (Or.inr ⟨HN.out, rfl, rfl⟩) HB.out)
  have HG : Hid (B.Good) := HT.out.1 (by first | rfl | trivial)
  clear HT
  obtain ⟨n, c, ⟨kn, len, p, m⟩⟩ := B
  have hn4 : n = 4 := HG.out.n
  subst hn4
  obtain ⟨p0, p1⟩ := get2 HA0.out
  go_wp2_with fail
  clear p0 p1
  refine (l6Own_any b c kn len p m Y _ HG.out.k.2 (fun i hi => (HG.out.leaf i hi).1) HA.out).mono ?_
  rintro e w2 ⟨b2, rfl, own, hb2⟩
  have hz := HSZ.out
  have hr2 := HR.out.blw hb2
  have hlt := hr2.lt
  have FIN : Hid _ := pass_givesK (out := resK (BD.Good ⟨4, c, ⟨kn, len, p, m⟩⟩) (nwD ⟨4, c, ⟨kn, len, p, m⟩⟩)) (w := w) (W := w2) (z := w.heap.size + 1) (r := true) (by omega) (Or.inl ⟨HG.out, rfl, rfl⟩) (own_small HG.out) (HB.out.trans hb2) (own_wk (B := ⟨4, c, ⟨kn, len, p, m⟩⟩) own) (fun x hx => ⟨by omega, by omega, hx.2⟩)
  obtain ⟨t0, t1, t2, t3⟩ := get4 hr2
  have f0 := hr2.frozen 0; have f1 := hr2.frozen 1; have f2 := hr2.frozen 2; have f3 := hr2.frozen 3
  clear HR HA0 HA own hb2 hr2 hlt hz HB
  go_wp2
  exact bodyPost_ret (v := .tuple #[(KV.mk b2 none 0).val (nwD ⟨4, c, ⟨kn, len, p, m⟩⟩), .bool true]) (by simp [results, Try.results33, go_sem, t0, t1, t2, t3]) rfl FIN.out
set_option maxRecDepth 10000 in
set_option maxHeartbeats 6400000 in
theorem ownNil_any (b : BV) (B : BD) (Y : Nat → Prop) (w : World) (h : BookAt Y w b B) (hY : ∀ x, Y x → x < w.heap.size) :
    Calls Try.prog 67 #[.agg #[.slice b.a1 B.n b.c1, .slice b.a2 B.D.n b.c2, .slice none 0 0, .int .i64 0]] w (GivesK (resK B.Good (nwD B)) w) := by
  have hA1 : Blw w (w.alloc (.cells #[.slice b.a1 B.n b.c1, .slice b.a2 B.D.n b.c2, .slice none 0 0, .int .i64 0] 32)) := (Blw.refl _).alloc _
  have hA2 : Blw (w.alloc (.cells #[.slice b.a1 B.n b.c1, .slice b.a2 B.D.n b.c2, .slice none 0 0, .int .i64 0] 32)) ((w.alloc (.cells #[.slice b.a1 B.n b.c1, .slice b.a2 B.D.n b.c2, .slice none 0 0, .int .i64 0] 32)).alloc (.cells #[.slice none 0 0, .slice none 0 0, .slice none 0 0, .int .i64 0] 32)) := (Blw.refl _).alloc _
  have HB : Hid (Blw w ((w.alloc (.cells #[.slice b.a1 B.n b.c1, .slice b.a2 B.D.n b.c2, .slice none 0 0, .int .i64 0] 32)).alloc (.cells #[.slice none 0 0, .slice none 0 0, .slice none 0 0, .int .i64 0] 32))) := hA1.trans hA2
  have rR := box4 (w.alloc (.cells #[.slice b.a1 B.n b.c1, .slice b.a2 B.D.n b.c2, .slice none 0 0, .int .i64 0] 32)) (.slice none 0 0) (.slice none 0 0) (.slice none 0 0) (.int .i64 0) 32
  rw [World.size_alloc] at rR
  have HR : Hid (Row ((w.alloc (.cells #[.slice b.a1 B.n b.c1, .slice b.a2 B.D.n b.c2, .slice none 0 0, .int .i64 0] 32)).alloc (.cells #[.slice none 0 0, .slice none 0 0, .slice none 0 0, .int .i64 0] 32)) (w.heap.size + 1) 4 (fun i => if i = 0 then .slice none 0 0 else if i = 1 then .slice none 0 0 else if i = 2 then .slice none 0 0 else .int .i64 0)) := rR
  have HA : Hid (BookAt Y ((w.alloc (.cells #[.slice b.a1 B.n b.c1, .slice b.a2 B.D.n b.c2, .slice none 0 0, .int .i64 0] 32)).alloc (.cells #[.slice none 0 0, .slice none 0 0, .slice none 0 0, .int .i64 0] 32)) b B) := h.blw (hA1.trans hA2)
  have HK : Hid (Row ((w.alloc (.cells #[.slice b.a1 B.n b.c1, .slice b.a2 B.D.n b.c2, .slice none 0 0, .int .i64 0] 32)).alloc (.cells #[.slice none 0 0, .slice none 0 0, .slice none 0 0, .int .i64 0] 32)) w.heap.size 4 (fun i => if i = 0 then .slice b.a1 B.n b.c1 else if i = 1 then .slice b.a2 B.D.n b.c2 else if i = 2 then .slice none 0 0 else .int .i64 0)) := (box4 w _ _ _ _ 32).blw hA2
  clear hA1 hA2 rR h
  go_enter Try.func67, Try.ntmps67
  obtain ⟨p0, p1, p2, p3⟩ := get4 HK.out
  go_wp2_with fail
  clear p0 p1 p2 p3
  refine (hold_any b B Y _ HA.out (fun x hx => by have := hY x hx; simp; omega)).mono ?_
  rintro e w1 ⟨h1, hb1⟩
  have HZ : Hid (w.heap.size + 1 + 1 ≤ w1.heap.size) := by have := hb1.size; simp only [World.size_alloc] at this; exact this
  replace HB : Hid (Blw w w1) := HB.out.trans hb1
  replace HR : Hid (Row w1 (w.heap.size + 1) 4 (fun i => if i = 0 then .slice none 0 0 else if i = 1 then .slice none 0 0 else if i = 2 then .slice none 0 0 else .int .i64 0)) := HR.out.blw hb1
  replace HK : Hid (Row w1 w.heap.size 4 (fun i => if i = 0 then .slice b.a1 B.n b.c1 else if i = 1 then .slice b.a2 B.D.n b.c2 else if i = 2 then .slice none 0 0 else .int .i64 0)) := HK.out.blw hb1
  clear hb1 HA
  rcases h1 with ⟨z, hg, rfl, hrow, hlo⟩ | ⟨hg, rfl⟩
  case inr =>
    have HG : Hid (¬ B.Good) := hg
    clear hg
    go_upto_region 3 with fail
    have hA : Blw w1 (w1.alloc (.cells zero5 115)) := (Blw.refl _).alloc _
    replace HR : Hid (Row (w1.alloc (.cells zero5 115)) (w.heap.size + 1) 4 (fun i => if i = 0 then .slice none 0 0 else if i = 1 then .slice none 0 0 else if i = 2 then .slice none 0 0 else .int .i64 0)) := HR.out.blw hA
    replace HB : Hid (Blw w (w1.alloc (.cells zero5 115))) := HB.out.trans hA
    clear HZ hA HK
    generalize w1.alloc (.cells zero5 115) = w2 at *
    obtain ⟨t0, t1, t2, t3⟩ := get4 HR.out
    have f0 := HR.out.frozen 0; have f1 := HR.out.frozen 1; have f2 := HR.out.frozen 2; have f3 := HR.out.frozen 3
    clear HR
    go_wp2
    exact bodyPost_ret (v := .tuple #[KV.zero.val KD.zero, .bool false]) (by simp [results, Try.results67, go_sem, t0, t1, t2, t3]) rfl (zero_givesK (z := w.heap.size + 1) (by omega) (Or.inr ⟨HG.out, rfl, rfl⟩) HB.out)
  have HG : Hid B.Good := hg
  obtain ⟨n, c, ⟨kn, len, p, m⟩⟩ := B
  have hn4 : n = 4 := HG.out.n
  subst hn4
  have hk4 : kn ≤ 4 := HG.out.k.2
  dsimp only at *
  have hA : Blw w1 (w1.alloc (.cells (held5 c z kn) 115)) := (Blw.refl _).alloc _
  have H5 : Hid (Row (w1.alloc (.cells (held5 c z kn) 115)) w1.heap.size 5 (row5f c (.slice (some ⟨z, 0, none⟩) kn kn))) := row5 w1 (.int .i64 (c 0)) (.int .i64 (c 1)) (.int .i64 (c 2)) (.int .i64 (c 3)) (.slice (some ⟨z, 0, none⟩) kn kn) 115
  have HL : Hid (Row (w1.alloc (.cells (held5 c z kn) 115)) z (kn * 8) (lc p m)) := hrow.blw hA
  replace HR : Hid (Row (w1.alloc (.cells (held5 c z kn) 115)) (w.heap.size + 1) 4 (fun i => if i = 0 then .slice none 0 0 else if i = 1 then .slice none 0 0 else if i = 2 then .slice none 0 0 else .int .i64 0)) := HR.out.blw hA
  replace HB : Hid (Blw w (w1.alloc (.cells (held5 c z kn) 115))) := HB.out.trans hA
  replace HK : Hid (Row (w1.alloc (.cells (held5 c z kn) 115)) w.heap.size 4 (fun i => if i = 0 then .slice b.a1 4 b.c1 else if i = 1 then .slice b.a2 kn b.c2 else if i = 2 then .slice none 0 0 else .int .i64 0)) := HK.out.blw hA
  clear hg hA hrow hlo
  go_upto_region 2 with fail
  generalize w1.alloc (.cells (held5 c z kn) 115) = W at *
  generalize w1.heap.size = zb at *
  obtain ⟨p0, p1, p2, p3⟩ := get4 HK.out
  go_wp2_with fail
  clear p0 p1 p2 p3
  go_loopw [36] (fun i wr => i = .int .i64 0 ∧ wr = W) (fun _ _ => 0)
  case atStart => exact ⟨rfl, rfl⟩
  case round =>
    obtain ⟨rfl, rfl⟩ := hrel
    go_upto_region 10 with fail
    replace HR : Hid (Row wr.drew (w.heap.size + 1) 4 (fun i => if i = 0 then .slice none 0 0 else if i = 1 then .slice none 0 0 else if i = 2 then .slice none 0 0 else .int .i64 0)) := HR.out.blw (Blw.refl _).drew
    replace HB : Hid (Blw w wr.drew) := HB.out.drew
    replace HK : Hid (Row wr.drew w.heap.size 4 (fun i => if i = 0 then .slice b.a1 4 b.c1 else if i = 1 then .slice b.a2 kn b.c2 else if i = 2 then .slice none 0 0 else .int .i64 0)) := HK.out.blw (Blw.refl _).drew
    replace H5 : Hid (Row wr.drew zb 5 (row5f c (.slice (some ⟨z, 0, none⟩) kn kn))) := H5.out.blw (Blw.refl _).drew
    replace HL : Hid (Row wr.drew z (kn * 8) (lc p m)) := HL.out.blw (Blw.refl _).drew
    replace HZ : Hid (w.heap.size + 1 < zb ∧ zb < wr.drew.heap.size) := ⟨by have := HZ.out; omega, H5.out.lt⟩
    have P5 : ∀ w', (Row w' zb 5 (row5f c (.slice (some ⟨z, 0, none⟩) kn kn)) ∧ Row w' w.heap.size 4 (fun i => if i = 0 then .slice b.a1 4 b.c1 else if i = 1 then .slice b.a2 kn b.c2 else if i = 2 then .slice none 0 0 else .int .i64 0)) → w'.cell? ⟨zb, 0, none⟩ = some (.int .i64 (c 0)) ∧ w'.cell? ⟨zb, 1, none⟩ = some (.int .i64 (c 1)) ∧ w'.cell? ⟨zb, 2, none⟩ = some (.int .i64 (c 2)) ∧ w'.cell? ⟨zb, 3, none⟩ = some (.int .i64 (c 3)) ∧ w'.cell? ⟨zb, 4, none⟩ = some (.slice (some ⟨z, 0, none⟩) kn kn) := fun w' hh => get5 hh.1
    have P4 : ∀ w', (Row w' zb 5 (row5f c (.slice (some ⟨z, 0, none⟩) kn kn)) ∧ Row w' w.heap.size 4 (fun i => if i = 0 then .slice b.a1 4 b.c1 else if i = 1 then .slice b.a2 kn b.c2 else if i = 2 then .slice none 0 0 else .int .i64 0)) → w'.cell? ⟨w.heap.size, 2, none⟩ = some (.slice none 0 0) ∧ w'.cell? ⟨w.heap.size, 3, none⟩ = some (.int .i64 0) := fun w' hh => (get4 hh.2).2.2
    refine wp_region_noPanic ?_
    refine wp_region_held_drew (S := fun w' => Row w' zb 5 (row5f c (.slice (some ⟨z, 0, none⟩) kn kn)) ∧ Row w' w.heap.size 4 (fun i => if i = 0 then .slice b.a1 4 b.c1 else if i = 1 then .slice b.a2 kn b.c2 else if i = 2 then .slice none 0 0 else .int .i64 0)) (by kernel_rfl) (And.intro H5.out HK.out) (fun hB => ?_)
    clear hB
    generalize wr.drew = wd at *
    refine wpAnyH_take (i := 0) (oi := { dst := some 65, op := Op.load 115 (Operand.tmp 4), type := 115, pos := _, after := #[], guard := none }) (v := (.agg (held5 c z kn))) rfl (by kernel_rfl) (by kernel_rfl) (by kernel_rfl) (fun _ _ _ h => h) (Or.inl ⟨by rfl, fun w' hS => by (try dsimp only at hS); go_simp⟩) (And.intro H5.out HK.out) ?_
    simp only [Act.put, List.setIfInBounds_toArray, List.set_cons_zero, List.set_cons_succ]
    refine wpAnyH_take (i := 2) (oi := { dst := some 67, op := Op.fieldAddr 32 (Operand.tmp 1) 1, type := 0, pos := _, after := #[], guard := none }) (v := (.pointer (some ⟨w.heap.size, 2, none⟩))) rfl (by kernel_rfl) (by kernel_rfl) (by kernel_rfl) (fun _ _ _ h => h) (Or.inl ⟨by rfl, fun w' hS => by (try dsimp only at hS); go_simp⟩) (And.intro H5.out HK.out) ?_
    simp only [Act.put, List.setIfInBounds_toArray, List.set_cons_zero, List.set_cons_succ]
    refine wpAnyH_take (i := 5) (oi := { dst := some 70, op := Op.fieldAddr 32 (Operand.tmp 1) 2, type := 0, pos := _, after := #[], guard := none }) (v := (.pointer (some ⟨w.heap.size, 3, none⟩))) rfl (by kernel_rfl) (by kernel_rfl) (by kernel_rfl) (fun _ _ _ h => h) (Or.inl ⟨by rfl, fun w' hS => by (try dsimp only at hS); go_simp⟩) (And.intro H5.out HK.out) ?_
    simp only [Act.put, List.setIfInBounds_toArray, List.set_cons_zero, List.set_cons_succ]
    refine wpAnyH_take (i := 3) (oi := { dst := some 68, op := Op.load 30 (Operand.tmp 67), type := 30, pos := _, after := #[{ on := 2, ground := Ground.data }], guard := none }) (v := (.slice none 0 0)) rfl (by kernel_rfl) (by kernel_rfl) (by kernel_rfl) (fun _ _ _ h => h) (Or.inl ⟨by rfl, fun w' hS => by (try dsimp only at hS); go_simp⟩) (And.intro H5.out HK.out) ?_
    simp only [Act.put, List.setIfInBounds_toArray, List.set_cons_zero, List.set_cons_succ]
    refine wpAnyH_take (i := 6) (oi := { dst := some 71, op := Op.load 3 (Operand.tmp 70), type := 3, pos := _, after := #[{ on := 5, ground := Ground.data }], guard := none }) (v := (.int .i64 0)) rfl (by kernel_rfl) (by kernel_rfl) (by kernel_rfl) (fun _ _ _ h => h) (Or.inl ⟨by rfl, fun w' hS => by (try dsimp only at hS); go_simp⟩) (And.intro H5.out HK.out) ?_
    simp only [Act.put, List.setIfInBounds_toArray, List.set_cons_zero, List.set_cons_succ]
    refine wpAnyH_ready (rs := [1]) (by kernel_rfl) (by simp) ?_
    refine AllReadyH.cons (o := { dst := some 66, op := Op.call { callee := Callee.value (Operand.func 113), args := #[Operand.tmp 65], argTypes := #[115] }, type := 29, pos := _, after := #[{ on := 0, ground := Ground.data }], guard := none }) rfl (fun K hK => ?_) AllReadyH.nil
    go_simp
    refine (giveOut_any c z kn p m _ hk4 HL.out).mono ?_
    rintro e w2 ⟨b2, rfl, own, hb2⟩
    replace HR : Hid (Row w2 (w.heap.size + 1) 4 (fun i => if i = 0 then .slice none 0 0 else if i = 1 then .slice none 0 0 else if i = 2 then .slice none 0 0 else .int .i64 0)) := HR.out.blw hb2
    replace HB : Hid (Blw w w2) := HB.out.trans hb2
    replace HK : Hid (Row w2 w.heap.size 4 (fun i => if i = 0 then .slice b.a1 4 b.c1 else if i = 1 then .slice b.a2 kn b.c2 else if i = 2 then .slice none 0 0 else .int .i64 0)) := HK.out.blw hb2
    replace H5 : Hid (Row w2 zb 5 (row5f c (.slice (some ⟨z, 0, none⟩) kn kn))) := H5.out.blw hb2
    have HO : Hid (BookOwn (fun x => zb < x ∧ x < w2.heap.size) w2 b2 ⟨4, c, ⟨kn, fun _ => 4, p, m⟩⟩) := own.mono (fun x hx => ⟨by have := HZ.out; omega, hx.2⟩)
    clear own hb2 HL
    refine hK.out _ _ (And.intro H5.out HK.out) (fun hB => ?_)
    clear hK K hB
    try simp only [Act.put, List.setIfInBounds_toArray, List.set_cons_zero, List.set_cons_succ]
    refine wpAnyH_ready (rs := [4]) (by kernel_rfl) (by simp) ?_
    refine AllReadyH.cons (o := { dst := some 69, op := Op.call { callee := Callee.value (Operand.func 114), args := #[Operand.tmp 68], argTypes := #[30] }, type := 30, pos := _, after := #[{ on := 3, ground := Ground.data }, { on := 1, ground := Ground.chain }], guard := none }) rfl (fun K hK => ?_) AllReadyH.nil
    go_simp
    refine (cloneNil_any _).mono ?_
    rintro e w3 ⟨rfl, hb2⟩
    replace HR : Hid (Row w3 (w.heap.size + 1) 4 (fun i => if i = 0 then .slice none 0 0 else if i = 1 then .slice none 0 0 else if i = 2 then .slice none 0 0 else .int .i64 0)) := HR.out.blw hb2
    replace HB : Hid (Blw w w3) := HB.out.trans hb2
    replace HK : Hid (Row w3 w.heap.size 4 (fun i => if i = 0 then .slice b.a1 4 b.c1 else if i = 1 then .slice b.a2 kn b.c2 else if i = 2 then .slice none 0 0 else .int .i64 0)) := HK.out.blw hb2
    replace H5 : Hid (Row w3 zb 5 (row5f c (.slice (some ⟨z, 0, none⟩) kn kn))) := H5.out.blw hb2
    replace HO : Hid (BookOwn (fun x => zb < x ∧ x < w3.heap.size) w3 b2 ⟨4, c, ⟨kn, fun _ => 4, p, m⟩⟩) := (HO.out.blw hb2).mono (fun x hx => ⟨hx.1, Nat.lt_of_lt_of_le hx.2 hb2.size⟩)
    clear hb2
    refine hK.out _ _ (And.intro H5.out HK.out) (fun hB => ?_)
    clear hK K hB
    try simp only [Act.put, List.setIfInBounds_toArray, List.set_cons_zero, List.set_cons_succ]
    refine wpAnyH_take (i := 7) (oi := { dst := some 72, op := Op.build 32 #[(0, Operand.tmp 66), (1, Operand.tmp 69), (2, Operand.tmp 71)], type := 32, pos := _, after := #[{ on := 1, ground := Ground.data }, { on := 4, ground := Ground.data }, { on := 6, ground := Ground.data }], guard := none }) (v := (.agg #[.slice b2.a1 4 b2.c1, .slice b2.a2 kn b2.c2, .slice none 0 0, .int .i64 0])) rfl (by kernel_rfl) (by kernel_rfl) (by kernel_rfl) (fun _ _ _ h => h) (Or.inl ⟨by rfl, fun w' hS => by (try dsimp only at hS); go_simp⟩) (And.intro H5.out HK.out) ?_
    simp only [Act.put, List.setIfInBounds_toArray, List.set_cons_zero, List.set_cons_succ]
    refine wpAnyH_ready (rs := [8]) (by kernel_rfl) (by simp) ?_
    refine AllReadyH.cons (o := { dst := none, op := Op.store 32 (Operand.tmp 2) (Operand.tmp 72), type := 0, pos := _, after := #[{ on := 7, ground := Ground.data }, { on := 4, ground := Ground.chain }, { on := 0, ground := Ground.phase }, { on := 1, ground := Ground.phase }, { on := 2, ground := Ground.phase }, { on := 3, ground := Ground.phase }, { on := 4, ground := Ground.phase }, { on := 5, ground := Ground.phase }, { on := 6, ground := Ground.phase }, { on := 7, ground := Ground.phase }], guard := none }) rfl (fun K hK => ?_) AllReadyH.nil
    obtain ⟨t0, t1, t2, t3⟩ := get4 HR.out
    have f0 := HR.out.frozen 0; have f1 := HR.out.frozen 1; have f2 := HR.out.frozen 2; have f3 := HR.out.frozen 3
    have hz := HZ.out
    have FIN : Hid _ := pass_givesK (out := resK (BD.Good ⟨4, c, ⟨kn, len, p, m⟩⟩) (nwD ⟨4, c, ⟨kn, len, p, m⟩⟩)) (w := w) (W := w3) (z := w.heap.size + 1) (r := true) (by omega) (Or.inl ⟨HG.out, rfl, rfl⟩) (own_small HG.out) HB.out (own_wk (B := ⟨4, c, ⟨kn, len, p, m⟩⟩) HO.out) (fun x hx => ⟨by omega, by omega, hx.2⟩)
    have hm4 := set4_mod w3 (w.heap.size + 1) (.slice b2.a1 4 b2.c1) (.slice b2.a2 kn b2.c2) (.slice none 0 0) (.int .i64 0)
    have hSt := And.intro (H5.out.mod hm4 (by omega)) (HK.out.mod hm4 (by omega))
    clear hm4
    go_simp
    refine hK.out _ _ hSt (fun hB => ?_)
    clear hK K hB
    try simp only [Act.put, List.setIfInBounds_toArray, List.set_cons_zero, List.set_cons_succ]
    refine wpAnyH_take (i := 9) (oi := { dst := some 3, op := Op.assign (Operand.const (Value.bool true)), type := 4, pos := _, after := #[{ on := 8, ground := Ground.chain }, { on := 0, ground := Ground.phase }, { on := 1, ground := Ground.phase }, { on := 2, ground := Ground.phase }, { on := 3, ground := Ground.phase }, { on := 4, ground := Ground.phase }, { on := 5, ground := Ground.phase }, { on := 6, ground := Ground.phase }, { on := 7, ground := Ground.phase }, { on := 8, ground := Ground.phase }], guard := none }) (v := (.bool true)) rfl (by kernel_rfl) (by kernel_rfl) (by kernel_rfl) (fun _ _ _ h => h) (Or.inl ⟨by rfl, fun w' hS => by (try dsimp only at hS); go_simp⟩) hSt ?_
    simp only [Act.put, List.setIfInBounds_toArray, List.set_cons_zero, List.set_cons_succ]
    refine wpAnyH_done (by kernel_rfl) ?_ _
    refine NoPanic.normal ?_
    clear hSt HR HB HK H5 HO P5 P4 HZ hz
    go_wp2
    exact bodyPost_ret (v := .tuple #[(KV.mk b2 none 0).val (nwD ⟨4, c, ⟨kn, len, p, m⟩⟩), .bool true]) (by simp [results, Try.results67, go_sem, t0, t1, t2, t3]) rfl FIN.out
set_option maxRecDepth 10000 in
set_option maxHeartbeats 3200000 in
theorem implNewW_any (b : BV) (B : BD) (Y : Nat → Prop) (w : World) (h : BookAt Y w b B) (hY : ∀ x, Y x → x < w.heap.size) :
    Calls Try.prog 32 #[b.val B] w (GivesK (resK B.Good (nwD B)) w) := by
  have hA1 : Blw w (w.alloc (.cells #[.slice b.a1 B.n b.c1, .slice b.a2 B.D.n b.c2] 29)) := (Blw.refl _).alloc _
  have hA2 : Blw (w.alloc (.cells #[.slice b.a1 B.n b.c1, .slice b.a2 B.D.n b.c2] 29)) ((w.alloc (.cells #[.slice b.a1 B.n b.c1, .slice b.a2 B.D.n b.c2] 29)).alloc (.cells #[.slice none 0 0, .slice none 0 0, .slice none 0 0, .int .i64 0] 32)) := (Blw.refl _).alloc _
  have HB : Hid (Blw w ((w.alloc (.cells #[.slice b.a1 B.n b.c1, .slice b.a2 B.D.n b.c2] 29)).alloc (.cells #[.slice none 0 0, .slice none 0 0, .slice none 0 0, .int .i64 0] 32))) := hA1.trans hA2
  have rR := box4 (w.alloc (.cells #[.slice b.a1 B.n b.c1, .slice b.a2 B.D.n b.c2] 29)) (.slice none 0 0) (.slice none 0 0) (.slice none 0 0) (.int .i64 0) 32
  rw [World.size_alloc] at rR
  have HR : Hid (Row ((w.alloc (.cells #[.slice b.a1 B.n b.c1, .slice b.a2 B.D.n b.c2] 29)).alloc (.cells #[.slice none 0 0, .slice none 0 0, .slice none 0 0, .int .i64 0] 32)) (w.heap.size + 1) 4 (fun i => if i = 0 then .slice none 0 0 else if i = 1 then .slice none 0 0 else if i = 2 then .slice none 0 0 else .int .i64 0)) := rR
  have HA : Hid (BookAt Y ((w.alloc (.cells #[.slice b.a1 B.n b.c1, .slice b.a2 B.D.n b.c2] 29)).alloc (.cells #[.slice none 0 0, .slice none 0 0, .slice none 0 0, .int .i64 0] 32)) b B) := h.blw (hA1.trans hA2)
  have HA0 : Hid (Row ((w.alloc (.cells #[.slice b.a1 B.n b.c1, .slice b.a2 B.D.n b.c2] 29)).alloc (.cells #[.slice none 0 0, .slice none 0 0, .slice none 0 0, .int .i64 0] 32)) w.heap.size 2 (fun i => if i = 0 then .slice b.a1 B.n b.c1 else .slice b.a2 B.D.n b.c2)) := (box2 w _ _ 29).blw hA2
  have HSZ : Hid (w.heap.size + 1 + 1 = ((w.alloc (.cells #[.slice b.a1 B.n b.c1, .slice b.a2 B.D.n b.c2] 29)).alloc (.cells #[.slice none 0 0, .slice none 0 0, .slice none 0 0, .int .i64 0] 32)).heap.size) := by show _ = _; simp
  clear hA1 hA2 rR h
  go_enter Try.func32, Try.ntmps32
  obtain ⟨p0, p1⟩ := get2 HA0.out
  go_wp2_with fail
  clear p0 p1
  generalize ((w.alloc (.cells #[.slice b.a1 B.n b.c1, .slice b.a2 B.D.n b.c2] 29)).alloc (.cells #[.slice none 0 0, .slice none 0 0, .slice none 0 0, .int .i64 0] 32)) = w0 at *
  refine (ownNil_any b B Y _ HA.out (fun x hx => by have := hY x hx; have := HSZ.out; omega)).mono ?_
  rintro e w1 ⟨v, R, r, rfl, ho, hs, own, hb1⟩
  have hz := HSZ.out
  have hr2 := HR.out.blw hb1
  have FIN : Hid _ := pass_givesK (w := w) (W := w1) (z := w.heap.size + 1) (by omega) ho hs (HB.out.trans hb1) own (fun x hx => ⟨by omega, by omega, hx.2⟩)
  obtain ⟨t0, t1, t2, t3⟩ := get4 hr2
  have f0 := hr2.frozen 0; have f1 := hr2.frozen 1; have f2 := hr2.frozen 2; have f3 := hr2.frozen 3
  clear HR HA0 HA own hb1 hr2 hz HB ho hs HSZ
  go_wp2
  exact bodyPost_ret (v := .tuple #[v.val R, .bool r]) (by simp [results, Try.results32, go_sem, t0, t1, t2, t3]) rfl FIN.out
end Go.Proofs.Ytkadjebncjcclaa
