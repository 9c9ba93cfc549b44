/- Merged by program, in this order: ImplM, OwnS, OT, MappedJ, SpecPr, SpecUn, FactL, FlatF, NstG. -/
import Derived.Test.YtjplodenflkghaaJoin4
/- MapPage, UnmapPage, ProtectPage: the program's. -/
namespace Go.Proofs.Ytjplodenflkghaa
open Go.RowKit
set_option linter.unusedSimpArgs false
set_option linter.unusedVariables false
theorem pass_givesT {out : BD → Bool → Prop} {X : Nat → Prop} {w W : World} {z : Nat} {b : BV} {R : BD} {r : Bool} (hz : w.heap.size ≤ z) (ho : out R r) (hs : R.n + (R.D.n + R.D.tot) ≤ 1048576) (hb : Blw w W) (own : BookOwn X W b R) (hX : ∀ x, X x → w.heap.size ≤ x ∧ x ≠ z ∧ x < W.heap.size) :
    GivesB out w (.returned (.tuple #[b.val R, .bool r])) ((W.setCell ⟨z, 0, none⟩ (.slice b.a1 R.n b.c1)).setCell ⟨z, 1, none⟩ (.slice b.a2 R.D.n b.c2)) := by
  have hm := set2_mod (X := fun x => x = z) W rfl (.slice b.a1 R.n b.c1) (.slice b.a2 R.D.n b.c2)
  have := hm.size
  exact ⟨b, R, r, rfl, ho, hs, (own.mod hm (fun x hx e => (hX x hx).2.1 e)).mono (fun x hx => by have := hX x hx; omega), set2_blw hb hz _ _⟩
set_option maxRecDepth 10000 in
set_option maxHeartbeats 1600000 in
theorem implMap_any (b : BV) (B : BD) (a g y : Int) (Y : Nat → Prop) (w : World) (h : BookAt Y w b B) (hY : ∀ x, Y x → x < w.heap.size) :
    Calls Try.prog 197 #[b.val B, .int .i64 a, .int .i64 g, .int .i64 y] w (GivesB (chOut B a (fun _ oy => oy = 0 ∧ pgOK g ∧ mayOK y) (fun _ => g) y) w) := by
  have hb0 : Blw w ((((w.alloc (.cells #[.slice b.a1 B.n b.c1, .slice b.a2 B.D.n b.c2] 29)).alloc (.cells #[.int .i64 g] 3)).alloc (.cells #[.int .i64 y] 3)).alloc (.cells #[.slice none 0 0, .slice none 0 0] 29)) := ((((Blw.refl _).alloc _).alloc _).alloc _).alloc _
  have HA : Hid (BookAt Y ((((w.alloc (.cells #[.slice b.a1 B.n b.c1, .slice b.a2 B.D.n b.c2] 29)).alloc (.cells #[.int .i64 g] 3)).alloc (.cells #[.int .i64 y] 3)).alloc (.cells #[.slice none 0 0, .slice none 0 0] 29)) b B) := h.blw hb0
  have rA := (box2 w (.slice b.a1 B.n b.c1) (.slice b.a2 B.D.n b.c2) 29).blw (show Blw (w.alloc (.cells #[.slice b.a1 B.n b.c1, .slice b.a2 B.D.n b.c2] 29)) ((((w.alloc (.cells #[.slice b.a1 B.n b.c1, .slice b.a2 B.D.n b.c2] 29)).alloc (.cells #[.int .i64 g] 3)).alloc (.cells #[.int .i64 y] 3)).alloc (.cells #[.slice none 0 0, .slice none 0 0] 29)) from (((Blw.refl _).alloc _).alloc _).alloc _)
  have rR := box2 (((w.alloc (.cells #[.slice b.a1 B.n b.c1, .slice b.a2 B.D.n b.c2] 29)).alloc (.cells #[.int .i64 g] 3)).alloc (.cells #[.int .i64 y] 3)) (.slice none 0 0) (.slice none 0 0) 29
  simp only [World.size_alloc] at rR
  have hc0 := (box1 (w.alloc (.cells #[.slice b.a1 B.n b.c1, .slice b.a2 B.D.n b.c2] 29)) (.int .i64 g) 3).blw (show Blw ((w.alloc (.cells #[.slice b.a1 B.n b.c1, .slice b.a2 B.D.n b.c2] 29)).alloc (.cells #[.int .i64 g] 3)) ((((w.alloc (.cells #[.slice b.a1 B.n b.c1, .slice b.a2 B.D.n b.c2] 29)).alloc (.cells #[.int .i64 g] 3)).alloc (.cells #[.int .i64 y] 3)).alloc (.cells #[.slice none 0 0, .slice none 0 0] 29)) from ((Blw.refl _).alloc _).alloc _)
  simp only [World.size_alloc] at hc0
  have hc1 := (box1 ((w.alloc (.cells #[.slice b.a1 B.n b.c1, .slice b.a2 B.D.n b.c2] 29)).alloc (.cells #[.int .i64 g] 3)) (.int .i64 y) 3).blw (show Blw (((w.alloc (.cells #[.slice b.a1 B.n b.c1, .slice b.a2 B.D.n b.c2] 29)).alloc (.cells #[.int .i64 g] 3)).alloc (.cells #[.int .i64 y] 3)) ((((w.alloc (.cells #[.slice b.a1 B.n b.c1, .slice b.a2 B.D.n b.c2] 29)).alloc (.cells #[.int .i64 g] 3)).alloc (.cells #[.int .i64 y] 3)).alloc (.cells #[.slice none 0 0, .slice none 0 0] 29)) from (Blw.refl _).alloc _)
  simp only [World.size_alloc] at hc1
  have hsz : ((((w.alloc (.cells #[.slice b.a1 B.n b.c1, .slice b.a2 B.D.n b.c2] 29)).alloc (.cells #[.int .i64 g] 3)).alloc (.cells #[.int .i64 y] 3)).alloc (.cells #[.slice none 0 0, .slice none 0 0] 29)).heap.size = w.heap.size + 1 + 1 + 1 + 1 := by simp
  clear h
  go_enter Try.func197, Try.ntmps197
  obtain ⟨p0, p1⟩ := get2 rA
  go_wp2_with fail
  clear p0 p1 rA
  revert hb0 HA rR hc0 hc1 hsz
  generalize ((((w.alloc (.cells #[.slice b.a1 B.n b.c1, .slice b.a2 B.D.n b.c2] 29)).alloc (.cells #[.int .i64 g] 3)).alloc (.cells #[.int .i64 y] 3)).alloc (.cells #[.slice none 0 0, .slice none 0 0] 29)) = w0
  intro hb0 HA rR hc0 hc1 hsz
  refine (changeMap_any b B a g y (w.heap.size + 1) (w.heap.size + 1 + 1) Y _ HA.out (fun x hx => by have := hY x hx; omega) hc0 hc1).mono ?_
  rintro e w1 ⟨b1, R, r, rfl, ho, hs, own, hb1⟩
  have hr := rR.blw hb1
  have hlt := hr.lt
  have FIN : Hid _ := pass_givesT (w := w) (W := w1) (z := w.heap.size + 1 + 1 + 1) (by omega) ho hs (hb0.trans hb1) own (fun x hx => ⟨by omega, by omega, hx.2⟩)
  obtain ⟨t0, t1⟩ := get2 hr
  have f0 := hr.frozen 0
  have f1 := hr.frozen 1
  clear HA rR hb0 hb1 own ho hs hr hsz hlt hc0 hc1
  go_wp2
  exact bodyPost_ret (v := .tuple #[b1.val R, .bool r]) (by simp [results, Try.results197, go_sem, t0, t1]) rfl FIN.out
set_option maxRecDepth 10000 in
set_option maxHeartbeats 1600000 in
theorem implUnmap_any (b : BV) (B : BD) (a : Int) (Y : Nat → Prop) (w : World) (h : BookAt Y w b B) (hY : ∀ x, Y x → x < w.heap.size) :
    Calls Try.prog 198 #[b.val B, .int .i64 a] w (GivesB (chOut B a (fun _ oy => ¬ oy = 0) (fun _ => 0) 0) w) := by
  have hb0 : Blw w ((w.alloc (.cells #[.slice b.a1 B.n b.c1, .slice b.a2 B.D.n b.c2] 29)).alloc (.cells #[.slice none 0 0, .slice none 0 0] 29)) := ((Blw.refl _).alloc _).alloc _
  have HA : Hid (BookAt Y ((w.alloc (.cells #[.slice b.a1 B.n b.c1, .slice b.a2 B.D.n b.c2] 29)).alloc (.cells #[.slice none 0 0, .slice none 0 0] 29)) b B) := h.blw hb0
  have rA := (box2 w (.slice b.a1 B.n b.c1) (.slice b.a2 B.D.n b.c2) 29).blw (show Blw (w.alloc (.cells #[.slice b.a1 B.n b.c1, .slice b.a2 B.D.n b.c2] 29)) ((w.alloc (.cells #[.slice b.a1 B.n b.c1, .slice b.a2 B.D.n b.c2] 29)).alloc (.cells #[.slice none 0 0, .slice none 0 0] 29)) from (Blw.refl _).alloc _)
  have rR := box2 (w.alloc (.cells #[.slice b.a1 B.n b.c1, .slice b.a2 B.D.n b.c2] 29)) (.slice none 0 0) (.slice none 0 0) 29
  simp only [World.size_alloc] at rR
  have hsz : ((w.alloc (.cells #[.slice b.a1 B.n b.c1, .slice b.a2 B.D.n b.c2] 29)).alloc (.cells #[.slice none 0 0, .slice none 0 0] 29)).heap.size = w.heap.size + 1 + 1 := by simp
  clear h
  go_enter Try.func198, Try.ntmps198
  obtain ⟨p0, p1⟩ := get2 rA
  go_wp2_with fail
  clear p0 p1 rA
  revert hb0 HA rR  hsz
  generalize ((w.alloc (.cells #[.slice b.a1 B.n b.c1, .slice b.a2 B.D.n b.c2] 29)).alloc (.cells #[.slice none 0 0, .slice none 0 0] 29)) = w0
  intro hb0 HA rR  hsz
  refine (changeUnmap_any b B a Y _ HA.out (fun x hx => by have := hY x hx; omega)).mono ?_
  rintro e w1 ⟨b1, R, r, rfl, ho, hs, own, hb1⟩
  have hr := rR.blw hb1
  have hlt := hr.lt
  have FIN : Hid _ := pass_givesT (w := w) (W := w1) (z := w.heap.size + 1) (by omega) ho hs (hb0.trans hb1) own (fun x hx => ⟨by omega, by omega, hx.2⟩)
  obtain ⟨t0, t1⟩ := get2 hr
  have f0 := hr.frozen 0
  have f1 := hr.frozen 1
  clear HA rR hb0 hb1 own ho hs hr hsz hlt 
  go_wp2
  exact bodyPost_ret (v := .tuple #[b1.val R, .bool r]) (by simp [results, Try.results198, go_sem, t0, t1]) rfl FIN.out
set_option maxRecDepth 10000 in
set_option maxHeartbeats 1600000 in
theorem implProt_any (b : BV) (B : BD) (a y : Int) (Y : Nat → Prop) (w : World) (h : BookAt Y w b B) (hY : ∀ x, Y x → x < w.heap.size) :
    Calls Try.prog 199 #[b.val B, .int .i64 a, .int .i64 y] w (GivesB (chOut B a (fun _ oy => ¬ oy = 0 ∧ mayOK y) (fun o => o) y) w) := by
  have hb0 : Blw w (((w.alloc (.cells #[.slice b.a1 B.n b.c1, .slice b.a2 B.D.n b.c2] 29)).alloc (.cells #[.int .i64 y] 3)).alloc (.cells #[.slice none 0 0, .slice none 0 0] 29)) := (((Blw.refl _).alloc _).alloc _).alloc _
  have HA : Hid (BookAt Y (((w.alloc (.cells #[.slice b.a1 B.n b.c1, .slice b.a2 B.D.n b.c2] 29)).alloc (.cells #[.int .i64 y] 3)).alloc (.cells #[.slice none 0 0, .slice none 0 0] 29)) b B) := h.blw hb0
  have rA := (box2 w (.slice b.a1 B.n b.c1) (.slice b.a2 B.D.n b.c2) 29).blw (show Blw (w.alloc (.cells #[.slice b.a1 B.n b.c1, .slice b.a2 B.D.n b.c2] 29)) (((w.alloc (.cells #[.slice b.a1 B.n b.c1, .slice b.a2 B.D.n b.c2] 29)).alloc (.cells #[.int .i64 y] 3)).alloc (.cells #[.slice none 0 0, .slice none 0 0] 29)) from ((Blw.refl _).alloc _).alloc _)
  have rR := box2 ((w.alloc (.cells #[.slice b.a1 B.n b.c1, .slice b.a2 B.D.n b.c2] 29)).alloc (.cells #[.int .i64 y] 3)) (.slice none 0 0) (.slice none 0 0) 29
  simp only [World.size_alloc] at rR
  have hc0 := (box1 (w.alloc (.cells #[.slice b.a1 B.n b.c1, .slice b.a2 B.D.n b.c2] 29)) (.int .i64 y) 3).blw (show Blw ((w.alloc (.cells #[.slice b.a1 B.n b.c1, .slice b.a2 B.D.n b.c2] 29)).alloc (.cells #[.int .i64 y] 3)) (((w.alloc (.cells #[.slice b.a1 B.n b.c1, .slice b.a2 B.D.n b.c2] 29)).alloc (.cells #[.int .i64 y] 3)).alloc (.cells #[.slice none 0 0, .slice none 0 0] 29)) from (Blw.refl _).alloc _)
  simp only [World.size_alloc] at hc0
  have hsz : (((w.alloc (.cells #[.slice b.a1 B.n b.c1, .slice b.a2 B.D.n b.c2] 29)).alloc (.cells #[.int .i64 y] 3)).alloc (.cells #[.slice none 0 0, .slice none 0 0] 29)).heap.size = w.heap.size + 1 + 1 + 1 := by simp
  clear h
  go_enter Try.func199, Try.ntmps199
  obtain ⟨p0, p1⟩ := get2 rA
  go_wp2_with fail
  clear p0 p1 rA
  revert hb0 HA rR hc0 hsz
  generalize (((w.alloc (.cells #[.slice b.a1 B.n b.c1, .slice b.a2 B.D.n b.c2] 29)).alloc (.cells #[.int .i64 y] 3)).alloc (.cells #[.slice none 0 0, .slice none 0 0] 29)) = w0
  intro hb0 HA rR hc0 hsz
  refine (changeProt_any b B a y (w.heap.size + 1) Y _ HA.out (fun x hx => by have := hY x hx; omega) hc0).mono ?_
  rintro e w1 ⟨b1, R, r, rfl, ho, hs, own, hb1⟩
  have hr := rR.blw hb1
  have hlt := hr.lt
  have FIN : Hid _ := pass_givesT (w := w) (W := w1) (z := w.heap.size + 1 + 1) (by omega) ho hs (hb0.trans hb1) own (fun x hx => ⟨by omega, by omega, hx.2⟩)
  obtain ⟨t0, t1⟩ := get2 hr
  have f0 := hr.frozen 0
  have f1 := hr.frozen 1
  clear HA rR hb0 hb1 own ho hs hr hsz hlt hc0
  go_wp2
  exact bodyPost_ret (v := .tuple #[b1.val R, .bool r]) (by simp [results, Try.results199, go_sem, t0, t1]) rfl FIN.out
end Go.Proofs.Ytjplodenflkghaa
/- The model's copies of tables. -/
namespace Go.Proofs.Ytjplodenflkghaa
open Go.RowKit
set_option linter.unusedSimpArgs false
set_option linter.unusedVariables false
theorem cloneU_run (ao : Option Addr) (n c : Nat) (f g : Nat → Int) (Y : Nat → Prop) (w : World) (hn : n ≤ 1048576) (h : UndosAt Y w ao n f g) :
    ∃ ao' cap w2, (Builtin.append_ #[147, 147] 147 #[.slice (some ⟨w.heap.size, 0, none⟩) 0 0, .slice ao n c]).run Try.prog (w.alloc (.cells #[] 144)) = .ok (.slice ao' n cap) w2 ∧ UndosOwn (fun x => w.heap.size ≤ x ∧ x < w2.heap.size) w2 ao' n f g ∧ Blw w w2 := by
  have hA : Blw w (w.alloc (.cells #[] 144)) := (Blw.refl _).alloc _
  have hE : (w.alloc (.cells #[] 144)).heap[w.heap.size]? = some (.cells #[] 144 (0, 0)) := heap_alloc_new w _
  have hsz : (w.alloc (.cells #[] 144)).heap.size = w.heap.size + 1 := by simp
  obtain ⟨ao', cap, w2, hrun, hB, hM⟩ := BufU.append (Buf.lit (X := fun b => b = w.heap.size) hE 2 rfl (uc (fun _ => 0) (fun _ => 0))) c (h.blw hA) (by omega) 147
  rw [Nat.zero_add] at hrun hB
  rw [hsz] at hB
  obtain ⟨ao2, cap2, e', hO⟩ := BufU.own hB (by omega)
  cases e'
  have s2 := hM.size
  refine ⟨_, _, w2, hrun, (hO.mono (fun x hx => ⟨by omega, hx.2⟩)).congr (fun i hi => by simp [icat]), Mod.blw hA hM (fun i hi => by simp [Value.ownBlock] at hi; omega)⟩
theorem cloneI_run (ao : Option Addr) (n c : Nat) (f : Nat → Int) (Y : Nat → Prop) (w : World) (hn : n ≤ 1048576) (h : IntsAt Y w ao n f) :
    ∃ ao' cap w2, (Builtin.append_ #[26, 26] 26 #[.slice (some ⟨w.heap.size, 0, none⟩) 0 0, .slice ao n c]).run Try.prog (w.alloc (.cells #[] 3)) = .ok (.slice ao' n cap) w2 ∧ IntsOwn (fun x => w.heap.size ≤ x ∧ x < w2.heap.size) w2 ao' n f ∧ Blw w w2 := by
  have hA : Blw w (w.alloc (.cells #[] 3)) := (Blw.refl _).alloc _
  have hE : (w.alloc (.cells #[] 3)).heap[w.heap.size]? = some (.cells #[] 3 (0, 0)) := heap_alloc_new w _
  have hsz : (w.alloc (.cells #[] 3)).heap.size = w.heap.size + 1 := by simp
  obtain ⟨ao', cap, w2, hrun, hB, hM⟩ := BufI.append (Buf.lit (X := fun b => b = w.heap.size) hE 1 rfl (ic (fun _ => 0))) c (h.blw hA) (by omega) 26
  rw [Nat.zero_add] at hrun hB
  rw [hsz] at hB
  obtain ⟨ao2, cap2, e', hO⟩ := BufI.own hB (by omega)
  cases e'
  have s2 := hM.size
  refine ⟨_, _, w2, hrun, (hO.mono (fun x hx => ⟨by omega, hx.2⟩)).congr (fun i hi => by simp [icat]), Mod.blw hA hM (fun i hi => by simp [Value.ownBlock] at hi; omega)⟩
set_option maxRecDepth 10000 in
set_option maxHeartbeats 3200000 in
theorem l6Own_any (b : BV) (c : Nat → Int) (kn : Nat) (len : Nat → Nat) (p m : Nat → Nat → Int) (Y : Nat → Prop) (w : World) (hk : kn ≤ 4) (hlen : ∀ i, i < kn → len i = 4) (h : BookAt Y w b ⟨4, c, ⟨kn, len, p, m⟩⟩) :
    Calls Try.prog 108 #[b.val ⟨4, c, ⟨kn, len, p, m⟩⟩] w fun e w' => ∃ b' : BV, e = .returned (b'.val ⟨4, c, ⟨kn, fun _ => 4, p, m⟩⟩) ∧ BookOwn (fun x => w.heap.size ≤ x ∧ x < w'.heap.size) w' b' ⟨4, c, ⟨kn, fun _ => 4, p, m⟩⟩ ∧ Blw w w' := by
  obtain ⟨a1, a2, q1, q2⟩ := b
  simp only [BV.val] at *
  have hA1 : Blw w (w.alloc (.cells #[.slice a1 4 q1, .slice a2 kn q2] 29)) := (Blw.refl _).alloc _
  have hA2 : Blw (w.alloc (.cells #[.slice a1 4 q1, .slice a2 kn q2] 29)) ((w.alloc (.cells #[.slice a1 4 q1, .slice a2 kn q2] 29)).alloc (.cells #[.slice none 0 0, .slice none 0 0] 29)) := (Blw.refl _).alloc _
  have hb0 := hA1.trans hA2
  have rA := (box2 w (.slice a1 4 q1) (.slice a2 kn q2) 29).blw hA2
  have rR := box2 (w.alloc (.cells #[.slice a1 4 q1, .slice a2 kn q2] 29)) (.slice none 0 0) (.slice none 0 0) 29
  rw [World.size_alloc] at rR
  have hsz : ((w.alloc (.cells #[.slice a1 4 q1, .slice a2 kn q2] 29)).alloc (.cells #[.slice none 0 0, .slice none 0 0] 29)).heap.size = w.heap.size + 1 + 1 := by simp
  have HL : Hid (PSAt Y w a2 ⟨kn, len, p, m⟩) := h.l
  have HC : Hid (IntsAt Y ((w.alloc (.cells #[.slice a1 4 q1, .slice a2 kn q2] 29)).alloc (.cells #[.slice none 0 0, .slice none 0 0] 29)) a1 4 c) := h.c.blw hb0
  have HLEN : Hid (∀ i, i < kn → len i = 4) := hlen
  clear h hA1 hA2 hlen
  go_enter Try.func108, Try.ntmps108
  go_upto_region 1 with fail
  revert hb0 rA rR hsz HC
  generalize ((w.alloc (.cells #[.slice a1 4 q1, .slice a2 kn q2] 29)).alloc (.cells #[.slice none 0 0, .slice none 0 0] 29)) = w0
  intro hb0 rA rR hsz HC
  obtain ⟨ao, cap, w1, hrun, o1, hb1⟩ := cloneI_run a1 4 q1 c Y w0 (by omega) HC.out
  have HRN : Hid _ := hrun
  have hA3 : Blw w1 (w1.alloc (.cells #[.slice ao 4 cap, .slice none 0 0] 29)) := (Blw.refl _).alloc _
  have HBX : Hid (Row (w1.alloc (.cells #[.slice ao 4 cap, .slice none 0 0] 29)) w1.heap.size 2 (fun i => if i = 0 then .slice ao 4 cap else .slice none 0 0)) := box2 w1 _ _ 29
  have HO : Hid (IntsOwn (fun x => w.heap.size + 1 + 1 ≤ x ∧ x < w1.heap.size) (w1.alloc (.cells #[.slice ao 4 cap, .slice none 0 0] 29)) ao 4 c) := (o1.mono (fun x hx => ⟨by omega, hx.2⟩)).blw hA3
  have HB : Hid (Blw w (w1.alloc (.cells #[.slice ao 4 cap, .slice none 0 0] 29))) := hb0.trans (hb1.trans hA3)
  have HR : Hid (Row (w1.alloc (.cells #[.slice ao 4 cap, .slice none 0 0] 29)) (w.heap.size + 1) 2 (fun i => if i = 0 then .slice none 0 0 else .slice none 0 0)) := rR.blw (hb1.trans hA3)
  have HZ : Hid (w.heap.size + 1 + 1 ≤ w1.heap.size) := by have := hb1.size; show _ ≤ _; omega
  have r1 := rA.blw hb1
  have r2 := r1.blw hA3
  obtain ⟨p0, p1⟩ := get2 rA
  obtain ⟨p4, p5⟩ := get2 (rA.blw ((Blw.refl w0).alloc (.cells #[] 3)))
  obtain ⟨p2, p3⟩ := get2 r2
  clear hrun o1 hb1 hA3 hb0 rA rR hsz HC r1 r2
  go_wp2_with (first | (at_builtin; refine wpList_app (.tmp 6) (.tmp 8) 26 (by rfl) ?_; refine ⟨_, _, HRN.out, ?_⟩) | fail)
  clear p0 p1 p2 p3 p4 p5 HRN
  generalize w1.alloc (.cells #[.slice ao 4 cap, .slice none 0 0] 29) = W at *
  generalize w1.heap.size = zt at *
  go_loopw [14] (fun i wr => ∃ j : Nat, j ≤ kn ∧ i = .int .i64 j ∧ ∃ v A C ZB Z, Row wr zt 2 (fun i => if i = 0 then .slice ao 4 cap else v) ∧ Tl (zt + 1) wr v j A C p m ZB Z ∧ IntsOwn (fun x => w.heap.size + 1 + 1 ≤ x ∧ x < zt) wr ao 4 c ∧ Row wr (w.heap.size + 1) 2 (fun i => if i = 0 then .slice none 0 0 else .slice none 0 0) ∧ Blw w wr) (fun i _ => kn - (intOf i).toNat)
  case atStart => exact ⟨0, Nat.zero_le _, rfl, _, _, _, _, _, HBX.out, Tl.nil _ _ _ _, HO.out, HR.out, HB.out⟩
  case round =>
    clear HBX HO HB HR
    obtain ⟨j, hj, rfl, v, A, C, ZB, Z, hbx, htl, ho, hr, hb⟩ := hrel
    have HO : Hid (IntsOwn (fun x => w.heap.size + 1 + 1 ≤ x ∧ x < zt) wr ao 4 c) := ho
    have HR : Hid (Row wr (w.heap.size + 1) 2 (fun i => if i = 0 then .slice none 0 0 else .slice none 0 0)) := hr
    have HB : Hid (Blw w wr) := hb
    have HTL : Hid (Tl (zt + 1) wr v j A C p m ZB Z) := htl
    have HBX : Hid (Row wr zt 2 (fun i => if i = 0 then .slice ao 4 cap else v)) := hbx
    clear ho hr hb htl hbx
    by_cases hlt : j < kn
    · have hlt' : (j : Int) < (kn : Int) := by omega
      have hL := HL.out.blw HB.out
      obtain ⟨bb, oo, aa, cc, ea, hyb, g1, g2⟩ := hL.2 j hlt
      subst ea
      dsimp only at g1 g2
      rw [HLEN.out j hlt] at g1 g2
      have HU : Hid (UndosAt Y wr.drew aa 4 (p j) (m j)) := g2.blw (Blw.refl _).drew
      clear g2 hL
      go_upto_region 5 with fail
      replace HO : Hid (IntsOwn (fun x => w.heap.size + 1 + 1 ≤ x ∧ x < zt) wr.drew ao 4 c) := HO.out.blw (Blw.refl _).drew
      replace HR : Hid (Row wr.drew (w.heap.size + 1) 2 (fun i => if i = 0 then .slice none 0 0 else .slice none 0 0)) := HR.out.blw (Blw.refl _).drew
      replace HB : Hid (Blw w wr.drew) := HB.out.drew
      replace HTL : Hid (Tl (zt + 1) wr.drew v j A C p m ZB Z) := HTL.out.go (Blw.refl _).drew
      replace HBX : Hid (Row wr.drew zt 2 (fun i => if i = 0 then .slice ao 4 cap else v)) := HBX.out.blw (Blw.refl _).drew
      clear g1
      have P1 : ∀ w', Row w' zt 2 (fun i => if i = 0 then .slice ao 4 cap else v) → w'.cell? ⟨zt, 1, none⟩ = some v := fun w' hh => (get2 hh).2
      have pa := P1 _ HBX.out
      have pb := P1 _ (HBX.out.blw ((Blw.refl wr.drew).alloc (.cells #[] 144)))
      obtain ⟨au, cu, w2, hrun, o2, hb2⟩ := cloneU_run aa 4 cc (p j) (m j) Y wr.drew (by omega) HU.out
      have pc := P1 _ (HBX.out.blw hb2)
      have pd := P1 _ (HBX.out.blw (hb2.trans ((Blw.refl w2).alloc (.cells #[.slice au 4 cu] 147))))
      obtain ⟨an, cn, w3, ZB', hrun2, htl2, hM⟩ := HTL.out.push hb2 (by have := HBX.out.lt; omega) (Nat.le_refl _) hb2.size o2 (cap := cu) (by omega)
      have hM2 := (hb2.mod ZB).trans hM
      have hzb : ∀ x, ZB x → zt + 1 ≤ x := fun x hx => (HTL.out.zb x hx).1
      have hzt := HZ.out
      have hS3 := HBX.out.mod hM2 (fun h => by have := hzb _ h; omega)
      have ms : Mod (fun x => x = zt) w3 (w3.setCell ⟨zt, 1, none⟩ (.slice an (j + 1) cn)) := Mod.setCell (X := fun x => x = zt) _ (p := ⟨zt, 1, none⟩) rfl _
      have HN : Hid (∃ v A C ZB Z, Row (w3.setCell ⟨zt, 1, none⟩ (.slice an (j + 1) cn)) zt 2 (fun i => if i = 0 then .slice ao 4 cap else v) ∧ Tl (zt + 1) (w3.setCell ⟨zt, 1, none⟩ (.slice an (j + 1) cn)) v (j + 1) A C p m ZB Z ∧ IntsOwn (fun x => w.heap.size + 1 + 1 ≤ x ∧ x < zt) (w3.setCell ⟨zt, 1, none⟩ (.slice an (j + 1) cn)) ao 4 c ∧ Row (w3.setCell ⟨zt, 1, none⟩ (.slice an (j + 1) cn)) (w.heap.size + 1) 2 (fun i => if i = 0 then .slice none 0 0 else .slice none 0 0) ∧ Blw w (w3.setCell ⟨zt, 1, none⟩ (.slice an (j + 1) cn))) :=
        ⟨_, _, _, _, _, set2_1 hS3 (.slice an (j + 1) cn), htl2.mod ms (fun x hx => by omega), (HO.out.mod hM2 (fun x hx h => by have := hzb _ h; omega)).mod ms (fun x hx => by omega), (HR.out.mod hM2 (fun h => by have := hzb _ h; omega)).mod ms (by omega), Mod.blw (Mod.blw HB.out hM2 (fun i hi => by have := hzb _ hi; omega)) ms (fun i hi => by omega)⟩
      have f1 := hS3.frozen 1
      have p1 := (get2 hS3).2
      have HRN : Hid _ := hrun
      have HRN2 : Hid _ := hrun2
      clear HU o2 hb2 hrun hrun2 htl2 hM hM2 hzb hzt hS3 ms HO HR HB HTL HBX P1
      refine wp_region_noPanic ?_
      refine wp_region_held_drew (S := fun _ => True) (by kernel_rfl) trivial (fun hB => ?_)
      clear hB
      generalize wr.drew = wd at *
      refine wpAnyH_take (i := 0) (oi := { dst := some 18, op := Op.fieldAddr 29 (Operand.tmp 3) 1, type := 0, pos := _, after := #[], guard := none }) (v := (.pointer (some ⟨zt, 1, none⟩))) rfl (by kernel_rfl) (by kernel_rfl) (by kernel_rfl) (fun _ _ _ h => h) (Or.inl ⟨by rfl, fun w' hS => by (try dsimp only at hS); go_simp⟩) trivial ?_
      simp only [Act.put, List.setIfInBounds_toArray, List.set_cons_zero, List.set_cons_succ]
      refine wpAnyH_take (i := 3) (oi := { dst := some 21, op := Op.move (Operand.tmp 5), type := 147, pos := _, after := #[], guard := none }) (v := (.slice aa 4 cc)) rfl (by kernel_rfl) (by kernel_rfl) (by kernel_rfl) (fun _ _ _ h => h) (Or.inl ⟨by rfl, fun w' hS => by (try dsimp only at hS); go_simp⟩) trivial ?_
      simp only [Act.put, List.setIfInBounds_toArray, List.set_cons_zero, List.set_cons_succ]
      refine wpAnyH_ready (rs := [1, 2]) (by kernel_rfl) (by simp) ?_
      refine AllReadyH.cons (o := { dst := some 19, op := Op.load 27 (Operand.tmp 18), type := 27, pos := _, after := #[{ on := 0, ground := Ground.data }], guard := none }) rfl (fun K hK => ?_) (AllReadyH.cons (o := { dst := some 20, op := Op.buildSlice 147 0 #[], type := 147, pos := _, after := #[], guard := none }) rfl (fun K hK => ?_) AllReadyH.nil)
      · go_simp
        refine hK.out _ _ trivial (fun hB => ?_)
        clear hK K hB
        try simp only [Act.put, List.setIfInBounds_toArray, List.set_cons_zero, List.set_cons_succ]
        refine wpAnyH_ready (rs := [2]) (by kernel_rfl) (by simp) ?_
        refine AllReadyH.cons (o := { dst := some 20, op := Op.buildSlice 147 0 #[], type := 147, pos := _, after := #[], guard := none }) rfl (fun K hK => ?_) AllReadyH.nil
        go_simp
        refine hK.out _ _ trivial (fun hB => ?_)
        clear hK K hB
        try simp only [Act.put, List.setIfInBounds_toArray, List.set_cons_zero, List.set_cons_succ]
        refine wpAnyH_ready (rs := [4]) (by kernel_rfl) (by simp) ?_
        refine AllReadyH.cons (o := { dst := some 22, op := Op.call { callee := Callee.builtin Builtin.append, args := #[Operand.tmp 20, Operand.tmp 21], argTypes := #[147, 147] }, type := 147, pos := _, after := #[{ on := 2, ground := Ground.data }, { on := 3, ground := Ground.data }], guard := none }) rfl (fun K hK => ?_) AllReadyH.nil
        refine step_app (.tmp 20) (.tmp 21) 147 (by rfl) ?_
        refine ⟨_, _, HRN.out, ?_⟩
        refine hK.out _ _ trivial (fun hB => ?_)
        clear hK K hB
        try simp only [Act.put, List.setIfInBounds_toArray, List.set_cons_zero, List.set_cons_succ]
        refine wpAnyH_ready (rs := [5]) (by kernel_rfl) (by simp) ?_
        refine AllReadyH.cons (o := { dst := some 23, op := Op.buildSlice 27 1 #[(0, Operand.tmp 22)], type := 27, pos := _, after := #[{ on := 4, ground := Ground.data }], guard := none }) rfl (fun K hK => ?_) AllReadyH.nil
        go_simp
        refine hK.out _ _ trivial (fun hB => ?_)
        clear hK K hB
        try simp only [Act.put, List.setIfInBounds_toArray, List.set_cons_zero, List.set_cons_succ]
        refine wpAnyH_ready (rs := [6]) (by kernel_rfl) (by simp) ?_
        refine AllReadyH.cons (o := { dst := some 24, op := Op.call { callee := Callee.builtin Builtin.append, args := #[Operand.tmp 19, Operand.tmp 23], argTypes := #[27, 27] }, type := 27, pos := _, after := #[{ on := 1, ground := Ground.data }, { on := 5, ground := Ground.data }, { on := 4, ground := Ground.chain }], guard := none }) rfl (fun K hK => ?_) AllReadyH.nil
        refine step_app (.tmp 19) (.tmp 23) 27 (by rfl) ?_
        refine ⟨_, _, HRN2.out, ?_⟩
        refine hK.out _ _ trivial (fun hB => ?_)
        clear hK K hB
        try simp only [Act.put, List.setIfInBounds_toArray, List.set_cons_zero, List.set_cons_succ]
        refine wpAnyH_take (i := 7) (oi := { dst := some 25, op := Op.fieldAddr 29 (Operand.tmp 3) 1, type := 0, pos := _, after := #[{ on := 0, ground := Ground.phase }, { on := 1, ground := Ground.phase }, { on := 2, ground := Ground.phase }, { on := 3, ground := Ground.phase }, { on := 4, ground := Ground.phase }, { on := 5, ground := Ground.phase }, { on := 6, ground := Ground.phase }], guard := none }) (v := (.pointer (some ⟨zt, 1, none⟩))) rfl (by kernel_rfl) (by kernel_rfl) (by kernel_rfl) (fun _ _ _ h => h) (Or.inl ⟨by rfl, fun w' hS => by (try dsimp only at hS); go_simp⟩) trivial ?_
        simp only [Act.put, List.setIfInBounds_toArray, List.set_cons_zero, List.set_cons_succ]
        refine wpAnyH_ready (rs := [8]) (by kernel_rfl) (by simp) ?_
        refine AllReadyH.cons (o := { dst := none, op := Op.store 27 (Operand.tmp 25) (Operand.tmp 24), type := 0, pos := _, after := #[{ on := 7, ground := Ground.data }, { on := 6, ground := Ground.data }, { on := 6, ground := Ground.chain }, { on := 0, ground := Ground.phase }, { on := 1, ground := Ground.phase }, { on := 2, ground := Ground.phase }, { on := 3, ground := Ground.phase }, { on := 4, ground := Ground.phase }, { on := 5, ground := Ground.phase }, { on := 6, ground := Ground.phase }], guard := none }) rfl (fun K hK => ?_) AllReadyH.nil
        go_simp
        refine hK.out _ _ trivial (fun hB => ?_)
        clear hK K hB
        try simp only [Act.put, List.setIfInBounds_toArray, List.set_cons_zero, List.set_cons_succ]
        refine wpAnyH_done (by kernel_rfl) ?_ _
        refine NoPanic.normal ?_
        clear pa pb pc pd f1 p1 HRN HRN2
        go_wp2
        go_roundw
        case rel => exact ⟨j + 1, by omega, by go_num, HN.out⟩
        case measure => simp [intOf]; omega
      · go_simp
        refine hK.out _ _ trivial (fun hB => ?_)
        clear hK K hB
        try simp only [Act.put, List.setIfInBounds_toArray, List.set_cons_zero, List.set_cons_succ]
        refine wpAnyH_ready (rs := [1, 4]) (by kernel_rfl) (by simp) ?_
        refine AllReadyH.cons (o := { dst := some 19, op := Op.load 27 (Operand.tmp 18), type := 27, pos := _, after := #[{ on := 0, ground := Ground.data }], guard := none }) rfl (fun K hK => ?_) (AllReadyH.cons (o := { dst := some 22, op := Op.call { callee := Callee.builtin Builtin.append, args := #[Operand.tmp 20, Operand.tmp 21], argTypes := #[147, 147] }, type := 147, pos := _, after := #[{ on := 2, ground := Ground.data }, { on := 3, ground := Ground.data }], guard := none }) rfl (fun K hK => ?_) AllReadyH.nil)
        · go_simp
          refine hK.out _ _ trivial (fun hB => ?_)
          clear hK K hB
          try simp only [Act.put, List.setIfInBounds_toArray, List.set_cons_zero, List.set_cons_succ]
          refine wpAnyH_ready (rs := [4]) (by kernel_rfl) (by simp) ?_
          refine AllReadyH.cons (o := { dst := some 22, op := Op.call { callee := Callee.builtin Builtin.append, args := #[Operand.tmp 20, Operand.tmp 21], argTypes := #[147, 147] }, type := 147, pos := _, after := #[{ on := 2, ground := Ground.data }, { on := 3, ground := Ground.data }], guard := none }) rfl (fun K hK => ?_) AllReadyH.nil
          refine step_app (.tmp 20) (.tmp 21) 147 (by rfl) ?_
          refine ⟨_, _, HRN.out, ?_⟩
          refine hK.out _ _ trivial (fun hB => ?_)
          clear hK K hB
          try simp only [Act.put, List.setIfInBounds_toArray, List.set_cons_zero, List.set_cons_succ]
          refine wpAnyH_ready (rs := [5]) (by kernel_rfl) (by simp) ?_
          refine AllReadyH.cons (o := { dst := some 23, op := Op.buildSlice 27 1 #[(0, Operand.tmp 22)], type := 27, pos := _, after := #[{ on := 4, ground := Ground.data }], guard := none }) rfl (fun K hK => ?_) AllReadyH.nil
          go_simp
          refine hK.out _ _ trivial (fun hB => ?_)
          clear hK K hB
          try simp only [Act.put, List.setIfInBounds_toArray, List.set_cons_zero, List.set_cons_succ]
          refine wpAnyH_ready (rs := [6]) (by kernel_rfl) (by simp) ?_
          refine AllReadyH.cons (o := { dst := some 24, op := Op.call { callee := Callee.builtin Builtin.append, args := #[Operand.tmp 19, Operand.tmp 23], argTypes := #[27, 27] }, type := 27, pos := _, after := #[{ on := 1, ground := Ground.data }, { on := 5, ground := Ground.data }, { on := 4, ground := Ground.chain }], guard := none }) rfl (fun K hK => ?_) AllReadyH.nil
          refine step_app (.tmp 19) (.tmp 23) 27 (by rfl) ?_
          refine ⟨_, _, HRN2.out, ?_⟩
          refine hK.out _ _ trivial (fun hB => ?_)
          clear hK K hB
          try simp only [Act.put, List.setIfInBounds_toArray, List.set_cons_zero, List.set_cons_succ]
          refine wpAnyH_take (i := 7) (oi := { dst := some 25, op := Op.fieldAddr 29 (Operand.tmp 3) 1, type := 0, pos := _, after := #[{ on := 0, ground := Ground.phase }, { on := 1, ground := Ground.phase }, { on := 2, ground := Ground.phase }, { on := 3, ground := Ground.phase }, { on := 4, ground := Ground.phase }, { on := 5, ground := Ground.phase }, { on := 6, ground := Ground.phase }], guard := none }) (v := (.pointer (some ⟨zt, 1, none⟩))) rfl (by kernel_rfl) (by kernel_rfl) (by kernel_rfl) (fun _ _ _ h => h) (Or.inl ⟨by rfl, fun w' hS => by (try dsimp only at hS); go_simp⟩) trivial ?_
          simp only [Act.put, List.setIfInBounds_toArray, List.set_cons_zero, List.set_cons_succ]
          refine wpAnyH_ready (rs := [8]) (by kernel_rfl) (by simp) ?_
          refine AllReadyH.cons (o := { dst := none, op := Op.store 27 (Operand.tmp 25) (Operand.tmp 24), type := 0, pos := _, after := #[{ on := 7, ground := Ground.data }, { on := 6, ground := Ground.data }, { on := 6, ground := Ground.chain }, { on := 0, ground := Ground.phase }, { on := 1, ground := Ground.phase }, { on := 2, ground := Ground.phase }, { on := 3, ground := Ground.phase }, { on := 4, ground := Ground.phase }, { on := 5, ground := Ground.phase }, { on := 6, ground := Ground.phase }], guard := none }) rfl (fun K hK => ?_) AllReadyH.nil
          go_simp
          refine hK.out _ _ trivial (fun hB => ?_)
          clear hK K hB
          try simp only [Act.put, List.setIfInBounds_toArray, List.set_cons_zero, List.set_cons_succ]
          refine wpAnyH_done (by kernel_rfl) ?_ _
          refine NoPanic.normal ?_
          clear pa pb pc pd f1 p1 HRN HRN2
          go_wp2
          go_roundw
          case rel => exact ⟨j + 1, by omega, by go_num, HN.out⟩
          case measure => simp [intOf]; omega
        · refine step_app (.tmp 20) (.tmp 21) 147 (by rfl) ?_
          refine ⟨_, _, HRN.out, ?_⟩
          refine hK.out _ _ trivial (fun hB => ?_)
          clear hK K hB
          try simp only [Act.put, List.setIfInBounds_toArray, List.set_cons_zero, List.set_cons_succ]
          refine wpAnyH_ready (rs := [1, 5]) (by kernel_rfl) (by simp) ?_
          refine AllReadyH.cons (o := { dst := some 19, op := Op.load 27 (Operand.tmp 18), type := 27, pos := _, after := #[{ on := 0, ground := Ground.data }], guard := none }) rfl (fun K hK => ?_) (AllReadyH.cons (o := { dst := some 23, op := Op.buildSlice 27 1 #[(0, Operand.tmp 22)], type := 27, pos := _, after := #[{ on := 4, ground := Ground.data }], guard := none }) rfl (fun K hK => ?_) AllReadyH.nil)
          · go_simp
            refine hK.out _ _ trivial (fun hB => ?_)
            clear hK K hB
            try simp only [Act.put, List.setIfInBounds_toArray, List.set_cons_zero, List.set_cons_succ]
            refine wpAnyH_ready (rs := [5]) (by kernel_rfl) (by simp) ?_
            refine AllReadyH.cons (o := { dst := some 23, op := Op.buildSlice 27 1 #[(0, Operand.tmp 22)], type := 27, pos := _, after := #[{ on := 4, ground := Ground.data }], guard := none }) rfl (fun K hK => ?_) AllReadyH.nil
            go_simp
            refine hK.out _ _ trivial (fun hB => ?_)
            clear hK K hB
            try simp only [Act.put, List.setIfInBounds_toArray, List.set_cons_zero, List.set_cons_succ]
            refine wpAnyH_ready (rs := [6]) (by kernel_rfl) (by simp) ?_
            refine AllReadyH.cons (o := { dst := some 24, op := Op.call { callee := Callee.builtin Builtin.append, args := #[Operand.tmp 19, Operand.tmp 23], argTypes := #[27, 27] }, type := 27, pos := _, after := #[{ on := 1, ground := Ground.data }, { on := 5, ground := Ground.data }, { on := 4, ground := Ground.chain }], guard := none }) rfl (fun K hK => ?_) AllReadyH.nil
            refine step_app (.tmp 19) (.tmp 23) 27 (by rfl) ?_
            refine ⟨_, _, HRN2.out, ?_⟩
            refine hK.out _ _ trivial (fun hB => ?_)
            clear hK K hB
            try simp only [Act.put, List.setIfInBounds_toArray, List.set_cons_zero, List.set_cons_succ]
            refine wpAnyH_take (i := 7) (oi := { dst := some 25, op := Op.fieldAddr 29 (Operand.tmp 3) 1, type := 0, pos := _, after := #[{ on := 0, ground := Ground.phase }, { on := 1, ground := Ground.phase }, { on := 2, ground := Ground.phase }, { on := 3, ground := Ground.phase }, { on := 4, ground := Ground.phase }, { on := 5, ground := Ground.phase }, { on := 6, ground := Ground.phase }], guard := none }) (v := (.pointer (some ⟨zt, 1, none⟩))) rfl (by kernel_rfl) (by kernel_rfl) (by kernel_rfl) (fun _ _ _ h => h) (Or.inl ⟨by rfl, fun w' hS => by (try dsimp only at hS); go_simp⟩) trivial ?_
            simp only [Act.put, List.setIfInBounds_toArray, List.set_cons_zero, List.set_cons_succ]
            refine wpAnyH_ready (rs := [8]) (by kernel_rfl) (by simp) ?_
            refine AllReadyH.cons (o := { dst := none, op := Op.store 27 (Operand.tmp 25) (Operand.tmp 24), type := 0, pos := _, after := #[{ on := 7, ground := Ground.data }, { on := 6, ground := Ground.data }, { on := 6, ground := Ground.chain }, { on := 0, ground := Ground.phase }, { on := 1, ground := Ground.phase }, { on := 2, ground := Ground.phase }, { on := 3, ground := Ground.phase }, { on := 4, ground := Ground.phase }, { on := 5, ground := Ground.phase }, { on := 6, ground := Ground.phase }], guard := none }) rfl (fun K hK => ?_) AllReadyH.nil
            go_simp
            refine hK.out _ _ trivial (fun hB => ?_)
            clear hK K hB
            try simp only [Act.put, List.setIfInBounds_toArray, List.set_cons_zero, List.set_cons_succ]
            refine wpAnyH_done (by kernel_rfl) ?_ _
            refine NoPanic.normal ?_
            clear pa pb pc pd f1 p1 HRN HRN2
            go_wp2
            go_roundw
            case rel => exact ⟨j + 1, by omega, by go_num, HN.out⟩
            case measure => simp [intOf]; omega
          · go_simp
            refine hK.out _ _ trivial (fun hB => ?_)
            clear hK K hB
            try simp only [Act.put, List.setIfInBounds_toArray, List.set_cons_zero, List.set_cons_succ]
            refine wpAnyH_ready (rs := [1]) (by kernel_rfl) (by simp) ?_
            refine AllReadyH.cons (o := { dst := some 19, op := Op.load 27 (Operand.tmp 18), type := 27, pos := _, after := #[{ on := 0, ground := Ground.data }], guard := none }) rfl (fun K hK => ?_) AllReadyH.nil
            go_simp
            refine hK.out _ _ trivial (fun hB => ?_)
            clear hK K hB
            try simp only [Act.put, List.setIfInBounds_toArray, List.set_cons_zero, List.set_cons_succ]
            refine wpAnyH_ready (rs := [6]) (by kernel_rfl) (by simp) ?_
            refine AllReadyH.cons (o := { dst := some 24, op := Op.call { callee := Callee.builtin Builtin.append, args := #[Operand.tmp 19, Operand.tmp 23], argTypes := #[27, 27] }, type := 27, pos := _, after := #[{ on := 1, ground := Ground.data }, { on := 5, ground := Ground.data }, { on := 4, ground := Ground.chain }], guard := none }) rfl (fun K hK => ?_) AllReadyH.nil
            refine step_app (.tmp 19) (.tmp 23) 27 (by rfl) ?_
            refine ⟨_, _, HRN2.out, ?_⟩
            refine hK.out _ _ trivial (fun hB => ?_)
            clear hK K hB
            try simp only [Act.put, List.setIfInBounds_toArray, List.set_cons_zero, List.set_cons_succ]
            refine wpAnyH_take (i := 7) (oi := { dst := some 25, op := Op.fieldAddr 29 (Operand.tmp 3) 1, type := 0, pos := _, after := #[{ on := 0, ground := Ground.phase }, { on := 1, ground := Ground.phase }, { on := 2, ground := Ground.phase }, { on := 3, ground := Ground.phase }, { on := 4, ground := Ground.phase }, { on := 5, ground := Ground.phase }, { on := 6, ground := Ground.phase }], guard := none }) (v := (.pointer (some ⟨zt, 1, none⟩))) rfl (by kernel_rfl) (by kernel_rfl) (by kernel_rfl) (fun _ _ _ h => h) (Or.inl ⟨by rfl, fun w' hS => by (try dsimp only at hS); go_simp⟩) trivial ?_
            simp only [Act.put, List.setIfInBounds_toArray, List.set_cons_zero, List.set_cons_succ]
            refine wpAnyH_ready (rs := [8]) (by kernel_rfl) (by simp) ?_
            refine AllReadyH.cons (o := { dst := none, op := Op.store 27 (Operand.tmp 25) (Operand.tmp 24), type := 0, pos := _, after := #[{ on := 7, ground := Ground.data }, { on := 6, ground := Ground.data }, { on := 6, ground := Ground.chain }, { on := 0, ground := Ground.phase }, { on := 1, ground := Ground.phase }, { on := 2, ground := Ground.phase }, { on := 3, ground := Ground.phase }, { on := 4, ground := Ground.phase }, { on := 5, ground := Ground.phase }, { on := 6, ground := Ground.phase }], guard := none }) rfl (fun K hK => ?_) AllReadyH.nil
            go_simp
            refine hK.out _ _ trivial (fun hB => ?_)
            clear hK K hB
            try simp only [Act.put, List.setIfInBounds_toArray, List.set_cons_zero, List.set_cons_succ]
            refine wpAnyH_done (by kernel_rfl) ?_ _
            refine NoPanic.normal ?_
            clear pa pb pc pd f1 p1 HRN HRN2
            go_wp2
            go_roundw
            case rel => exact ⟨j + 1, by omega, by go_num, HN.out⟩
            case measure => simp [intOf]; omega
    · obtain rfl : j = kn := by omega
      obtain ⟨al, cl, rfl, own⟩ := HTL.out.ps (by omega)
      have hzt := HZ.out
      have hlt2 := HBX.out.lt
      have own' : BookOwn (fun x => w.heap.size + 1 < x ∧ x < wr.heap.size) wr ⟨ao, al, cap, cl⟩ ⟨4, c, ⟨j, fun _ => 4, p, m⟩⟩ := ⟨fun x => w.heap.size + 1 + 1 ≤ x ∧ x < zt, fun x => zt + 1 ≤ x ∧ x < wr.heap.size, fun x hx => ⟨⟨by omega, by omega⟩, by omega⟩, fun x hx => ⟨by omega, hx.2⟩, HO.out, own⟩
      have hm := set2_mod (X := fun x => x = w.heap.size + 1) wr rfl (.slice ao 4 cap) (.slice al j cl)
      have hs := hm.size
      have FIN : Hid (∃ b' : BV, Ending.returned ((BV.mk ao al cap cl).val ⟨4, c, ⟨j, fun _ => 4, p, m⟩⟩) = .returned (b'.val ⟨4, c, ⟨j, fun _ => 4, p, m⟩⟩) ∧ BookOwn (fun x => w.heap.size ≤ x ∧ x < ((wr.setCell ⟨w.heap.size + 1, 0, none⟩ (.slice ao 4 cap)).setCell ⟨w.heap.size + 1, 1, none⟩ (.slice al j cl)).heap.size) ((wr.setCell ⟨w.heap.size + 1, 0, none⟩ (.slice ao 4 cap)).setCell ⟨w.heap.size + 1, 1, none⟩ (.slice al j cl)) b' ⟨4, c, ⟨j, fun _ => 4, p, m⟩⟩ ∧ Blw w ((wr.setCell ⟨w.heap.size + 1, 0, none⟩ (.slice ao 4 cap)).setCell ⟨w.heap.size + 1, 1, none⟩ (.slice al j cl))) :=
        ⟨_, rfl, (own'.mod hm (fun x hx => by omega)).mono (fun x hx => by omega), set2_blw HB.out (by omega) _ _⟩
      obtain ⟨t0, t1⟩ := get2 HR.out
      obtain ⟨s0, s1⟩ := get2 HBX.out
      have f0 := HR.out.frozen 0
      have f1 := HR.out.frozen 1
      clear own own' hm hs HTL HO HR HB HBX hzt hlt2
      go_wp2
      exact bodyPost_ret (v := .agg #[.slice ao 4 cap, .slice al j cl]) (by simp [results, Try.results108, go_sem, t0, t1]) rfl FIN.out
end Go.Proofs.Ytjplodenflkghaa
/- A table of the model's own that is changed. -/
namespace Go.Proofs.Ytjplodenflkghaa
open Go.RowKit
set_option linter.unusedSimpArgs false
set_option linter.unusedVariables false
theorem psin_leaf {X : Nat → Prop} {W : World} {bl kn : Nat} {A : Nat → Option Addr} {C : Nat → Nat} {p m : Nat → Nat → Int} {Z : Nat → Nat → Prop} (h : PSIn X W bl A C ⟨kn, fun _ => 4, p, m⟩ Z) {q j : Nat} (hq : q < kn) (hj : j < 4) :
    ∃ gb, A q = some ⟨gb, 0, none⟩ ∧ X gb ∧ gb ≠ bl ∧ Row W gb 8 (uc (p q) (m q)) ∧ (∀ x y : Int, PSIn X ((W.setCell ⟨gb, j * 2, none⟩ (.int .i64 x)).setCell ⟨gb, j * 2 + 1, none⟩ (.int .i64 y)) bl A C ⟨kn, fun _ => 4, upd2 p q j x, upd2 m q j y⟩ Z) ∧ (∀ y : Int, PSIn X (W.setCell ⟨gb, j * 2 + 1, none⟩ (.int .i64 y)) bl A C ⟨kn, fun _ => 4, p, upd2 m q j y⟩ Z) := by
  obtain ⟨gb, hz, ea, hr⟩ := (h.own q hq).2 (by show 0 < 4; omega)
  have hr8 : Row W gb 8 (uc (p q) (m q)) := hr
  have hs := h.sub q hq gb hz
  have hoth : ∀ i, i < kn → i ≠ q → ¬ Z i gb := fun i hi hne hzi => h.dis i q hi hq hne gb hzi hz
  refine ⟨gb, ea, hs.1, hs.2, hr8, fun x y => ?_, fun y => ?_⟩
  · have hm : Mod (fun k => k = gb) W ((W.setCell ⟨gb, j * 2, none⟩ (.int .i64 x)).setCell ⟨gb, j * 2 + 1, none⟩ (.int .i64 y)) := (Mod.setCell (X := fun k => k = gb) _ (p := ⟨gb, j * 2, none⟩) rfl _).trans (Mod.setCell (X := fun k => k = gb) _ (p := ⟨gb, j * 2 + 1, none⟩) rfl _)
    refine ⟨h.row.mod hm (fun e => hs.2 e.symm), fun i hi => ?_, h.sub, h.dis, h.hb⟩
    by_cases e : i = q
    · subst e
      refine ⟨by show 4 ≤ _; omega, fun _ => ⟨gb, hz, ea, ?_⟩⟩
      refine (((hr8.set (j * 2) (.int .i64 x)).set (j * 2 + 1) (.int .i64 y)).congr (fun k hk => ?_) : Row _ gb (4 * 2) _)
      show (if k = j * 2 + 1 then _ else if k = j * 2 then _ else _) = uc (upd2 p i j x i) (upd2 m i j y i) k
      unfold uc upd2
      by_cases e1 : k = j * 2 + 1
      · have h1 : ¬ k % 2 = 0 := by omega
        have h2 : k / 2 = j := by omega
        simp [e1, h1, h2]
        omega
      · by_cases e2 : k = j * 2
        · simp [e2]
        · simp only [e1, e2, if_false]
          have h2 : ¬ k / 2 = j := by omega
          simp [h2]
    · refine (((h.own i hi).mod hm (fun b hb e2 => hoth i hi e (e2 ▸ hb))).congr (fun k hk => ?_))
      simp [upd2, e]
  · have hm : Mod (fun k => k = gb) W (W.setCell ⟨gb, j * 2 + 1, none⟩ (.int .i64 y)) := Mod.setCell (X := fun k => k = gb) _ (p := ⟨gb, j * 2 + 1, none⟩) rfl _
    refine ⟨h.row.mod hm (fun e => hs.2 e.symm), fun i hi => ?_, h.sub, h.dis, h.hb⟩
    by_cases e : i = q
    · subst e
      refine ⟨by show 4 ≤ _; omega, fun _ => ⟨gb, hz, ea, ?_⟩⟩
      refine ((hr8.set (j * 2 + 1) (.int .i64 y)).congr (fun k hk => ?_) : Row _ gb (4 * 2) _)
      show (if k = j * 2 + 1 then _ else _) = uc (p i) (upd2 m i j y i) k
      unfold uc upd2
      by_cases e1 : k = j * 2 + 1
      · have h1 : ¬ k % 2 = 0 := by omega
        have h2 : k / 2 = j := by omega
        simp [e1, h1, h2]
        omega
      · by_cases h3 : k % 2 = 0
        · simp [e1, h3]
        · have h2 : ¬ k / 2 = j := by omega
          simp [e1, h2, h3]
    · refine (((h.own i hi).mod hm (fun b hb e2 => hoth i hi e (e2 ▸ hb))).congr (fun k hk => ?_))
      simp [upd2, e]
/-- A table of one's own in a box at zb. -/
structure OT (lo zb : Nat) (W : World) (bt bl c1 c2 : Nat) (c : Nat → Int) (kn : Nat) (p m : Nat → Nat → Int) (A : Nat → Option Addr) (C : Nat → Nat) (Z : Nat → Nat → Prop) (X : Nat → Prop) : Prop where
  box : Row W zb 2 (fun i => if i = 0 then .slice (some ⟨bt, 0, none⟩) 4 c1 else .slice (some ⟨bl, 0, none⟩) kn c2)
  top : Row W bt 4 (fun i => .int .i64 (c i))
  ls : PSIn X W bl A C ⟨kn, fun _ => 4, p, m⟩ Z
  nx : ∀ x, X x → lo ≤ x ∧ x < W.heap.size ∧ x ≠ zb ∧ x ≠ bt
  nb : bt ≠ zb ∧ lo ≤ bt ∧ lo ≤ zb
theorem OT.mod {Q : Nat → Prop} {lo zb : Nat} {W W' : World} {bt bl c1 c2 : Nat} {c : Nat → Int} {kn : Nat} {p m : Nat → Nat → Int} {A : Nat → Option Addr} {C : Nat → Nat} {Z : Nat → Nat → Prop} {X : Nat → Prop} (h : OT lo zb W bt bl c1 c2 c kn p m A C Z X) (hm : Mod Q W W') (hq : ∀ x, lo ≤ x → ¬ Q x) : OT lo zb W' bt bl c1 c2 c kn p m A C Z X :=
  ⟨h.box.mod hm (hq _ h.nb.2.2), h.top.mod hm (hq _ h.nb.2.1), h.ls.mod hm (fun x hx => hq _ (h.nx x hx).1), fun x hx => by have := h.nx x hx; have := hm.size; omega, h.nb⟩
theorem OT.go {lo zb : Nat} {W W' : World} {bt bl c1 c2 : Nat} {c : Nat → Int} {kn : Nat} {p m : Nat → Nat → Int} {A : Nat → Option Addr} {C : Nat → Nat} {Z : Nat → Nat → Prop} {X : Nat → Prop} (h : OT lo zb W bt bl c1 c2 c kn p m A C Z X) (hb : Blw W W') : OT lo zb W' bt bl c1 c2 c kn p m A C Z X := h.mod (hb.mod (fun _ => False)) (fun _ _ => id)
theorem OT.make {lo : Nat} {W : World} {b : BV} {c : Nat → Int} {kn : Nat} {p m : Nat → Nat → Int} (hk : 0 < kn) (h : BookOwn (fun x => lo ≤ x ∧ x < W.heap.size) W b ⟨4, c, ⟨kn, fun _ => 4, p, m⟩⟩) (hlo : lo ≤ W.heap.size) :
    ∃ bt bl c1 c2 A C Z X, b = ⟨some ⟨bt, 0, none⟩, some ⟨bl, 0, none⟩, c1, c2⟩ ∧ OT lo W.heap.size (W.alloc (.cells #[.slice (some ⟨bt, 0, none⟩) 4 c1, .slice (some ⟨bl, 0, none⟩) kn c2] 29)) bt bl c1 c2 c kn p m A C Z X := by
  obtain ⟨a1, a2, c1, c2⟩ := b
  obtain ⟨X1, X2, d1, d2, hc, hl⟩ := h.ex
  obtain ⟨bt, hbt, e1, hr⟩ := hc.2 (by show 0 < 4; omega)
  obtain ⟨bl, A, C, Z, e2, hp⟩ := hl.2 hk
  dsimp only at e1 e2
  subst e1 e2
  have hA : Blw W (W.alloc (.cells #[.slice (some ⟨bt, 0, none⟩) 4 c1, .slice (some ⟨bl, 0, none⟩) kn c2] 29)) := (Blw.refl _).alloc _
  refine ⟨bt, bl, c1, c2, A, C, Z, X2, rfl, box2 W _ _ 29, hr.blw hA, hp.mod (hA.mod (fun _ => False)) (fun _ _ => id), fun x hx => ?_, ?_⟩
  · have := d2 x hx
    rw [World.size_alloc]
    refine ⟨by omega, by omega, by omega, fun e => (d1 bt hbt).2 (e ▸ hx)⟩
  · have := (d1 bt hbt).1
    omega
theorem OT.own {lo zb : Nat} {W : World} {bt bl c1 c2 : Nat} {c : Nat → Int} {kn : Nat} {p m : Nat → Nat → Int} {A : Nat → Option Addr} {C : Nat → Nat} {Z : Nat → Nat → Prop} {X : Nat → Prop} (h : OT lo zb W bt bl c1 c2 c kn p m A C Z X) (hk : kn ≤ 4) : BookOwn (fun x => lo ≤ x ∧ x < W.heap.size) W ⟨some ⟨bt, 0, none⟩, some ⟨bl, 0, none⟩, c1, c2⟩ ⟨4, c, ⟨kn, fun _ => 4, p, m⟩⟩ :=
  ⟨fun x => x = bt, X, fun x hx => ⟨by have := h.nb; have := h.top.lt; omega, fun hX => by have := (h.nx x hX).2.2.2; omega⟩, fun x hx => by have := h.nx x hx; omega, ⟨by show 4 ≤ _; omega, fun _ => ⟨bt, rfl, rfl, h.top⟩⟩, ⟨by show kn ≤ _; omega, fun _ => ⟨bl, A, C, Z, rfl, h.ls⟩⟩⟩
theorem OT.setTop {lo zb : Nat} {W : World} {bt bl c1 c2 : Nat} {c : Nat → Int} {kn : Nat} {p m : Nat → Nat → Int} {A : Nat → Option Addr} {C : Nat → Nat} {Z : Nat → Nat → Prop} {X : Nat → Prop} (h : OT lo zb W bt bl c1 c2 c kn p m A C Z X) (t : Nat) (v : Int) : OT lo zb (W.setCell ⟨bt, t, none⟩ (.int .i64 v)) bt bl c1 c2 (upd c t v) kn p m A C Z X := by
  have hm : Mod (fun k => k = bt) W (W.setCell ⟨bt, t, none⟩ (.int .i64 v)) := Mod.setCell (X := fun k => k = bt) _ (p := ⟨bt, t, none⟩) rfl _
  refine ⟨h.box.mod hm (fun e => h.nb.1 e.symm), (h.top.set t _).congr (fun i hi => ?_), h.ls.mod hm (fun x hx e => (h.nx x hx).2.2.2 e), fun x hx => by have := h.nx x hx; have := hm.size; omega, h.nb⟩
  unfold upd
  split <;> rfl
theorem OT.leaf {lo zb : Nat} {W : World} {bt bl c1 c2 : Nat} {c : Nat → Int} {kn : Nat} {p m : Nat → Nat → Int} {A : Nat → Option Addr} {C : Nat → Nat} {Z : Nat → Nat → Prop} {X : Nat → Prop} (h : OT lo zb W bt bl c1 c2 c kn p m A C Z X) {q j : Nat} (hq : q < kn) (hj : j < 4) :
    ∃ gb, A q = some ⟨gb, 0, none⟩ ∧ gb ≠ zb ∧ gb ≠ bt ∧ gb ≠ bl ∧ lo ≤ gb ∧ Row W gb 8 (uc (p q) (m q)) ∧ (∀ x y : Int, OT lo zb ((W.setCell ⟨gb, j * 2, none⟩ (.int .i64 x)).setCell ⟨gb, j * 2 + 1, none⟩ (.int .i64 y)) bt bl c1 c2 c kn (upd2 p q j x) (upd2 m q j y) A C Z X) ∧ (∀ y : Int, OT lo zb (W.setCell ⟨gb, j * 2 + 1, none⟩ (.int .i64 y)) bt bl c1 c2 c kn p (upd2 m q j y) A C Z X) := by
  obtain ⟨gb, ea, hX, hne, hr, h1, h2⟩ := psin_leaf h.ls hq hj
  have hn := h.nx gb hX
  refine ⟨gb, ea, hn.2.2.1, hn.2.2.2, hne, hn.1, hr, fun x y => ?_, fun y => ?_⟩
  · have hm : Mod (fun k => k = gb) W ((W.setCell ⟨gb, j * 2, none⟩ (.int .i64 x)).setCell ⟨gb, j * 2 + 1, none⟩ (.int .i64 y)) := (Mod.setCell (X := fun k => k = gb) _ (p := ⟨gb, j * 2, none⟩) rfl _).trans (Mod.setCell (X := fun k => k = gb) _ (p := ⟨gb, j * 2 + 1, none⟩) rfl _)
    exact ⟨h.box.mod hm (fun e => hn.2.2.1 e.symm), h.top.mod hm (fun e => hn.2.2.2 e.symm), h1 x y, fun x hx => by have := h.nx x hx; have := hm.size; omega, h.nb⟩
  · have hm : Mod (fun k => k = gb) W (W.setCell ⟨gb, j * 2 + 1, none⟩ (.int .i64 y)) := Mod.setCell (X := fun k => k = gb) _ (p := ⟨gb, j * 2 + 1, none⟩) rfl _
    exact ⟨h.box.mod hm (fun e => hn.2.2.1 e.symm), h.top.mod hm (fun e => hn.2.2.2 e.symm), h2 y, fun x hx => by have := h.nx x hx; have := hm.size; omega, h.nb⟩
theorem OT.topAt {lo zb : Nat} {W : World} {bt bl c1 c2 : Nat} {c : Nat → Int} {kn : Nat} {p m : Nat → Nat → Int} {A : Nat → Option Addr} {C : Nat → Nat} {Z : Nat → Nat → Prop} {X : Nat → Prop} (h : OT lo zb W bt bl c1 c2 c kn p m A C Z X) : IntsAt (fun x => x = bt) W (some ⟨bt, 0, none⟩) 4 c :=
  ⟨by omega, fun i hi => ⟨bt, 0, rfl, rfl, by rw [Nat.zero_add]; exact h.top.cell hi⟩⟩
end Go.Proofs.Ytjplodenflkghaa
/- MappedIn: the program's, and the law. -/
namespace Go.Proofs.Ytjplodenflkghaa
open Go.RowKit
set_option linter.unusedSimpArgs false
set_option linter.unusedVariables false
theorem lf_nonneg {n kn : Nat} {c : Nat → Int} {len : Nat → Nat} {p m : Nat → Nat → Int} (g : BD.Good ⟨n, c, ⟨kn, len, p, m⟩⟩) {a : Nat} (ha : a < 16) : 0 ≤ lfP c m a := by
  unfold lfP
  by_cases h : 0 ≤ c (a / 4)
  · rw [if_pos h]
    have hn : n = 4 := g.n
    have ht := g.top (a / 4) (by show a / 4 < n; omega)
    have ht' : c (a / 4) ≤ (kn : Int) - 1 := ht.2
    have := ((g.leaf (c (a / 4)).toNat (by show _ < kn; omega)).2 (a % 4) (by omega)).2.1.1
    exact this
  · rw [if_neg h]; omega
end Go.Proofs.Ytjplodenflkghaa
/- ProtectPage: the model's. -/
namespace Go.Proofs.Ytjplodenflkghaa
open Go.RowKit
set_option linter.unusedSimpArgs false
set_option linter.unusedVariables false
theorem nz8 {f g : Nat → Int} {j : Nat} {y : Int} (hj : j < 4) (hy : mayOK y) (hg : g j = y) : ¬ isZero8 f g := fun h => by
  have := (h j hj).2
  unfold mayOK at hy
  omega
theorem upd2_self {p : Nat → Nat → Int} {q j : Nat} {v : Int} (h : p q j = v) : upd2 p q j v = p := by
  funext a b; unfold upd2; split
  · next e => rw [e.1, e.2, h]
  · rfl
theorem upd2_at (p : Nat → Nat → Int) (q j : Nat) (v : Int) : upd2 p q j v q j = v := by unfold upd2; rw [if_pos ⟨rfl, rfl⟩]
theorem lf_top {c : Nat → Int} {kn x : Nat} {m : Nat → Nat → Int} (h : ¬ lfP c m x = 0) (ht : -1 ≤ c (x / 4) ∧ c (x / 4) ≤ (kn : Int) - 1) : ∃ q : Nat, c (x / 4) = q ∧ q < kn := by
  have h0 : 0 ≤ c (x / 4) := Decidable.byContradiction fun h1 => h (lfP_no h1)
  exact ⟨(c (x / 4)).toNat, by omega, by omega⟩
set_option maxRecDepth 10000 in
set_option maxHeartbeats 6400000 in
theorem specProt_any (b : BV) (B : BD) (a y : Int) (Y : Nat → Prop) (w : World) (hn : B.n ≤ 1048576) (h : BookAt Y w b B) :
    Calls Try.prog 149 #[b.val B, .int .i64 a, .int .i64 y] w (GivesB (chOut B a (fun _ oy => ¬ oy = 0 ∧ mayOK y) (fun o => o) y) w) := by
  have hA1 : Blw w (w.alloc (.cells #[.slice b.a1 B.n b.c1, .slice b.a2 B.D.n b.c2] 29)) := (Blw.refl _).alloc _
  have hA2 : Blw (w.alloc (.cells #[.slice b.a1 B.n b.c1, .slice b.a2 B.D.n b.c2] 29)) ((w.alloc (.cells #[.slice b.a1 B.n b.c1, .slice b.a2 B.D.n b.c2] 29)).alloc (.cells #[.slice none 0 0, .slice none 0 0] 29)) := (Blw.refl _).alloc _
  have HB : Hid (Blw w ((w.alloc (.cells #[.slice b.a1 B.n b.c1, .slice b.a2 B.D.n b.c2] 29)).alloc (.cells #[.slice none 0 0, .slice none 0 0] 29))) := hA1.trans hA2
  have rR := box2 (w.alloc (.cells #[.slice b.a1 B.n b.c1, .slice b.a2 B.D.n b.c2] 29)) (.slice none 0 0) (.slice none 0 0) 29
  rw [World.size_alloc] at rR
  have HR : Hid (Row ((w.alloc (.cells #[.slice b.a1 B.n b.c1, .slice b.a2 B.D.n b.c2] 29)).alloc (.cells #[.slice none 0 0, .slice none 0 0] 29)) (w.heap.size + 1) 2 (fun i => if i = 0 then .slice none 0 0 else .slice none 0 0)) := rR
  have HA : Hid (BookAt Y ((w.alloc (.cells #[.slice b.a1 B.n b.c1, .slice b.a2 B.D.n b.c2] 29)).alloc (.cells #[.slice none 0 0, .slice none 0 0] 29)) b B) := h.blw (hA1.trans hA2)
  have HA0 : Hid (Row ((w.alloc (.cells #[.slice b.a1 B.n b.c1, .slice b.a2 B.D.n b.c2] 29)).alloc (.cells #[.slice none 0 0, .slice none 0 0] 29)) w.heap.size 2 (fun i => if i = 0 then .slice b.a1 B.n b.c1 else .slice b.a2 B.D.n b.c2)) := (box2 w _ _ 29).blw hA2
  have HSZ : Hid (w.heap.size + 1 + 1 = ((w.alloc (.cells #[.slice b.a1 B.n b.c1, .slice b.a2 B.D.n b.c2] 29)).alloc (.cells #[.slice none 0 0, .slice none 0 0] 29)).heap.size) := by show _ = _; simp
  clear hA1 hA2 rR h
  go_enter Try.func149, Try.ntmps149
  obtain ⟨p0, p1⟩ := get2 HA0.out
  go_wp2_with fail
  clear p0 p1
  generalize ((w.alloc (.cells #[.slice b.a1 B.n b.c1, .slice b.a2 B.D.n b.c2] 29)).alloc (.cells #[.slice none 0 0, .slice none 0 0] 29)) = w0 at *
  refine (specGood_any b B Y _ hn HA.out).mono ?_
  rintro e w1 ⟨r, rfl, hr, hb1⟩
  have HT : Hid (r = true ↔ B.Good) := hr
  replace HSZ : Hid (w.heap.size + 1 + 1 ≤ w1.heap.size) := by have := HSZ.out; have := hb1.size; show _ ≤ _; omega
  replace HB : Hid (Blw w w1) := HB.out.trans hb1
  replace HR : Hid (Row w1 (w.heap.size + 1) 2 (fun i => if i = 0 then .slice none 0 0 else .slice none 0 0)) := HR.out.blw hb1
  replace HA0 : Hid (Row w1 w.heap.size 2 (fun i => if i = 0 then .slice b.a1 B.n b.c1 else .slice b.a2 B.D.n b.c2)) := HA0.out.blw hb1
  replace HA : Hid (BookAt Y w1 b B) := HA.out.blw hb1
  clear hr hb1
  cases r
  · have HN : Hid (¬ B.Good) := fun g => by have := HT.out.2 g; simp at this
    clear HT
    obtain ⟨t0, t1⟩ := get2 HR.out
    have f0 := HR.out.frozen 0
    have f1 := HR.out.frozen 1
    clear HR HA0
    go_wp2
    exact bodyPost_ret (v := .tuple #[BV.zero.val BD.zero, .bool false]) (by simp [results, Try.results149, go_sem, t0, t1]) rfl (zero_givesT (z := w.heap.size + 1) (by omega) (Or.inr ⟨fun q => HN.out q.1, rfl, rfl⟩) HB.out)
  have HG : Hid (B.Good) := HT.out.1 (by first | rfl | trivial)
  clear HT
  go_wp2_with fail
  refine (l6At_any a _).mono ?_
  rintro e w1 ⟨r, rfl, hr, rfl⟩
  have HT : Hid (r = true ↔ pgOK a) := hr
  clear hr
  cases r
  · have HN : Hid (¬ pgOK a) := fun g => by have := HT.out.2 g; simp at this
    clear HT
    obtain ⟨t0, t1⟩ := get2 HR.out
    have f0 := HR.out.frozen 0
    have f1 := HR.out.frozen 1
    clear HR HA0
    go_wp2
    exact bodyPost_ret (v := .tuple #[BV.zero.val BD.zero, .bool false]) (by simp [results, Try.results149, go_sem, t0, t1]) rfl (zero_givesT (z := w.heap.size + 1) (by omega) (Or.inr ⟨fun q => HN.out q.2.1, rfl, rfl⟩) HB.out)
  have H1 : Hid (pgOK a) := HT.out.1 (by first | rfl | trivial)
  clear HT
  go_wp2_with fail
  refine (l1In_any y 1 3 _).mono ?_
  rintro e w1 ⟨r, rfl, hr, rfl⟩
  have HT : Hid (r = true ↔ (1 ≤ y ∧ y ≤ 3)) := hr
  clear hr
  cases r
  · have HN : Hid (¬ (1 ≤ y ∧ y ≤ 3)) := fun g => by have := HT.out.2 g; simp at this
    clear HT
    obtain ⟨t0, t1⟩ := get2 HR.out
    have f0 := HR.out.frozen 0
    have f1 := HR.out.frozen 1
    clear HR HA0
    go_wp2
    exact bodyPost_ret (v := .tuple #[BV.zero.val BD.zero, .bool false]) (by simp [results, Try.results149, go_sem, t0, t1]) rfl (zero_givesT (z := w.heap.size + 1) (by omega) (Or.inr ⟨fun q => HN.out q.2.2.1.2, rfl, rfl⟩) HB.out)
  have H2 : Hid (mayOK y) := HT.out.1 (by first | rfl | trivial)
  clear HT
  obtain ⟨n, c, ⟨kn, len, p, m⟩⟩ := B
  obtain ⟨a1, a2, q1, q2⟩ := b
  have hn4 : n = 4 := HG.out.n
  subst hn4
  have hk4 : kn ≤ 4 := HG.out.k.2
  have hk1 : 0 < kn := HG.out.k.1
  simp only [BV.val] at *
  obtain ⟨x, hx, hx16⟩ : ∃ x : Nat, a = x ∧ x < 16 := ⟨a.toNat, by have := H1.out; unfold pgOK at this; omega, by have := H1.out; unfold pgOK at this; omega⟩
  subst hx
  have HN0 : Hid (0 ≤ lfP c m x) := lf_nonneg HG.out hx16
  obtain ⟨p0, p1⟩ := get2 HA0.out
  have hfm := fieldMay (lfP c p x) (lfP c m x)
  go_wp2_with fail
  clear p0 p1
  refine (l6Find_any ⟨a1, a2, q1, q2⟩ c kn len p m x Y _ HG.out hx16 HA.out).mono ?_
  rintro e w2 ⟨rfl, hb2⟩
  replace HB : Hid (Blw w w2) := HB.out.trans hb2
  replace HSZ : Hid (w.heap.size + 1 + 1 ≤ w2.heap.size) := by have := HSZ.out; have := hb2.size; show _ ≤ _; omega
  replace HR : Hid (Row w2 (w.heap.size + 1) 2 (fun i => if i = 0 then .slice none 0 0 else .slice none 0 0)) := HR.out.blw hb2
  replace HA0 : Hid (Row w2 w.heap.size 2 (fun i => if i = 0 then .slice a1 4 q1 else .slice a2 kn q2)) := HA0.out.blw hb2
  replace HA : Hid (BookAt Y w2 ⟨a1, a2, q1, q2⟩ ⟨4, c, ⟨kn, len, p, m⟩⟩) := HA.out.blw hb2
  clear hb2
  by_cases h0 : lfP c m x = 0
  · have HN : Hid (lfP c m x = 0) := h0
    have d1 : (lfP c m x == 0) = true := by simp [h0]
    clear h0
    obtain ⟨t0, t1⟩ := get2 HR.out
    have f0 := HR.out.frozen 0
    have f1 := HR.out.frozen 1
    clear HR HA0
    go_wp2
    exact bodyPost_ret (v := .tuple #[BV.zero.val BD.zero, .bool false]) (by simp [results, Try.results149, go_sem, t0, t1]) rfl (zero_givesT (z := w.heap.size + 1) (by omega) (Or.inr ⟨fun q => q.2.2.1.1 (by rw [Int.toNat_natCast]; exact HN.out), rfl, rfl⟩) HB.out)
  have HN : Hid (¬ lfP c m x = 0) := h0
  have d1 : (lfP c m x == 0) = false := by simp [h0]
  clear h0
  obtain ⟨p0, p1⟩ := get2 HA0.out
  go_wp2_with fail
  clear p0 p1 hfm
  refine (l6Own_any ⟨a1, a2, q1, q2⟩ c kn len p m Y _ hk4 (fun i hi => (HG.out.leaf i hi).1) HA.out).mono ?_
  rintro e w3 ⟨b3, rfl, own, hb3⟩
  have hs3 := HSZ.out
  have hs4 := hb3.size
  obtain ⟨bt, bl, c1, c2, A, C, Z, X, rfl, hOT⟩ := OT.make (lo := w.heap.size + 1 + 1) hk1 (own.mono (fun x hx => ⟨by omega, hx.2⟩)) (by omega)
  have hA3 : Blw w3 (w3.alloc (.cells #[.slice (some ⟨bt, 0, none⟩) 4 c1, .slice (some ⟨bl, 0, none⟩) kn c2] 29)) := (Blw.refl _).alloc _
  have HOT : Hid (OT (w.heap.size + 1 + 1) w3.heap.size (w3.alloc (.cells #[.slice (some ⟨bt, 0, none⟩) 4 c1, .slice (some ⟨bl, 0, none⟩) kn c2] 29)) bt bl c1 c2 c kn p m A C Z X) := hOT
  replace HB : Hid (Blw w (w3.alloc (.cells #[.slice (some ⟨bt, 0, none⟩) 4 c1, .slice (some ⟨bl, 0, none⟩) kn c2] 29))) := HB.out.trans (hb3.trans hA3)
  replace HR : Hid (Row (w3.alloc (.cells #[.slice (some ⟨bt, 0, none⟩) 4 c1, .slice (some ⟨bl, 0, none⟩) kn c2] 29)) (w.heap.size + 1) 2 (fun i => if i = 0 then .slice none 0 0 else .slice none 0 0)) := HR.out.blw (hb3.trans hA3)
  have hd : Int.tdiv (x : Int) 4 = ((x / 4 : Nat) : Int) := by rw [Int.tdiv_eq_ediv_of_nonneg (by omega)]; rfl
  have hr : Int.tmod (x : Int) 4 = ((x % 4 : Nat) : Int) := by rw [Int.tmod_eq_emod_of_nonneg (by omega)]; rfl
  have hd4 : x / 4 < 4 := by omega
  have hr4 : x % 4 < 4 := by omega
  have hd4' : ((x / 4 : Nat) : Int) < 4 := by omega
  have hr4' : ((x % 4 : Nat) : Int) < 4 := by omega
  have htop := HG.out.top (x / 4) hd4
  dsimp only at htop
  clear own hb3 hA3 hs3 hs4 hOT HA HA0
  obtain ⟨q, hcq, hqk⟩ := lf_top HN.out htop
  have HCQ : Hid (c (x / 4) = q) := hcq
  have hqk' : (q : Int) < (kn : Int) := by omega
  have HOUT : Hid (chOut ⟨4, c, ⟨kn, len, p, m⟩⟩ (x : Int) (fun _ oy => ¬ oy = 0 ∧ mayOK y) (fun o => o) y ⟨4, c, ⟨kn, fun _ => 4, p, upd2 m q (x % 4) y⟩⟩ true) := by
    refine Or.inl ⟨⟨HG.out, H1.out, by rw [Int.toNat_natCast]; exact ⟨HN.out, H2.out⟩, q, by rw [Int.toNat_natCast]; exact Or.inl hcq⟩, ⟨q, by rw [Int.toNat_natCast]; exact Or.inl hcq, ?_⟩, rfl⟩
    rw [Int.toNat_natCast]
    unfold chB
    dsimp only
    rw [topsOf_no (nz8 hr4 H2.out (upd2_at _ _ _ _)), upd_self hcq, upd2_self (lfP_yes hcq).symm]
  clear hcq htop HN HN0
  go_upto_region 4 with fail
  generalize w3.alloc (.cells #[.slice (some ⟨bt, 0, none⟩) 4 c1, .slice (some ⟨bl, 0, none⟩) kn c2] 29) = W at *
  generalize w3.heap.size = zb at *
  generalize x / 4 = t at *
  generalize x % 4 = j at *
  replace HOT : Hid (OT (w.heap.size + 1 + 1) zb W.drew bt bl c1 c2 c kn p m A C Z X) := HOT.out.go (Blw.refl _).drew
  replace HB : Hid (Blw w W.drew) := HB.out.drew
  replace HR : Hid (Row W.drew (w.heap.size + 1) 2 (fun i => if i = 0 then .slice none 0 0 else .slice none 0 0)) := HR.out.blw (Blw.refl _).drew
  obtain ⟨gb, ea, n1, n2, n3, hlo, hr8, hs2, hs1⟩ := HOT.out.leaf hqk hr4
  have bx := HOT.out.box
  have tp := HOT.out.top.cell hd4
  rw [HCQ.out] at tp
  have ls := HOT.out.ls.row.cell hqk
  dsimp only at ls
  rw [ea] at ls
  have f1 := hr8.frozen (j * 2 + 1)
  have l1 : W.drew.cell? ⟨gb, j * 2 + 1, none⟩ = some (.int .i64 (m q j)) := by rw [hr8.cell (i := j * 2 + 1) (by omega), (uc_at _ _ j).2]
  obtain ⟨x0, x1⟩ := get2 bx
  have HOTF : Hid (OT (w.heap.size + 1 + 1) zb (W.drew.setCell ⟨gb, j * 2 + 1, none⟩ (.int .i64 y)) bt bl c1 c2 c kn p (upd2 m q j y) A C Z X) := hs1 y
  have ms : Mod (fun x => x = gb) W.drew (W.drew.setCell ⟨gb, j * 2 + 1, none⟩ (.int .i64 y)) := Mod.setCell (X := fun x => x = gb) _ (p := ⟨gb, j * 2 + 1, none⟩) rfl _
  have HB' : Hid (Blw w (W.drew.setCell ⟨gb, j * 2 + 1, none⟩ (.int .i64 y))) := Mod.blw HB.out ms (fun i hi => by omega)
  have HR' : Hid (Row (W.drew.setCell ⟨gb, j * 2 + 1, none⟩ (.int .i64 y)) (w.heap.size + 1) 2 (fun i => if i = 0 then .slice none 0 0 else .slice none 0 0)) := HR.out.mod ms (by omega)
  clear hs1 hs2 hr8 ms bx HOT HB HR ea hlo
  have hwt : IntKind.i64.wrap ((t : Nat) : Int) = t := by rw [IntKind.wrap_i64]; omega
  have hwj : IntKind.i64.wrap ((j : Nat) : Int) = j := by rw [IntKind.wrap_i64]; omega
  have hS0 := And.intro x0 (And.intro x1 (And.intro tp ls))
  refine wp_region_noPanic ?_
  refine wp_region_held_drew (S := fun (w' : World) => w'.cell? ⟨zb, 0, none⟩ = some (.slice (some ⟨bt, 0, none⟩) 4 c1) ∧ w'.cell? ⟨zb, 1, none⟩ = some (.slice (some ⟨bl, 0, none⟩) kn c2) ∧ w'.cell? ⟨bt, t, none⟩ = some (.int .i64 q) ∧ w'.cell? ⟨bl, q, none⟩ = some (.slice (some ⟨gb, 0, none⟩) 4 (C q))) (by kernel_rfl) hS0 (fun hB => ?_)
  clear hB
  generalize W.drew = wd at *
  refine wpAnyH_take (i := 0) (oi := { dst := some 32, op := Op.fieldAddr 29 (Operand.tmp 8) 1, type := 0, pos := _, after := #[], guard := none }) (v := (.pointer (some ⟨zb, 1, none⟩))) rfl (by kernel_rfl) (by kernel_rfl) (by kernel_rfl) (fun _ _ _ h => h) (Or.inl ⟨by rfl, fun w' hS => by (try dsimp only at hS); go_simp⟩) hS0 ?_
  simp only [Act.put, List.setIfInBounds_toArray, List.set_cons_zero, List.set_cons_succ]
  refine wpAnyH_take (i := 2) (oi := { dst := some 34, op := Op.fieldAddr 29 (Operand.tmp 8) 0, type := 0, pos := _, after := #[], guard := none }) (v := (.pointer (some ⟨zb, 0, none⟩))) rfl (by kernel_rfl) (by kernel_rfl) (by kernel_rfl) (fun _ _ _ h => h) (Or.inl ⟨by rfl, fun w' hS => by (try dsimp only at hS); go_simp⟩) hS0 ?_
  simp only [Act.put, List.setIfInBounds_toArray, List.set_cons_zero, List.set_cons_succ]
  refine wpAnyH_take (i := 4) (oi := { dst := some 36, op := Op.move (Operand.tmp 1), type := 3, pos := _, after := #[], guard := none }) (v := (.int .i64 x)) rfl (by kernel_rfl) (by kernel_rfl) (by kernel_rfl) (fun _ _ _ h => h) (Or.inl ⟨by rfl, fun w' hS => by (try dsimp only at hS); go_simp⟩) hS0 ?_
  simp only [Act.put, List.setIfInBounds_toArray, List.set_cons_zero, List.set_cons_succ]
  refine wpAnyH_take (i := 10) (oi := { dst := some 42, op := Op.move (Operand.tmp 1), type := 3, pos := _, after := #[], guard := none }) (v := (.int .i64 x)) rfl (by kernel_rfl) (by kernel_rfl) (by kernel_rfl) (fun _ _ _ h => h) (Or.inl ⟨by rfl, fun w' hS => by (try dsimp only at hS); go_simp⟩) hS0 ?_
  simp only [Act.put, List.setIfInBounds_toArray, List.set_cons_zero, List.set_cons_succ]
  refine wpAnyH_take (i := 12) (oi := { dst := some 44, op := Op.move (Operand.tmp 2), type := 3, pos := _, after := #[], guard := none }) (v := (.int .i64 y)) rfl (by kernel_rfl) (by kernel_rfl) (by kernel_rfl) (fun _ _ _ h => h) (Or.inl ⟨by rfl, fun w' hS => by (try dsimp only at hS); go_simp⟩) hS0 ?_
  simp only [Act.put, List.setIfInBounds_toArray, List.set_cons_zero, List.set_cons_succ]
  refine wpAnyH_take (i := 1) (oi := { dst := some 33, op := Op.load 27 (Operand.tmp 32), type := 27, pos := _, after := #[{ on := 0, ground := Ground.data }], guard := none }) (v := (.slice (some ⟨bl, 0, none⟩) kn c2)) rfl (by kernel_rfl) (by kernel_rfl) (by kernel_rfl) (fun _ _ _ h => h) (Or.inl ⟨by rfl, fun w' hS => by (try dsimp only at hS); go_simp⟩) hS0 ?_
  simp only [Act.put, List.setIfInBounds_toArray, List.set_cons_zero, List.set_cons_succ]
  refine wpAnyH_take (i := 3) (oi := { dst := some 35, op := Op.load 26 (Operand.tmp 34), type := 26, pos := _, after := #[{ on := 2, ground := Ground.data }], guard := none }) (v := (.slice (some ⟨bt, 0, none⟩) 4 c1)) rfl (by kernel_rfl) (by kernel_rfl) (by kernel_rfl) (fun _ _ _ h => h) (Or.inl ⟨by rfl, fun w' hS => by (try dsimp only at hS); go_simp⟩) hS0 ?_
  simp only [Act.put, List.setIfInBounds_toArray, List.set_cons_zero, List.set_cons_succ]
  refine wpAnyH_take (i := 5) (oi := { dst := some 37, op := Op.binOp BinOp.quo 3 (Operand.tmp 36) (Operand.const (Value.int IntKind.i64 4)) 3, type := 3, pos := _, after := #[{ on := 4, ground := Ground.data }], guard := none }) (v := (.int .i64 t)) rfl (by kernel_rfl) (by kernel_rfl) (by kernel_rfl) (fun _ _ _ h => h) (Or.inl ⟨by rfl, fun w' hS => by (try dsimp only at hS); go_simp⟩) hS0 ?_
  simp only [Act.put, List.setIfInBounds_toArray, List.set_cons_zero, List.set_cons_succ]
  refine wpAnyH_take (i := 11) (oi := { dst := some 43, op := Op.binOp BinOp.rem 3 (Operand.tmp 42) (Operand.const (Value.int IntKind.i64 4)) 3, type := 3, pos := _, after := #[{ on := 10, ground := Ground.data }], guard := none }) (v := (.int .i64 j)) rfl (by kernel_rfl) (by kernel_rfl) (by kernel_rfl) (fun _ _ _ h => h) (Or.inl ⟨by rfl, fun w' hS => by (try dsimp only at hS); go_simp⟩) hS0 ?_
  simp only [Act.put, List.setIfInBounds_toArray, List.set_cons_zero, List.set_cons_succ]
  refine wpAnyH_take (i := 6) (oi := { dst := some 38, op := Op.indexAddr 26 (Operand.tmp 35) (Operand.tmp 37), type := 0, pos := _, after := #[{ on := 3, ground := Ground.data }, { on := 5, ground := Ground.data }], guard := none }) (v := (.pointer (some ⟨bt, t, none⟩))) rfl (by kernel_rfl) (by kernel_rfl) (by kernel_rfl) (fun _ _ _ h => h) (Or.inl ⟨by rfl, fun w' hS => by (try dsimp only at hS); go_simp⟩) hS0 ?_
  simp only [Act.put, List.setIfInBounds_toArray, List.set_cons_zero, List.set_cons_succ]
  refine wpAnyH_take (i := 7) (oi := { dst := some 39, op := Op.load 3 (Operand.tmp 38), type := 3, pos := _, after := #[{ on := 6, ground := Ground.data }], guard := none }) (v := (.int .i64 q)) rfl (by kernel_rfl) (by kernel_rfl) (by kernel_rfl) (fun _ _ _ h => h) (Or.inl ⟨by rfl, fun w' hS => by (try dsimp only at hS); go_simp⟩) hS0 ?_
  simp only [Act.put, List.setIfInBounds_toArray, List.set_cons_zero, List.set_cons_succ]
  refine wpAnyH_take (i := 8) (oi := { dst := some 40, op := Op.indexAddr 27 (Operand.tmp 33) (Operand.tmp 39), type := 0, pos := _, after := #[{ on := 1, ground := Ground.data }, { on := 7, ground := Ground.data }], guard := none }) (v := (.pointer (some ⟨bl, q, none⟩))) rfl (by kernel_rfl) (by kernel_rfl) (by kernel_rfl) (fun _ _ _ h => h) (Or.inl ⟨by rfl, fun w' hS => by (try dsimp only at hS); go_simp⟩) hS0 ?_
  simp only [Act.put, List.setIfInBounds_toArray, List.set_cons_zero, List.set_cons_succ]
  refine wpAnyH_take (i := 9) (oi := { dst := some 41, op := Op.load 147 (Operand.tmp 40), type := 147, pos := _, after := #[{ on := 8, ground := Ground.data }], guard := none }) (v := (.slice (some ⟨gb, 0, none⟩) 4 (C q))) rfl (by kernel_rfl) (by kernel_rfl) (by kernel_rfl) (fun _ _ _ h => h) (Or.inl ⟨by rfl, fun w' hS => by (try dsimp only at hS); go_simp⟩) hS0 ?_
  simp only [Act.put, List.setIfInBounds_toArray, List.set_cons_zero, List.set_cons_succ]
  refine wpAnyH_take (i := 13) (oi := { dst := some 45, op := Op.indexAddr 147 (Operand.tmp 41) (Operand.tmp 43), type := 0, pos := _, after := #[{ on := 9, ground := Ground.data }, { on := 11, ground := Ground.data }, { on := 0, ground := Ground.phase }, { on := 1, ground := Ground.phase }, { on := 2, ground := Ground.phase }, { on := 3, ground := Ground.phase }, { on := 4, ground := Ground.phase }, { on := 5, ground := Ground.phase }, { on := 6, ground := Ground.phase }, { on := 7, ground := Ground.phase }, { on := 8, ground := Ground.phase }, { on := 9, ground := Ground.phase }, { on := 10, ground := Ground.phase }, { on := 11, ground := Ground.phase }, { on := 12, ground := Ground.phase }], guard := none }) (v := (.pointer (some ⟨gb, j * 2, none⟩))) rfl (by kernel_rfl) (by kernel_rfl) (by kernel_rfl) (fun _ _ _ h => h) (Or.inl ⟨by rfl, fun w' hS => by (try dsimp only at hS); go_simp⟩) hS0 ?_
  simp only [Act.put, List.setIfInBounds_toArray, List.set_cons_zero, List.set_cons_succ]
  refine wpAnyH_take (i := 14) (oi := { dst := some 46, op := Op.fieldAddr 144 (Operand.tmp 45) 1, type := 0, pos := _, after := #[{ on := 13, ground := Ground.data }, { on := 0, ground := Ground.phase }, { on := 1, ground := Ground.phase }, { on := 2, ground := Ground.phase }, { on := 3, ground := Ground.phase }, { on := 4, ground := Ground.phase }, { on := 5, ground := Ground.phase }, { on := 6, ground := Ground.phase }, { on := 7, ground := Ground.phase }, { on := 8, ground := Ground.phase }, { on := 9, ground := Ground.phase }, { on := 10, ground := Ground.phase }, { on := 11, ground := Ground.phase }, { on := 12, ground := Ground.phase }], guard := none }) (v := (.pointer (some ⟨gb, j * 2 + 1, none⟩))) rfl (by kernel_rfl) (by kernel_rfl) (by kernel_rfl) (fun _ _ _ h => h) (Or.inl ⟨by rfl, fun w' hS => by (try dsimp only at hS); go_simp⟩) hS0 ?_
  simp only [Act.put, List.setIfInBounds_toArray, List.set_cons_zero, List.set_cons_succ]
  refine wpAnyH_ready (rs := [15]) (by kernel_rfl) (by simp) ?_
  refine AllReadyH.cons (o := { dst := none, op := Op.store 3 (Operand.tmp 46) (Operand.tmp 44), type := 0, pos := _, after := #[{ on := 14, ground := Ground.data }, { on := 12, ground := Ground.data }, { on := 0, ground := Ground.phase }, { on := 1, ground := Ground.phase }, { on := 2, ground := Ground.phase }, { on := 3, ground := Ground.phase }, { on := 4, ground := Ground.phase }, { on := 5, ground := Ground.phase }, { on := 6, ground := Ground.phase }, { on := 7, ground := Ground.phase }, { on := 8, ground := Ground.phase }, { on := 9, ground := Ground.phase }, { on := 10, ground := Ground.phase }, { on := 11, ground := Ground.phase }, { on := 12, ground := Ground.phase }], guard := none }) rfl (fun K hK => ?_) AllReadyH.nil
  go_simp
  have mS : Mod (fun x => x = gb) wd (wd.setCell ⟨gb, j * 2 + 1, none⟩ (.int .i64 y)) := Mod.setCell (X := fun x => x = gb) _ (p := ⟨gb, j * 2 + 1, none⟩) rfl _
  have hSt := And.intro (mS.cell x0 (fun e => n1 e.symm)) (And.intro (mS.cell x1 (fun e => n1 e.symm)) (And.intro (mS.cell tp (fun e => n2 e.symm)) (mS.cell ls (fun e => n3 e.symm))))
  clear mS
  refine hK.out _ _ hSt (fun hB => ?_)
  clear hK K hB
  try simp only [Act.put, List.setIfInBounds_toArray, List.set_cons_zero, List.set_cons_succ]
  refine wpAnyH_done (by kernel_rfl) ?_ _
  refine NoPanic.normal ?_
  clear hSt hS0 x0 x1 tp ls f1 l1
  replace HB : Hid (Blw w (wd.setCell ⟨gb, j * 2 + 1, none⟩ (.int .i64 y))) := HB'.out
  replace HR : Hid (Row (wd.setCell ⟨gb, j * 2 + 1, none⟩ (.int .i64 y)) (w.heap.size + 1) 2 (fun i => if i = 0 then .slice none 0 0 else .slice none 0 0)) := HR'.out
  clear HB' HR'
  generalize wd.setCell ⟨gb, j * 2 + 1, none⟩ (.int .i64 y) = WF at *
  have hzr := HR.out.lt
  have hzb := HOTF.out.nb.2.2
  have FIN : Hid _ := fin_givesT (out := chOut ⟨4, c, ⟨kn, len, p, m⟩⟩ (x : Int) (fun _ oy => ¬ oy = 0 ∧ mayOK y) (fun o => o) y) (w := w) (W := WF) (z := w.heap.size + 1) (b := ⟨some ⟨bt, 0, none⟩, some ⟨bl, 0, none⟩, c1, c2⟩) (R := ⟨4, c, ⟨kn, fun _ => 4, p, upd2 m q j y⟩⟩) (by omega) HOUT.out (tot4 (c := c) hk4) HB.out (HOTF.out.own hk4) (fun x hx => ⟨by omega, by omega, hx.2⟩)
  obtain ⟨t0, t1⟩ := get2 HR.out
  obtain ⟨s0, s1⟩ := get2 HOTF.out.box
  have f0 := HR.out.frozen 0
  have f1 := HR.out.frozen 1
  clear HR HB HOTF HOUT hzr hzb
  go_wp2
  exact bodyPost_ret (v := .tuple #[(BV.mk (some ⟨bt, 0, none⟩) (some ⟨bl, 0, none⟩) c1 c2).val ⟨4, c, ⟨kn, fun _ => 4, p, upd2 m q j y⟩⟩, .bool true]) (by simp [results, Try.results149, go_sem, t0, t1]) rfl FIN.out
end Go.Proofs.Ytjplodenflkghaa
/- UnmapPage: the model's. -/
namespace Go.Proofs.Ytjplodenflkghaa
open Go.RowKit
set_option linter.unusedSimpArgs false
set_option linter.unusedVariables false
theorem zero_noMay {kn q j : Nat} {c : Nat → Int} {len : Nat → Nat} {p m : Nat → Nat → Int} (g : BD.Good ⟨4, c, ⟨kn, len, p, m⟩⟩) (hq : q < kn) : isZero8 (upd2 p q j 0 q) (upd2 m q j 0 q) ↔ noMay (upd2 m q j 0 q) 4 := by
  constructor
  · intro h i hi
    rw [(h i hi).2]; omega
  · intro h i hi
    have hm := h i hi
    unfold upd2 at *
    by_cases e : i = j
    · simp [e]
    · have e2 : ¬ (q = q ∧ i = j) := fun k => e k.2
      rw [if_neg e2] at hm
      rw [if_neg e2, if_neg e2]
      have hl := (g.leaf q hq).2 i hi
      have hl' : leafOK (p q i) (m q i) := hl
      unfold leafOK at hl'
      omega
set_option maxRecDepth 10000 in
set_option maxHeartbeats 6400000 in
theorem specUnmap_any (b : BV) (B : BD) (a : Int) (Y : Nat → Prop) (w : World) (hn : B.n ≤ 1048576) (h : BookAt Y w b B) :
    Calls Try.prog 148 #[b.val B, .int .i64 a] w (GivesB (chOut B a (fun _ oy => ¬ oy = 0) (fun _ => 0) 0) w) := by
  have hA1 : Blw w (w.alloc (.cells #[.slice b.a1 B.n b.c1, .slice b.a2 B.D.n b.c2] 29)) := (Blw.refl _).alloc _
  have hA2 : Blw (w.alloc (.cells #[.slice b.a1 B.n b.c1, .slice b.a2 B.D.n b.c2] 29)) ((w.alloc (.cells #[.slice b.a1 B.n b.c1, .slice b.a2 B.D.n b.c2] 29)).alloc (.cells #[.slice none 0 0, .slice none 0 0] 29)) := (Blw.refl _).alloc _
  have HB : Hid (Blw w ((w.alloc (.cells #[.slice b.a1 B.n b.c1, .slice b.a2 B.D.n b.c2] 29)).alloc (.cells #[.slice none 0 0, .slice none 0 0] 29))) := hA1.trans hA2
  have rR := box2 (w.alloc (.cells #[.slice b.a1 B.n b.c1, .slice b.a2 B.D.n b.c2] 29)) (.slice none 0 0) (.slice none 0 0) 29
  rw [World.size_alloc] at rR
  have HR : Hid (Row ((w.alloc (.cells #[.slice b.a1 B.n b.c1, .slice b.a2 B.D.n b.c2] 29)).alloc (.cells #[.slice none 0 0, .slice none 0 0] 29)) (w.heap.size + 1) 2 (fun i => if i = 0 then .slice none 0 0 else .slice none 0 0)) := rR
  have HA : Hid (BookAt Y ((w.alloc (.cells #[.slice b.a1 B.n b.c1, .slice b.a2 B.D.n b.c2] 29)).alloc (.cells #[.slice none 0 0, .slice none 0 0] 29)) b B) := h.blw (hA1.trans hA2)
  have HA0 : Hid (Row ((w.alloc (.cells #[.slice b.a1 B.n b.c1, .slice b.a2 B.D.n b.c2] 29)).alloc (.cells #[.slice none 0 0, .slice none 0 0] 29)) w.heap.size 2 (fun i => if i = 0 then .slice b.a1 B.n b.c1 else .slice b.a2 B.D.n b.c2)) := (box2 w _ _ 29).blw hA2
  have HSZ : Hid (w.heap.size + 1 + 1 = ((w.alloc (.cells #[.slice b.a1 B.n b.c1, .slice b.a2 B.D.n b.c2] 29)).alloc (.cells #[.slice none 0 0, .slice none 0 0] 29)).heap.size) := by show _ = _; simp
  clear hA1 hA2 rR h
  go_enter Try.func148, Try.ntmps148
  obtain ⟨p0, p1⟩ := get2 HA0.out
  go_wp2_with fail
  clear p0 p1
  generalize ((w.alloc (.cells #[.slice b.a1 B.n b.c1, .slice b.a2 B.D.n b.c2] 29)).alloc (.cells #[.slice none 0 0, .slice none 0 0] 29)) = w0 at *
  refine (specGood_any b B Y _ hn HA.out).mono ?_
  rintro e w1 ⟨r, rfl, hr, hb1⟩
  have HT : Hid (r = true ↔ B.Good) := hr
  replace HSZ : Hid (w.heap.size + 1 + 1 ≤ w1.heap.size) := by have := HSZ.out; have := hb1.size; show _ ≤ _; omega
  replace HB : Hid (Blw w w1) := HB.out.trans hb1
  replace HR : Hid (Row w1 (w.heap.size + 1) 2 (fun i => if i = 0 then .slice none 0 0 else .slice none 0 0)) := HR.out.blw hb1
  replace HA0 : Hid (Row w1 w.heap.size 2 (fun i => if i = 0 then .slice b.a1 B.n b.c1 else .slice b.a2 B.D.n b.c2)) := HA0.out.blw hb1
  replace HA : Hid (BookAt Y w1 b B) := HA.out.blw hb1
  clear hr hb1
  cases r
  · have HN : Hid (¬ B.Good) := fun g => by have := HT.out.2 g; simp at this
    clear HT
    obtain ⟨t0, t1⟩ := get2 HR.out
    have f0 := HR.out.frozen 0
    have f1 := HR.out.frozen 1
    clear HR HA0
    go_wp2
    exact bodyPost_ret (v := .tuple #[BV.zero.val BD.zero, .bool false]) (by simp [results, Try.results148, go_sem, t0, t1]) rfl (zero_givesT (z := w.heap.size + 1) (by omega) (Or.inr ⟨fun q => HN.out q.1, rfl, rfl⟩) HB.out)
  have HG : Hid (B.Good) := HT.out.1 (by first | rfl | trivial)
  clear HT
  go_wp2_with fail
  refine (l6At_any a _).mono ?_
  rintro e w1 ⟨r, rfl, hr, rfl⟩
  have HT : Hid (r = true ↔ pgOK a) := hr
  clear hr
  cases r
  · have HN : Hid (¬ pgOK a) := fun g => by have := HT.out.2 g; simp at this
    clear HT
    obtain ⟨t0, t1⟩ := get2 HR.out
    have f0 := HR.out.frozen 0
    have f1 := HR.out.frozen 1
    clear HR HA0
    go_wp2
    exact bodyPost_ret (v := .tuple #[BV.zero.val BD.zero, .bool false]) (by simp [results, Try.results148, go_sem, t0, t1]) rfl (zero_givesT (z := w.heap.size + 1) (by omega) (Or.inr ⟨fun q => HN.out q.2.1, rfl, rfl⟩) HB.out)
  have H1 : Hid (pgOK a) := HT.out.1 (by first | rfl | trivial)
  clear HT
  obtain ⟨n, c, ⟨kn, len, p, m⟩⟩ := B
  obtain ⟨a1, a2, q1, q2⟩ := b
  have hn4 : n = 4 := HG.out.n
  subst hn4
  have hk4 : kn ≤ 4 := HG.out.k.2
  have hk1 : 0 < kn := HG.out.k.1
  simp only [BV.val] at *
  obtain ⟨x, hx, hx16⟩ : ∃ x : Nat, a = x ∧ x < 16 := ⟨a.toNat, by have := H1.out; unfold pgOK at this; omega, by have := H1.out; unfold pgOK at this; omega⟩
  subst hx
  have HN0 : Hid (0 ≤ lfP c m x) := lf_nonneg HG.out hx16
  obtain ⟨p0, p1⟩ := get2 HA0.out
  have hfm := fieldMay (lfP c p x) (lfP c m x)
  go_wp2_with fail
  clear p0 p1
  refine (l6Find_any ⟨a1, a2, q1, q2⟩ c kn len p m x Y _ HG.out hx16 HA.out).mono ?_
  rintro e w2 ⟨rfl, hb2⟩
  replace HB : Hid (Blw w w2) := HB.out.trans hb2
  replace HSZ : Hid (w.heap.size + 1 + 1 ≤ w2.heap.size) := by have := HSZ.out; have := hb2.size; show _ ≤ _; omega
  replace HR : Hid (Row w2 (w.heap.size + 1) 2 (fun i => if i = 0 then .slice none 0 0 else .slice none 0 0)) := HR.out.blw hb2
  replace HA0 : Hid (Row w2 w.heap.size 2 (fun i => if i = 0 then .slice a1 4 q1 else .slice a2 kn q2)) := HA0.out.blw hb2
  replace HA : Hid (BookAt Y w2 ⟨a1, a2, q1, q2⟩ ⟨4, c, ⟨kn, len, p, m⟩⟩) := HA.out.blw hb2
  clear hb2
  by_cases h0 : lfP c m x = 0
  · have HN : Hid (lfP c m x = 0) := h0
    have d1 : (lfP c m x == 0) = true := by simp [h0]
    clear h0
    obtain ⟨t0, t1⟩ := get2 HR.out
    have f0 := HR.out.frozen 0
    have f1 := HR.out.frozen 1
    clear HR HA0
    go_wp2
    exact bodyPost_ret (v := .tuple #[BV.zero.val BD.zero, .bool false]) (by simp [results, Try.results148, go_sem, t0, t1]) rfl (zero_givesT (z := w.heap.size + 1) (by omega) (Or.inr ⟨fun q => q.2.2.1 (by rw [Int.toNat_natCast]; exact HN.out), rfl, rfl⟩) HB.out)
  have HN : Hid (¬ lfP c m x = 0) := h0
  have d1 : (lfP c m x == 0) = false := by simp [h0]
  clear h0
  obtain ⟨p0, p1⟩ := get2 HA0.out
  go_wp2_with fail
  clear p0 p1 hfm
  refine (l6Own_any ⟨a1, a2, q1, q2⟩ c kn len p m Y _ hk4 (fun i hi => (HG.out.leaf i hi).1) HA.out).mono ?_
  rintro e w3 ⟨b3, rfl, own, hb3⟩
  have hs3 := HSZ.out
  have hs4 := hb3.size
  obtain ⟨bt, bl, c1, c2, A, C, Z, X, rfl, hOT⟩ := OT.make (lo := w.heap.size + 1 + 1) hk1 (own.mono (fun x hx => ⟨by omega, hx.2⟩)) (by omega)
  have hA3 : Blw w3 (w3.alloc (.cells #[.slice (some ⟨bt, 0, none⟩) 4 c1, .slice (some ⟨bl, 0, none⟩) kn c2] 29)) := (Blw.refl _).alloc _
  have HOT : Hid (OT (w.heap.size + 1 + 1) w3.heap.size (w3.alloc (.cells #[.slice (some ⟨bt, 0, none⟩) 4 c1, .slice (some ⟨bl, 0, none⟩) kn c2] 29)) bt bl c1 c2 c kn p m A C Z X) := hOT
  replace HB : Hid (Blw w (w3.alloc (.cells #[.slice (some ⟨bt, 0, none⟩) 4 c1, .slice (some ⟨bl, 0, none⟩) kn c2] 29))) := HB.out.trans (hb3.trans hA3)
  replace HR : Hid (Row (w3.alloc (.cells #[.slice (some ⟨bt, 0, none⟩) 4 c1, .slice (some ⟨bl, 0, none⟩) kn c2] 29)) (w.heap.size + 1) 2 (fun i => if i = 0 then .slice none 0 0 else .slice none 0 0)) := HR.out.blw (hb3.trans hA3)
  have hd : Int.tdiv (x : Int) 4 = ((x / 4 : Nat) : Int) := by rw [Int.tdiv_eq_ediv_of_nonneg (by omega)]; rfl
  have hr : Int.tmod (x : Int) 4 = ((x % 4 : Nat) : Int) := by rw [Int.tmod_eq_emod_of_nonneg (by omega)]; rfl
  have hd4 : x / 4 < 4 := by omega
  have hr4 : x % 4 < 4 := by omega
  have hd4' : ((x / 4 : Nat) : Int) < 4 := by omega
  have hr4' : ((x % 4 : Nat) : Int) < 4 := by omega
  have htop := HG.out.top (x / 4) hd4
  dsimp only at htop
  clear own hb3 hA3 hs3 hs4 hOT HA HA0
  obtain ⟨q, hcq, hqk⟩ := lf_top HN.out htop
  have HCQ : Hid (c (x / 4) = q) := hcq
  have hqk' : (q : Int) < (kn : Int) := by omega
  have HZM : Hid (isZero8 (upd2 p q (x % 4) 0 q) (upd2 m q (x % 4) 0 q) ↔ noMay (upd2 m q (x % 4) 0 q) 4) := zero_noMay HG.out hqk
  have HOUT : Hid (∀ c', c' = topsOf c (x / 4) q (upd2 p q (x % 4) 0 q) (upd2 m q (x % 4) 0 q) → chOut ⟨4, c, ⟨kn, len, p, m⟩⟩ (x : Int) (fun _ oy => ¬ oy = 0) (fun _ => 0) 0 ⟨4, c', ⟨kn, fun _ => 4, upd2 p q (x % 4) 0, upd2 m q (x % 4) 0⟩⟩ true) := by
    rintro c' rfl
    refine Or.inl ⟨⟨HG.out, H1.out, by rw [Int.toNat_natCast]; exact HN.out, q, by rw [Int.toNat_natCast]; exact Or.inl hcq⟩, ⟨q, by rw [Int.toNat_natCast]; exact Or.inl hcq, ?_⟩, rfl⟩
    rw [Int.toNat_natCast]
    rfl
  clear hcq htop HN HN0
  go_upto_region 4 with fail
  generalize w3.alloc (.cells #[.slice (some ⟨bt, 0, none⟩) 4 c1, .slice (some ⟨bl, 0, none⟩) kn c2] 29) = W at *
  generalize w3.heap.size = zb at *
  obtain ⟨gb, ea, n1, n2, n3, hlo, hr8, hs2, -⟩ := HOT.out.leaf hqk hr4
  generalize x / 4 = t at *
  generalize x % 4 = j at *
  obtain ⟨x0, x1⟩ := get2 HOT.out.box
  have tp := HOT.out.top.cell hd4
  rw [HCQ.out] at tp
  have ls := HOT.out.ls.row.cell hqk
  dsimp only at ls
  rw [ea] at ls
  have f0 := hr8.frozen (j * 2)
  have f1 := hr8.frozen (j * 2 + 1)
  have l0 : W.cell? ⟨gb, j * 2, none⟩ = some (.int .i64 (p q j)) := by rw [hr8.cell (i := j * 2) (by omega), (uc_at _ _ j).1]
  have l1 : W.cell? ⟨gb, j * 2 + 1, none⟩ = some (.int .i64 (m q j)) := by rw [hr8.cell (i := j * 2 + 1) (by omega), (uc_at _ _ j).2]
  have HOTF : Hid (OT (w.heap.size + 1 + 1) zb ((W.setCell ⟨gb, j * 2, none⟩ (.int .i64 0)).setCell ⟨gb, j * 2 + 1, none⟩ (.int .i64 0)) bt bl c1 c2 c kn (upd2 p q j 0) (upd2 m q j 0) A C Z X) := hs2 0 0
  have ms : Mod (fun x => x = gb) W ((W.setCell ⟨gb, j * 2, none⟩ (.int .i64 0)).setCell ⟨gb, j * 2 + 1, none⟩ (.int .i64 0)) := (Mod.setCell (X := fun x => x = gb) _ (p := ⟨gb, j * 2, none⟩) rfl _).trans (Mod.setCell (X := fun x => x = gb) _ (p := ⟨gb, j * 2 + 1, none⟩) rfl _)
  replace HB : Hid (Blw w ((W.setCell ⟨gb, j * 2, none⟩ (.int .i64 0)).setCell ⟨gb, j * 2 + 1, none⟩ (.int .i64 0))) := Mod.blw HB.out ms (fun i hi => by omega)
  replace HR : Hid (Row ((W.setCell ⟨gb, j * 2, none⟩ (.int .i64 0)).setCell ⟨gb, j * 2 + 1, none⟩ (.int .i64 0)) (w.heap.size + 1) 2 (fun i => if i = 0 then .slice none 0 0 else .slice none 0 0)) := HR.out.mod ms (by omega)
  have EA : Hid (A q = some ⟨gb, 0, none⟩) := ea
  clear hs2 hr8 ms HOT ea hlo
  go_upto_region 7 with fail
  clear x0 x1 tp ls f0 f1 l0 l1
  generalize ((W.setCell ⟨gb, j * 2, none⟩ (.int .i64 0)).setCell ⟨gb, j * 2 + 1, none⟩ (.int .i64 0)) = W2 at *
  generalize upd2 p q j 0 = p' at *
  generalize upd2 m q j 0 = m' at *
  obtain ⟨x0, x1⟩ := get2 HOTF.out.box
  have ls := HOTF.out.ls.row.cell hqk
  dsimp only at ls
  rw [EA.out] at ls
  go_wp2_with fail
  clear x0 x1 ls
  refine (l6Empty_any _ _ 4 (p' q) (m' q) _ _ (by have h1 := (HOTF.out.ls.own q hqk).at; dsimp only at h1; rw [EA.out] at h1; exact h1)).mono ?_
  rintro e W3 ⟨r, rfl, hr3, hb3⟩
  replace HOTF : Hid (OT (w.heap.size + 1 + 1) zb W3 bt bl c1 c2 c kn p' m' A C Z X) := HOTF.out.go hb3
  replace HB : Hid (Blw w W3) := HB.out.trans hb3
  replace HR : Hid (Row W3 (w.heap.size + 1) 2 (fun i => if i = 0 then .slice none 0 0 else .slice none 0 0)) := HR.out.blw hb3
  have HRZ : Hid (r = true ↔ isZero8 (p' q) (m' q)) := hr3.trans HZM.out.symm
  clear hr3 hb3 HZM
  cases r
  · have hc' : c = topsOf c t q (p' q) (m' q) := by rw [topsOf_no (fun g => by have := HRZ.out.2 g; simp at this), upd_self HCQ.out]
    replace HOUT : Hid (chOut ⟨4, c, ⟨kn, len, p, m⟩⟩ (x : Int) (fun _ oy => ¬ oy = 0) (fun _ => 0) 0 ⟨4, c, ⟨kn, fun _ => 4, p', m'⟩⟩ true) := HOUT.out c hc'
    clear hc' HRZ HCQ
    have hzr := HR.out.lt
    have hzb := HOTF.out.nb.2.2
    have FIN : Hid _ := fin_givesT (out := chOut ⟨4, c, ⟨kn, len, p, m⟩⟩ (x : Int) (fun _ oy => ¬ oy = 0) (fun _ => 0) 0) (w := w) (W := W3) (z := w.heap.size + 1) (b := ⟨some ⟨bt, 0, none⟩, some ⟨bl, 0, none⟩, c1, c2⟩) (R := ⟨4, c, ⟨kn, fun _ => 4, p', m'⟩⟩) (by omega) HOUT.out (tot4 (c := c) hk4) HB.out (HOTF.out.own hk4) (fun x hx => ⟨by omega, by omega, hx.2⟩)
    obtain ⟨t0, t1⟩ := get2 HR.out
    obtain ⟨s0, s1⟩ := get2 HOTF.out.box
    have f0 := HR.out.frozen 0
    have f1 := HR.out.frozen 1
    clear HR HB HOTF HOUT hzr hzb
    go_wp2
    exact bodyPost_ret (v := .tuple #[(BV.mk (some ⟨bt, 0, none⟩) (some ⟨bl, 0, none⟩) c1 c2).val ⟨4, c, ⟨kn, fun _ => 4, p', m'⟩⟩, .bool true]) (by simp [results, Try.results148, go_sem, t0, t1]) rfl FIN.out
  · have hc' : upd c t (-1) = topsOf c t q (p' q) (m' q) := by rw [topsOf_yes (HRZ.out.1 (by first | rfl | trivial))]
    replace HOUT : Hid (chOut ⟨4, c, ⟨kn, len, p, m⟩⟩ (x : Int) (fun _ oy => ¬ oy = 0) (fun _ => 0) 0 ⟨4, upd c t (-1), ⟨kn, fun _ => 4, p', m'⟩⟩ true) := HOUT.out _ hc'
    clear hc' HRZ
    obtain ⟨x0, x1⟩ := get2 HOTF.out.box
    have tp := HOTF.out.top.cell hd4
    have f0 := HOTF.out.top.frozen t
    have ms : Mod (fun x => x = bt) W3 (W3.setCell ⟨bt, t, none⟩ (.int .i64 (-1))) := Mod.setCell (X := fun x => x = bt) _ (p := ⟨bt, t, none⟩) rfl _
    have hb := HOTF.out.nb
    replace HOTF : Hid (OT (w.heap.size + 1 + 1) zb (W3.setCell ⟨bt, t, none⟩ (.int .i64 (-1))) bt bl c1 c2 (upd c t (-1)) kn p' m' A C Z X) := HOTF.out.setTop t (-1)
    replace HB : Hid (Blw w (W3.setCell ⟨bt, t, none⟩ (.int .i64 (-1)))) := Mod.blw HB.out ms (fun i hi => by omega)
    replace HR : Hid (Row (W3.setCell ⟨bt, t, none⟩ (.int .i64 (-1))) (w.heap.size + 1) 2 (fun i => if i = 0 then .slice none 0 0 else .slice none 0 0)) := HR.out.mod ms (by omega)
    clear ms hb HCQ
    go_upto_region 9 with fail
    clear x0 x1 tp f0
    generalize W3.setCell ⟨bt, t, none⟩ (.int .i64 (-1)) = W4 at *
    have hzr := HR.out.lt
    have hzb := HOTF.out.nb.2.2
    have FIN : Hid _ := fin_givesT (out := chOut ⟨4, c, ⟨kn, len, p, m⟩⟩ (x : Int) (fun _ oy => ¬ oy = 0) (fun _ => 0) 0) (w := w) (W := W4) (z := w.heap.size + 1) (b := ⟨some ⟨bt, 0, none⟩, some ⟨bl, 0, none⟩, c1, c2⟩) (R := ⟨4, upd c t (-1), ⟨kn, fun _ => 4, p', m'⟩⟩) (by omega) HOUT.out (tot4 (c := c) hk4) HB.out (HOTF.out.own hk4) (fun x hx => ⟨by omega, by omega, hx.2⟩)
    obtain ⟨t0, t1⟩ := get2 HR.out
    obtain ⟨s0, s1⟩ := get2 HOTF.out.box
    have f0 := HR.out.frozen 0
    have f1 := HR.out.frozen 1
    clear HR HB HOTF HOUT hzr hzb
    go_wp2
    exact bodyPost_ret (v := .tuple #[(BV.mk (some ⟨bt, 0, none⟩) (some ⟨bl, 0, none⟩) c1 c2).val ⟨4, upd c t (-1), ⟨kn, fun _ => 4, p', m'⟩⟩, .bool true]) (by simp [results, Try.results148, go_sem, t0, t1]) rfl FIN.out
end Go.Proofs.Ytjplodenflkghaa
/- Tables that are changed: what stands at each place. -/
namespace Go.Proofs.Ytjplodenflkghaa
open Go.RowKit
set_option linter.unusedSimpArgs false
set_option linter.unusedVariables false
theorem div_mod_ne {a x : Nat} (h : a ≠ x) (e : a / 4 = x / 4) : a % 4 ≠ x % 4 := by omega
theorem lt_q {B : BD} (g : B.Good) {t q : Nat} (ht : t < 4) (h : goes B.c B.D.n t q) : q < B.D.n := by
  rcases h with h | ⟨_, h⟩
  · have := g.top t (by rw [g.n]; exact ht); rw [h] at this; omega
  · exact h.1
/-- No other top has the list that a leaf comes into. -/
theorem other_top {B : BD} (g : B.Good) {t q i : Nat} (ht : t < 4) (hi : i < 4) (hne : i ≠ t) (h : goes B.c B.D.n t q) : ¬ B.c i = (q : Int) := by
  intro e
  rcases h with h | ⟨_, h⟩
  · rcases Nat.lt_or_gt_of_ne hne with h1 | h1
    · exact g.dis t i (by rw [g.n]; exact ht) h1 (by omega) (by rw [e, h])
    · exact g.dis i t (by rw [g.n]; exact hi) h1 (by omega) (by rw [e, h])
  · exact h.2.1 ⟨i, hi, e⟩
theorem idle_zero {B : BD} (g : B.Good) {t q j : Nat} (hj : j < 4) (hc : B.c t = -1) (h : isIdle B.c B.D.n q) : B.D.p q j = 0 ∧ B.D.m q j = 0 := by
  have h1 := g.idle q h.1 (fun i hi e => h.2.1 ⟨i, by rw [g.n] at hi; exact hi, e⟩) j hj
  have h2 := (g.leaf q h.1).2 j hj
  unfold leafOK at h2
  omega
theorem ch_good {B : BD} (g : B.Good) {x q : Nat} {gp y : Int} (hx : x < 16) (h : goes B.c B.D.n (x / 4) q) (hl : leafOK gp y) : (chB B x q gp y).Good := by
  have hq := lt_q g (by omega) h
  have hn := g.n
  have hgn : ∀ i, i < 4 → i < B.n := fun i hi => by rw [hn]; exact hi
  refine ⟨rfl, g.k, fun i hi => ⟨rfl, fun j hj => ?_⟩, fun i hi => ?_, fun i j hi hj h0 e => ?_, fun k hk hno j hj => ?_⟩
  · show leafOK (upd2 B.D.p q (x % 4) gp i j) (upd2 B.D.m q (x % 4) y i j)
    unfold upd2
    by_cases e : i = q ∧ j = x % 4
    · rw [if_pos e, if_pos e]; exact hl
    · rw [if_neg e, if_neg e]; exact (g.leaf i hi).2 j hj
  · show -1 ≤ topsOf B.c (x / 4) q _ _ i ∧ topsOf B.c (x / 4) q _ _ i ≤ (B.D.n : Int) - 1
    have hi4 : i < 4 := hi
    have ht := g.top i (hgn i hi4)
    by_cases hz : isZero8 (upd2 B.D.p q (x % 4) gp q) (upd2 B.D.m q (x % 4) y q)
    · rw [topsOf_yes hz]; unfold upd; split
      · have := g.k; omega
      · exact ht
    · rw [topsOf_no hz]; unfold upd; split
      · omega
      · exact ht
  · have hi4 : i < 4 := hi
    replace h0 : 0 ≤ topsOf B.c (x / 4) q (upd2 B.D.p q (x % 4) gp q) (upd2 B.D.m q (x % 4) y q) i := h0
    replace e : topsOf B.c (x / 4) q (upd2 B.D.p q (x % 4) gp q) (upd2 B.D.m q (x % 4) y q) j = topsOf B.c (x / 4) q (upd2 B.D.p q (x % 4) gp q) (upd2 B.D.m q (x % 4) y q) i := e
    by_cases hz : isZero8 (upd2 B.D.p q (x % 4) gp q) (upd2 B.D.m q (x % 4) y q)
    · rw [topsOf_yes hz] at h0 e
      unfold upd at h0 e
      by_cases e1 : i = x / 4
      · rw [if_pos e1] at h0; omega
      · rw [if_neg e1] at h0 e
        by_cases e2 : j = x / 4
        · rw [if_pos e2] at e; omega
        · rw [if_neg e2] at e; exact g.dis i j (hgn i hi4) hj h0 e
    · rw [topsOf_no hz] at h0 e
      unfold upd at h0 e
      by_cases e1 : i = x / 4
      · have e2 : ¬ j = x / 4 := by omega
        rw [if_pos e1, if_neg e2] at e
        exact other_top g (by omega) (by omega) e2 h e
      · rw [if_neg e1] at h0 e
        by_cases e2 : j = x / 4
        · rw [if_pos e2] at e; exact other_top g (by omega) hi4 e1 h e.symm
        · rw [if_neg e2] at e; exact g.dis i j (hgn i hi4) hj h0 e
  · have hno2 : ∀ i, i < 4 → ¬ topsOf B.c (x / 4) q (upd2 B.D.p q (x % 4) gp q) (upd2 B.D.m q (x % 4) y q) i = (k : Int) := fun i hi => hno i hi
    show ¬ 0 < upd2 B.D.m q (x % 4) y k j
    have hx4 : x / 4 < 4 := by omega
    by_cases hz : isZero8 (upd2 B.D.p q (x % 4) gp q) (upd2 B.D.m q (x % 4) y q)
    · by_cases e : k = q
      · subst e; rw [(hz j hj).2]; omega
      · have h1 : ¬ (k = q ∧ j = x % 4) := fun h => e h.1
        unfold upd2
        rw [if_neg h1]
        refine g.idle k hk (fun i hi ei => ?_) j hj
        have hi4 : i < 4 := by rw [hn] at hi; exact hi
        by_cases e1 : i = x / 4
        · subst e1
          rcases h with h | ⟨h, _⟩
          · omega
          · omega
        · have := hno2 i hi4
          rw [topsOf_yes hz] at this
          unfold upd at this
          rw [if_neg e1] at this
          exact this ei
    · by_cases e : k = q
      · subst e
        have := hno2 (x / 4) hx4
        rw [topsOf_no hz, upd_at] at this
        exact absurd rfl this
      · have h1 : ¬ (k = q ∧ j = x % 4) := fun h => e h.1
        unfold upd2
        rw [if_neg h1]
        refine g.idle k hk (fun i hi ei => ?_) j hj
        have hi4 : i < 4 := by rw [hn] at hi; exact hi
        by_cases e1 : i = x / 4
        · subst e1
          rcases h with h | ⟨h, _⟩
          · omega
          · omega
        · have := hno2 i hi4
          rw [topsOf_no hz] at this
          unfold upd at this
          rw [if_neg e1] at this
          exact this ei
/-- The leaf at each place behind a change. -/
theorem ch_leaf {B : BD} (g : B.Good) {x q a : Nat} {gp y : Int} (hx : x < 16) (ha : a < 16) (h : goes B.c B.D.n (x / 4) q) :
    lfP (chB B x q gp y).c (chB B x q gp y).D.p a = (if a = x then gp else lfP B.c B.D.p a) ∧ lfP (chB B x q gp y).c (chB B x q gp y).D.m a = (if a = x then y else lfP B.c B.D.m a) := by
  show lfP (topsOf B.c (x / 4) q (upd2 B.D.p q (x % 4) gp q) (upd2 B.D.m q (x % 4) y q)) (upd2 B.D.p q (x % 4) gp) a = _ ∧ lfP (topsOf B.c (x / 4) q (upd2 B.D.p q (x % 4) gp q) (upd2 B.D.m q (x % 4) y q)) (upd2 B.D.m q (x % 4) y) a = _
  by_cases et : a / 4 = x / 4
  · by_cases hz : isZero8 (upd2 B.D.p q (x % 4) gp q) (upd2 B.D.m q (x % 4) y q)
    · rw [topsOf_yes hz]
      have hc : ¬ 0 ≤ upd B.c (x / 4) (-1) (a / 4) := by rw [et, upd_at]; omega
      rw [lfP_no hc, lfP_no hc]
      by_cases ea : a = x
      · subst ea
        rw [if_pos rfl, if_pos rfl]
        have := hz (a % 4) (by omega)
        rw [upd2_at, upd2_at] at this
        exact ⟨this.1.symm, this.2.symm⟩
      · rw [if_neg ea, if_neg ea]
        have hm := div_mod_ne ea et
        have hz' := hz (a % 4) (by omega)
        have hu : ∀ (f : Nat → Nat → Int) (v : Int), upd2 f q (x % 4) v q (a % 4) = f q (a % 4) := fun f v => by unfold upd2; rw [if_neg (fun h => hm h.2)]
        rw [hu, hu] at hz'
        rcases h with h | ⟨h, _⟩
        · have h' : B.c (a / 4) = (q : Int) := by rw [et]; exact h
          rw [lfP_yes h', lfP_yes h', hz'.1, hz'.2]
          exact ⟨rfl, rfl⟩
        · have h' : ¬ 0 ≤ B.c (a / 4) := by rw [et, h]; omega
          rw [lfP_no h', lfP_no h']
          exact ⟨rfl, rfl⟩
    · rw [topsOf_no hz]
      have hc : upd B.c (x / 4) q (a / 4) = (q : Int) := by rw [et, upd_at]
      rw [lfP_yes hc, lfP_yes hc]
      by_cases ea : a = x
      · subst ea
        rw [if_pos rfl, if_pos rfl, upd2_at, upd2_at]
        exact ⟨rfl, rfl⟩
      · rw [if_neg ea, if_neg ea]
        have hm := div_mod_ne ea et
        have hu : ∀ (f : Nat → Nat → Int) (v : Int), upd2 f q (x % 4) v q (a % 4) = f q (a % 4) := fun f v => by unfold upd2; rw [if_neg (fun h => hm h.2)]
        rw [hu, hu]
        rcases h with h | ⟨h, hid⟩
        · have h' : B.c (a / 4) = (q : Int) := by rw [et]; exact h
          rw [lfP_yes h', lfP_yes h']
          exact ⟨rfl, rfl⟩
        · have h' : ¬ 0 ≤ B.c (a / 4) := by rw [et, h]; omega
          rw [lfP_no h', lfP_no h']
          have := idle_zero g (j := a % 4) (by omega) h hid
          exact this
  · have ea : ¬ a = x := fun e => et (by rw [e])
    rw [if_neg ea, if_neg ea]
    have hc : topsOf B.c (x / 4) q (upd2 B.D.p q (x % 4) gp q) (upd2 B.D.m q (x % 4) y q) (a / 4) = B.c (a / 4) := by
      by_cases hz : isZero8 (upd2 B.D.p q (x % 4) gp q) (upd2 B.D.m q (x % 4) y q)
      · rw [topsOf_yes hz]; unfold upd; rw [if_neg et]
      · rw [topsOf_no hz]; unfold upd; rw [if_neg et]
    by_cases h0 : 0 ≤ B.c (a / 4)
    · obtain ⟨s, hs⟩ : ∃ s : Nat, B.c (a / 4) = s := ⟨(B.c (a / 4)).toNat, by omega⟩
      have hne : ¬ s = q := fun e => other_top g (by omega) (by omega) et h (by rw [hs, e])
      rw [lfP_yes (hc.trans hs), lfP_yes (hc.trans hs), lfP_yes hs, lfP_yes hs]
      unfold upd2
      rw [if_neg (fun h => hne h.1), if_neg (fun h => hne h.1)]
      exact ⟨rfl, rfl⟩
    · have h1 : ¬ 0 ≤ topsOf B.c (x / 4) q (upd2 B.D.p q (x % 4) gp q) (upd2 B.D.m q (x % 4) y q) (a / 4) := by rw [hc]; exact h0
      rw [lfP_no h1, lfP_no h1, lfP_no h0, lfP_no h0]
      exact ⟨rfl, rfl⟩
theorem lf_ok {B : BD} (g : B.Good) {a : Nat} (ha : a < 16) : leafOK (lfP B.c B.D.p a) (lfP B.c B.D.m a) := by
  have ht := g.top (a / 4) (by rw [g.n]; omega)
  by_cases h0 : 0 ≤ B.c (a / 4)
  · obtain ⟨s, hs⟩ : ∃ s : Nat, B.c (a / 4) = s := ⟨(B.c (a / 4)).toNat, by omega⟩
    rw [lfP_yes hs, lfP_yes hs]
    exact (g.leaf s (by omega)).2 (a % 4) (by omega)
  · rw [lfP_no h0, lfP_no h0]; unfold leafOK; omega
/-- Two good tables that have the same at a place tell the same there. -/
theorem wt_eq {B B' : BD} (g : B.Good) (g' : B'.Good) {a k x y x' y' : Int} {r r' : Bool} (hp : lfP B.c B.D.p a.toNat = lfP B'.c B'.D.p a.toNat) (hm : lfP B.c B.D.m a.toNat = lfP B'.c B'.D.m a.toNat) (h : wtOut B a k x y r) (h' : wtOut B' a k x' y' r') : x = x' ∧ y = y' ∧ r = r' := by
  have e : wtOut B a k x' y' r' := by
    rcases h' with ⟨n, h1, h2, h3⟩ | ⟨n, h1, h2⟩
    · exact Or.inl ⟨fun q => n ⟨g', q.2⟩, h1, h2, h3⟩
    · rw [← hp, ← hm] at h2; rw [← hm] at h1
      exact Or.inr ⟨⟨g, n.2⟩, h1, h2⟩
  exact wtOut_same h e
/-- What a walk of two tables tells alike. -/
def Like (B B' : BD) (nt : Int) : Prop := B.Good ∧ B'.Good ∧ ∀ a : Nat, a < 16 → ¬ (a : Int) = nt → lfP B.c B.D.p a = lfP B'.c B'.D.p a ∧ lfP B.c B.D.m a = lfP B'.c B'.D.m a
theorem Like.walk {B B' : BD} {nt : Int} (h : Like B B' nt) {a : Nat} (ha : a < 16) (hn : ¬ (a : Int) = nt) {k x y x' y' : Int} {r r' : Bool} (h1 : wtOut B a k x y r) (h2 : wtOut B' a k x' y' r') : x = x' ∧ y = y' ∧ r = r' := by
  have := h.2.2 a ha hn
  exact wt_eq h.1 h.2.1 (by rw [Int.toNat_natCast]; exact this.1) (by rw [Int.toNat_natCast]; exact this.2) h1 h2
theorem like_ch {B : BD} (g : B.Good) {x q : Nat} {gp y : Int} (hx : x < 16) (h : goes B.c B.D.n (x / 4) q) (hl : leafOK gp y) : Like B (chB B x q gp y) (x : Int) := by
  refine ⟨g, ch_good g hx h hl, fun a ha hn => ?_⟩
  obtain ⟨h1, h2⟩ := ch_leaf (gp := gp) (y := y) g hx ha h
  have : ¬ a = x := fun e => hn (by rw [e])
  rw [if_neg this] at h1 h2
  exact ⟨h1.symm, h2.symm⟩
/-! ### The lists of places -/
theorem pk_one {P P' : Nat → Bool} {x : Nat} (hP : P x = true) (hP' : P' x = false) (he : ∀ a, a ≠ x → P a = P' a) : ∀ n, (x < n → (pk P n).length = (pk P' n).length + 1) ∧ (n ≤ x → pk P n = pk P' n)
  | 0 => ⟨fun h => absurd h (Nat.not_lt_zero _), fun _ => rfl⟩
  | n + 1 => by
    obtain ⟨h1, h2⟩ := pk_one hP hP' he n
    by_cases e : n = x
    · subst e
      refine ⟨fun _ => ?_, fun h => absurd h (by omega)⟩
      rw [pk_yes hP, pk_no hP', h2 (Nat.le_refl _)]
      simp
    · have hs := he n e
      refine ⟨fun h => ?_, fun h => ?_⟩
      · have h3 := h1 (by omega)
        cases hb : P n
        · rw [pk_no hb, pk_no (hs ▸ hb)]; exact h3
        · rw [pk_yes hb, pk_yes (hs ▸ hb)]; simp; omega
      · have h3 := h2 (by omega)
        cases hb : P n
        · rw [pk_no hb, pk_no (hs ▸ hb)]; exact h3
        · rw [pk_yes hb, pk_yes (hs ▸ hb), h3]
theorem getD_at {l : List Nat} {t : Nat} (h : t < l.length) : l.getD t 0 = l[t] := by simp [List.getD, List.getElem?_eq_getElem h]
theorem has_pk {P : Nat → Bool} {n x : Nat} (hx : x < n) : hasLine (pk P n).length (lf (pk P n)) (x : Int) ↔ P x = true := by
  constructor
  · rintro ⟨t, ht, e⟩
    have h1 : (pk P n).getD t 0 = x := by unfold lf at e; omega
    have h2 : x ∈ pk P n := by
      rw [← h1, getD_at ht]
      exact List.getElem_mem ht
    unfold pk at h2
    exact (List.mem_filter.1 h2).2
  · intro h
    have h2 : x ∈ pk P n := List.mem_filter.2 ⟨List.mem_range.2 hx, h⟩
    obtain ⟨t, ht, e⟩ := List.getElem_of_mem h2
    refine ⟨t, ht, ?_⟩
    unfold lf
    rw [getD_at ht, e]
theorem pk_four {P : Nat → Bool} (n : Nat) : (pk P (n + 4)).length ≤ (pk P n).length + 4 ∧ ((∀ a, n ≤ a → a < n + 4 → P a = false) → (pk P (n + 4)).length = (pk P n).length) := by
  have step : ∀ k, (pk P (k + 1)).length ≤ (pk P k).length + 1 := fun k => by
    cases h : P k
    · rw [pk_no h]; omega
    · rw [pk_yes h]; simp
  refine ⟨by have h0 := step n; have h1 : (pk P (n + 2)).length ≤ (pk P (n + 1)).length + 1 := step (n + 1); have h2 : (pk P (n + 3)).length ≤ (pk P (n + 2)).length + 1 := step (n + 2); have h3 : (pk P (n + 4)).length ≤ (pk P (n + 3)).length + 1 := step (n + 3); omega, fun h => ?_⟩
  show (pk P (n + 3 + 1)).length = _
  rw [pk_no (h (n + 3) (by omega) (by omega))]
  show (pk P (n + 2 + 1)).length = _
  rw [pk_no (h (n + 2) (by omega) (by omega))]
  show (pk P (n + 1 + 1)).length = _
  rw [pk_no (h (n + 1) (by omega) (by omega)), pk_no (h n (by omega) (by omega))]
end Go.Proofs.Ytjplodenflkghaa
/- Flat tables of two: what stands at each place, without any walk. -/
namespace Go.Proofs.Ytjplodenflkghaa
open Go.RowKit
set_option linter.unusedSimpArgs false
set_option linter.unusedVariables false

/-- With four lists there is always one to come into. -/
theorem goes4 {c : Nat → Int} {t : Nat} (ht : t < 4) (hr : -1 ≤ c t ∧ c t ≤ 3) : ∃ q, goes c 4 t q := by
  by_cases h0 : 0 ≤ c t
  · exact ⟨(c t).toNat, Or.inl (by omega)⟩
  have hc : c t = -1 := by omega
  have fin : ∃ q, isIdle c 4 q := by
    by_cases a0 : hasLine 4 c (0 : Int)
    case neg => exact ⟨0, by omega, a0, fun k hk => absurd hk (Nat.not_lt_zero _)⟩
    by_cases a1 : hasLine 4 c (1 : Int)
    case neg => exact ⟨1, by omega, a1, fun k hk => by
      have e : k = 0 := by omega
      subst e
      exact a0⟩
    by_cases a2 : hasLine 4 c (2 : Int)
    case neg => exact ⟨2, by omega, a2, fun k hk => by
      rcases (show k = 0 ∨ k = 1 by omega) with rfl | rfl
      · exact a0
      · exact a1⟩
    by_cases a3 : hasLine 4 c (3 : Int)
    case neg => exact ⟨3, by omega, a3, fun k hk => by
      rcases (show k = 0 ∨ k = 1 ∨ k = 2 by omega) with rfl | rfl | rfl
      · exact a0
      · exact a1
      · exact a2⟩
    exfalso
    obtain ⟨i0, l0, e0⟩ := a0
    obtain ⟨i1, l1, e1⟩ := a1
    obtain ⟨i2, l2, e2⟩ := a2
    obtain ⟨i3, l3, e3⟩ := a3
    have n01 : i0 ≠ i1 := fun e => by rw [e, e1] at e0; omega
    have n02 : i0 ≠ i2 := fun e => by rw [e, e2] at e0; omega
    have n03 : i0 ≠ i3 := fun e => by rw [e, e3] at e0; omega
    have n12 : i1 ≠ i2 := fun e => by rw [e, e2] at e1; omega
    have n13 : i1 ≠ i3 := fun e => by rw [e, e3] at e1; omega
    have n23 : i2 ≠ i3 := fun e => by rw [e, e3] at e2; omega
    have m0 : i0 ≠ t := fun e => by rw [e, hc] at e0; omega
    have m1 : i1 ≠ t := fun e => by rw [e, hc] at e1; omega
    have m2 : i2 ≠ t := fun e => by rw [e, hc] at e2; omega
    have m3 : i3 ≠ t := fun e => by rw [e, hc] at e3; omega
    omega
  obtain ⟨q, hq⟩ := fin
  exact ⟨q, Or.inr ⟨hc, hq⟩⟩
/-- What both may, bit by bit. -/
theorem and_ok {x y : Int} (hx : 0 ≤ x ∧ x ≤ 3) (hy : 0 ≤ y ∧ y ≤ 3) : bits .and .i64 x y = bits .and .i64 y x ∧ (0 ≤ bits .and .i64 x y ∧ bits .and .i64 x y ≤ 3) := by
  rcases (show x = 0 ∨ x = 1 ∨ x = 2 ∨ x = 3 by omega) with rfl | rfl | rfl | rfl <;> rcases (show y = 0 ∨ y = 1 ∨ y = 2 ∨ y = 3 by omega) with rfl | rfl | rfl | rfl <;> decide
theorem and_has {x y k : Int} (hx : 0 ≤ x ∧ x ≤ 3) (hy : 0 ≤ y ∧ y ≤ 3) (hk : 1 ≤ k ∧ k ≤ 3) : hasMay (bits .and .i64 x y) k ↔ hasMay x k ∧ hasMay y k := by
  unfold hasMay
  rcases (show x = 0 ∨ x = 1 ∨ x = 2 ∨ x = 3 by omega) with rfl | rfl | rfl | rfl <;> rcases (show y = 0 ∨ y = 1 ∨ y = 2 ∨ y = 3 by omega) with rfl | rfl | rfl | rfl <;> rcases (show k = 1 ∨ k = 2 ∨ k = 3 by omega) with rfl | rfl | rfl <;> decide
theorem and_some {x y : Int} (hx : 0 ≤ x ∧ x ≤ 3) (hy : 0 ≤ y ∧ y ≤ 3) : ¬ bits .and .i64 x y = 0 ↔ (hasMay x 1 ∧ hasMay y 1) ∨ (hasMay x 2 ∧ hasMay y 2) := by
  unfold hasMay
  rcases (show x = 0 ∨ x = 1 ∨ x = 2 ∨ x = 3 by omega) with rfl | rfl | rfl | rfl <;> rcases (show y = 0 ∨ y = 1 ∨ y = 2 ∨ y = 3 by omega) with rfl | rfl | rfl | rfl <;> decide
theorem has_zero {k : Int} (hk : 1 ≤ k ∧ k ≤ 3) : ¬ hasMay 0 k := by
  unfold hasMay
  rcases (show k = 1 ∨ k = 2 ∨ k = 3 by omega) with rfl | rfl | rfl <;> decide
/-- A nest: a table of the guest and one of the host, each with four lists. -/
structure NGood (G H : BD) : Prop where
  g : G.Good
  h : H.Good
  ng : G.D.n = 4
  nh : H.D.n = 4
abbrev gP (G : BD) (a : Nat) : Int := lfP G.c G.D.p a
abbrev gM (G : BD) (a : Nat) : Int := lfP G.c G.D.m a
def fX (G H : BD) (a : Nat) : Int := gP H (gP G a).toNat
def fY (G H : BD) (a : Nat) : Int := bits .and .i64 (gM H (gP G a).toNat) (gM G a)
theorem leafs {B : BD} (g : B.Good) {a : Nat} (ha : a < 16) : (0 ≤ gP B a ∧ gP B a ≤ 15) ∧ (0 ≤ gM B a ∧ gM B a ≤ 3) ∧ (0 < gM B a ∨ gP B a = 0) := lf_ok g ha
theorem fY_ok {G H : BD} (h : NGood G H) {a : Nat} (ha : a < 16) : 0 ≤ fY G H a ∧ fY G H a ≤ 3 := by
  have h1 := leafs h.g ha
  have h2 := leafs h.h (a := (gP G a).toNat) (by omega)
  exact (and_ok h2.2.1 h1.2.1).2
theorem fX_ok {G H : BD} (h : NGood G H) {a : Nat} (ha : a < 16) : 0 ≤ fX G H a ∧ fX G H a ≤ 15 := by
  have h1 := leafs h.g ha
  exact (leafs h.h (a := (gP G a).toNat) (by omega)).1
/-- The flat table behind the first j places. -/
inductive Fl (G H : BD) : Nat → BD → Prop
  | zero : Fl G H 0 (newB 4)
  | skip {j : Nat} {B : BD} : Fl G H j B → fY G H j = 0 → Fl G H (j + 1) B
  | put {j : Nat} {B : BD} {q : Nat} : Fl G H j B → ¬ fY G H j = 0 → goes B.c B.D.n (j / 4) q → Fl G H (j + 1) (chB B j q (fX G H j) (fY G H j))
theorem Fl.same {G H : BD} : ∀ {j : Nat} {B B' : BD}, Fl G H j B → Fl G H j B' → B = B'
  | 0, _, _, .zero, .zero => rfl
  | j + 1, _, _, .skip h _, .skip h' _ => Fl.same h h'
  | j + 1, _, _, .skip _ e, .put _ n _ => absurd e n
  | j + 1, _, _, .put _ n _, .skip _ e => absurd e n
  | j + 1, _, _, .put h _ g, .put h' _ g' => by
    have e := Fl.same h h'
    subst e
    rw [goes_uniq g g']
theorem newB_good : (newB 4).Good := by
  refine ⟨rfl, by decide, fun i hi => ⟨rfl, fun j hj => by show leafOK 0 0; unfold leafOK; omega⟩, fun i hi => by show (-1 : Int) ≤ -1 ∧ (-1 : Int) ≤ ((4 : Nat) : Int) - 1; omega, fun i j hi hj h0 => by replace h0 : (0 : Int) ≤ -1 := h0; omega, fun k hk _ j hj => by show ¬ (0 : Int) < 0; omega⟩
theorem newB_leaf (a : Nat) : gP (newB 4) a = 0 ∧ gM (newB 4) a = 0 := ⟨lfP_no (by show ¬ (0 : Int) ≤ -1; omega), lfP_no (by show ¬ (0 : Int) ≤ -1; omega)⟩
/-- What stands in a flat table. -/
structure FlOK (G H : BD) (j : Nat) (B : BD) : Prop where
  good : B.Good
  n : B.D.n = 4
  leaf : ∀ a, a < 16 → gM B a = (if a < j then fY G H a else 0) ∧ gP B a = (if a < j then (if fY G H a = 0 then 0 else fX G H a) else 0)
theorem Fl.ok {G H : BD} (N : NGood G H) : ∀ {j : Nat} {B : BD}, Fl G H j B → j ≤ 16 → FlOK G H j B
  | 0, _, .zero, _ => ⟨newB_good, rfl, fun a ha => by rw [if_neg (Nat.not_lt_zero _), if_neg (Nat.not_lt_zero _)]; exact ⟨(newB_leaf a).2, (newB_leaf a).1⟩⟩
  | j + 1, B, .skip h e, hj => by
    have o := Fl.ok N h (by omega)
    refine ⟨o.good, o.n, fun a ha => ?_⟩
    obtain ⟨h1, h2⟩ := o.leaf a ha
    rw [h1, h2]
    by_cases ea : a = j
    · subst ea
      rw [if_neg (Nat.lt_irrefl _), if_pos (Nat.lt_succ_self _), if_neg (Nat.lt_irrefl _), if_pos (Nat.lt_succ_self _), if_pos e]
      exact ⟨e.symm, rfl⟩
    · have e2 : (a < j + 1) = (a < j) := by simp; omega
      simp only [e2]
      exact ⟨trivial, trivial⟩
  | j + 1, _, .put (B := B) (q := q) h e hq, hj => by
    have o := Fl.ok N h (by omega)
    have hy := fY_ok N (a := j) (by omega)
    have hx := fX_ok N (a := j) (by omega)
    have lo : leafOK (fX G H j) (fY G H j) := ⟨hx, hy, Or.inl (by omega)⟩
    refine ⟨ch_good o.good (by omega) hq lo, o.n, fun a ha => ?_⟩
    obtain ⟨c1, c2⟩ := ch_leaf (gp := fX G H j) (y := fY G H j) o.good (x := j) (q := q) (a := a) (by omega) ha hq
    obtain ⟨h1, h2⟩ := o.leaf a ha
    show lfP _ _ a = _ ∧ lfP _ _ a = _
    rw [c1, c2]
    by_cases ea : a = j
    · subst ea
      simp only [if_true, Nat.lt_succ_self, if_neg e]
      exact ⟨trivial, trivial⟩
    · have e2 : (a < j + 1) = (a < j) := by simp; omega
      simp only [if_neg ea, e2]
      exact ⟨h1, h2⟩
theorem Fl.can {G H : BD} (N : NGood G H) {j : Nat} {B : BD} (h : Fl G H j B) (hj : j < 16) : ∃ q, goes B.c B.D.n (j / 4) q := by
  have o := h.ok N (by omega)
  have ht := o.good.top (j / 4) (by rw [o.good.n]; omega)
  rw [o.n] at ht ⊢
  exact goes4 (by omega) (by omega)
theorem Fl.free {G H : BD} (N : NGood G H) {j : Nat} {B : BD} (h : Fl G H j B) (hj : j < 16) : gM B j = 0 ∧ gP B j = 0 := by
  have o := (h.ok N (by omega)).leaf j hj
  rw [if_neg (Nat.lt_irrefl _), if_neg (Nat.lt_irrefl _)] at o
  exact o
theorem Fl.ex {G H : BD} (N : NGood G H) : ∀ j, j ≤ 16 → ∃ B, Fl G H j B
  | 0, _ => ⟨_, .zero⟩
  | j + 1, hj => by
    obtain ⟨B, h⟩ := Fl.ex N j (by omega)
    by_cases e : fY G H j = 0
    · exact ⟨B, .skip h e⟩
    · obtain ⟨q, hq⟩ := h.can N (by omega)
      exact ⟨_, .put h e hq⟩
/-- A walk through both: the page and the code. -/
def nwOut (G H : BD) (a : Nat) (k x c : Int) : Prop :=
  (¬ hasMay (gM G a) k ∧ x = 0 ∧ c = 1) ∨ (hasMay (gM G a) k ∧ ¬ hasMay (gM H (gP G a).toNat) k ∧ x = 0 ∧ c = 2) ∨ (hasMay (gM G a) k ∧ hasMay (gM H (gP G a).toNat) k ∧ x = fX G H a ∧ c = 0)
theorem nwOut_same {G H : BD} {a : Nat} {k x c x' c' : Int} (h : nwOut G H a k x c) (h' : nwOut G H a k x' c') : x = x' ∧ c = c' := by
  rcases h with ⟨p, rfl, rfl⟩ | ⟨p, q, rfl, rfl⟩ | ⟨p, q, rfl, rfl⟩ <;> rcases h' with ⟨p', rfl, rfl⟩ | ⟨p', q', rfl, rfl⟩ | ⟨p', q', rfl, rfl⟩ <;> first | exact ⟨rfl, rfl⟩ | exact absurd p' p | exact absurd p p' | exact absurd q' q | exact absurd q q'
open Classical in
noncomputable def rdP (G H : BD) : Nat → Bool := fun x => decide (∃ a, a < 16 ∧ ¬ fY G H a = 0 ∧ fX G H a = (x : Int))
theorem reach_iff {G H : BD} (N : NGood G H) {a : Nat} (ha : a < 16) : ¬ fY G H a = 0 ↔ (hasMay (gM G a) 1 ∧ hasMay (gM H (gP G a).toNat) 1) ∨ (hasMay (gM G a) 2 ∧ hasMay (gM H (gP G a).toNat) 2) := by
  have h1 := leafs N.g ha
  have h2 := leafs N.h (a := (gP G a).toNat) (by omega)
  have := and_some h2.2.1 h1.2.1
  unfold fY
  rw [this]
  constructor
  · rintro (⟨p, q⟩ | ⟨p, q⟩)
    · exact Or.inl ⟨q, p⟩
    · exact Or.inr ⟨q, p⟩
  · rintro (⟨p, q⟩ | ⟨p, q⟩)
    · exact Or.inl ⟨q, p⟩
    · exact Or.inr ⟨q, p⟩
end Go.Proofs.Ytjplodenflkghaa
/- Nests: good ones, and walks through both: the model's and the program's. -/
namespace Go.Proofs.Ytjplodenflkghaa
open Go.RowKit
set_option linter.unusedSimpArgs false
set_option linter.unusedVariables false
/-- What is told of a nest. -/
abbrev ND.Good (D : ND) : Prop := NGood D.G D.H
theorem wideOK {B : BD} : (B.Good ∧ B.D.n = 4) ∨ ¬ (B.Good ∧ B.D.n = 4) := Classical.em _
set_option maxHeartbeats 3200000 in
theorem specGoodN_any (v : NV) (D : ND) (Y : Nat → Prop) (w : World) (hg : D.G.n ≤ 1048576) (hh : D.H.n ≤ 1048576) (h : NAt Y w v D) :
    Calls Try.prog 70 #[v.val D] w fun e w' => ∃ r, e = .returned (.bool r) ∧ (r = true ↔ D.Good) ∧ Blw w w' := by
  have hb0 : Blw w (w.alloc (.cells #[.slice v.g.a1 D.G.n v.g.c1, .slice v.g.a2 D.G.D.n v.g.c2, .slice v.h.a1 D.H.n v.h.c1, .slice v.h.a2 D.H.D.n v.h.c2] 60)) := (Blw.refl _).alloc _
  have HN : Hid (NAt Y (w.alloc (.cells #[.slice v.g.a1 D.G.n v.g.c1, .slice v.g.a2 D.G.D.n v.g.c2, .slice v.h.a1 D.H.n v.h.c1, .slice v.h.a2 D.H.D.n v.h.c2] 60)) v D) := h.blw hb0
  have HR : Hid (Row (w.alloc (.cells #[.slice v.g.a1 D.G.n v.g.c1, .slice v.g.a2 D.G.D.n v.g.c2, .slice v.h.a1 D.H.n v.h.c1, .slice v.h.a2 D.H.D.n v.h.c2] 60)) w.heap.size 4 (nb v D)) := box4 w _ _ _ _ 60
  have HB : Hid (Blw w (w.alloc (.cells #[.slice v.g.a1 D.G.n v.g.c1, .slice v.g.a2 D.G.D.n v.g.c2, .slice v.h.a1 D.H.n v.h.c1, .slice v.h.a2 D.H.D.n v.h.c2] 60))) := hb0
  clear h hb0
  go_enter Try.func70, Try.ntmps70
  obtain ⟨p0, p1, p2, p3⟩ := get4 HR.out
  go_wp2_with fail
  clear p0 p1 p2 p3
  refine (specGood_any v.g D.G Y _ hg HN.out.g).mono ?_
  rintro e w1 ⟨r, rfl, hr, hb1⟩
  have HT : Hid (r = true ↔ D.G.Good) := hr
  replace HN : Hid (NAt Y w1 v D) := HN.out.blw hb1
  replace HR : Hid (Row w1 w.heap.size 4 (nb v D)) := HR.out.blw hb1
  replace HB : Hid (Blw w w1) := HB.out.trans hb1
  clear hb1 hr
  cases r
  · have HNG : Hid (¬ D.Good) := fun g => by have := HT.out.2 g.g; simp at this
    clear HT HN HR
    go_wp2
    exact bodyPost_ret (v := .bool false) (by simp [results, Try.results70, go_sem]) rfl ⟨_, rfl, iff_f HNG.out, HB.out⟩
  have HG : Hid D.G.Good := HT.out.1 (by first | rfl | trivial)
  clear HT
  obtain ⟨p0, p1, p2, p3⟩ := get4 HR.out
  go_wp2_with fail
  clear p0 p1 p2 p3
  refine (specGood_any v.h D.H Y _ hh HN.out.h).mono ?_
  rintro e w2 ⟨r, rfl, hr, hb1⟩
  have HT : Hid (r = true ↔ D.H.Good) := hr
  replace HN : Hid (NAt Y w2 v D) := HN.out.blw hb1
  replace HR : Hid (Row w2 w.heap.size 4 (nb v D)) := HR.out.blw hb1
  replace HB : Hid (Blw w w2) := HB.out.trans hb1
  clear hb1 hr
  cases r
  · have HNG : Hid (¬ D.Good) := fun g => by have := HT.out.2 g.h; simp at this
    clear HT HN HR
    go_wp2
    exact bodyPost_ret (v := .bool false) (by simp [results, Try.results70, go_sem]) rfl ⟨_, rfl, iff_f HNG.out, HB.out⟩
  have HH : Hid D.H.Good := HT.out.1 (by first | rfl | trivial)
  clear HT HN
  obtain ⟨p0, p1, p2, p3⟩ := get4 HR.out
  clear HR
  by_cases d1 : D.G.D.n = 4
  case neg =>
    have e1 : (((D.G.D.n : Nat) : Int) == 4) = false := by simp; omega
    have HNG : Hid (¬ D.Good) := fun g => d1 g.ng
    clear d1 HG HH
    go_wp2
    exact bodyPost_ret (v := .bool false) (by simp [results, Try.results70, go_sem]) rfl ⟨_, rfl, iff_f HNG.out, HB.out⟩
  have D1 : Hid (D.G.D.n = 4) := d1
  have e1 : (((D.G.D.n : Nat) : Int) == 4) = true := by simp; omega
  clear d1
  by_cases d2 : D.H.D.n = 4
  case neg =>
    have e2 : (((D.H.D.n : Nat) : Int) == 4) = false := by simp; omega
    have HNG : Hid (¬ D.Good) := fun g => d2 g.nh
    clear d2 HG HH D1
    go_wp2
    exact bodyPost_ret (v := .bool false) (by simp [results, Try.results70, go_sem]) rfl ⟨_, rfl, iff_f HNG.out, HB.out⟩
  have e2 : (((D.H.D.n : Nat) : Int) == 4) = true := by simp; omega
  have HGG : Hid D.Good := ⟨HG.out, HH.out, D1.out, d2⟩
  clear d2 HG HH D1
  go_wp2
  exact bodyPost_ret (v := .bool true) (by simp [results, Try.results70, go_sem]) rfl ⟨_, rfl, iff_t HGG.out, HB.out⟩
theorem l6FindB_any (b : BV) (B : BD) (a : Nat) (Y : Nat → Prop) (w : World) (g : B.Good) (ha : a < 16) (h : BookAt Y w b B) :
    Calls Try.prog 114 #[b.val B, .int .i64 a] w fun e w' => e = .returned (.agg #[.int .i64 (gP B a), .int .i64 (gM B a)]) ∧ Blw w w' := by
  obtain ⟨n, c, ⟨kn, len, p, m⟩⟩ := B
  have hn4 : n = 4 := g.n
  subst hn4
  exact l6Find_any b c kn len p m a Y w g ha h
set_option maxHeartbeats 3200000 in
theorem l8Walk_any (v : NV) (D : ND) (a : Nat) (k : Int) (Y : Nat → Prop) (w : World) (g : D.Good) (ha : a < 16) (h : NAt Y w v D) :
    Calls Try.prog 118 #[v.val D, .int .i64 a, .int .i64 k] w fun e w' => ∃ x c, e = .returned (.tuple #[.int .i64 x, .int .i64 c]) ∧ nwOut D.G D.H a k x c ∧ Blw w w' := by
  have hb0 : Blw w (w.alloc (.cells #[.slice v.g.a1 D.G.n v.g.c1, .slice v.g.a2 D.G.D.n v.g.c2, .slice v.h.a1 D.H.n v.h.c1, .slice v.h.a2 D.H.D.n v.h.c2] 60)) := (Blw.refl _).alloc _
  have HN : Hid (NAt Y (w.alloc (.cells #[.slice v.g.a1 D.G.n v.g.c1, .slice v.g.a2 D.G.D.n v.g.c2, .slice v.h.a1 D.H.n v.h.c1, .slice v.h.a2 D.H.D.n v.h.c2] 60)) v D) := h.blw hb0
  have HR : Hid (Row (w.alloc (.cells #[.slice v.g.a1 D.G.n v.g.c1, .slice v.g.a2 D.G.D.n v.g.c2, .slice v.h.a1 D.H.n v.h.c1, .slice v.h.a2 D.H.D.n v.h.c2] 60)) w.heap.size 4 (nb v D)) := box4 w _ _ _ _ 60
  have HB : Hid (Blw w (w.alloc (.cells #[.slice v.g.a1 D.G.n v.g.c1, .slice v.g.a2 D.G.D.n v.g.c2, .slice v.h.a1 D.H.n v.h.c1, .slice v.h.a2 D.H.D.n v.h.c2] 60))) := hb0
  have HG : Hid D.Good := g
  clear h hb0 g
  go_enter Try.func118, Try.ntmps118
  obtain ⟨p0, p1, p2, p3⟩ := get4 HR.out
  go_wp2_with fail
  clear p0 p1 p2 p3
  refine (l6FindB_any v.g D.G a Y _ HG.out.g ha HN.out.g).mono ?_
  rintro e w1 ⟨rfl, hb1⟩
  have hA : Blw w1 (w1.alloc (.cells #[.int .i64 (gP D.G a), .int .i64 (gM D.G a)] 144)) := (Blw.refl _).alloc _
  obtain ⟨q0, q1⟩ := get2 (box2 w1 (.int .i64 (gP D.G a)) (.int .i64 (gM D.G a)) 144)
  have hgp : 0 ≤ gP D.G a ∧ gP D.G a ≤ 15 := (leafs HG.out.g ha).1
  obtain ⟨y, hy⟩ : ∃ y : Nat, gP D.G a = y := ⟨(gP D.G a).toNat, by omega⟩
  have hy16 : y < 16 := by omega
  have HY : Hid (gP D.G a = (y : Int)) := hy
  replace HN : Hid (NAt Y (w1.alloc (.cells #[.int .i64 (gP D.G a), .int .i64 (gM D.G a)] 144)) v D) := (HN.out.blw hb1).blw hA
  replace HR : Hid (Row (w1.alloc (.cells #[.int .i64 (gP D.G a), .int .i64 (gM D.G a)] 144)) w.heap.size 4 (nb v D)) := (HR.out.blw hb1).blw hA
  replace HB : Hid (Blw w (w1.alloc (.cells #[.int .i64 (gP D.G a), .int .i64 (gM D.G a)] 144))) := (HB.out.trans hb1).trans hA
  have HQ : Hid (Row (w1.alloc (.cells #[.int .i64 (gP D.G a), .int .i64 (gM D.G a)] 144)) w1.heap.size 2 (fun i => if i = 0 then .int .i64 (gP D.G a) else .int .i64 (gM D.G a))) := box2 w1 _ _ 144
  clear hb1 hA hgp
  by_cases hm : hasMay (gM D.G a) k
  case neg =>
    have HM : Hid (¬ hasMay (gM D.G a) k) := hm
    have d1 : (bits .and .i64 (gM D.G a) k != k) = true := by simp; exact hm
    clear hm hy
    go_wp2
    exact bodyPost_ret (v := .tuple #[.int .i64 0, .int .i64 1]) (by simp [results, Try.results118, go_sem]) rfl ⟨_, _, rfl, Or.inl ⟨HM.out, rfl, rfl⟩, HB.out⟩
  have HM : Hid (hasMay (gM D.G a) k) := hm
  have d1 : (bits .and .i64 (gM D.G a) k != k) = false := by rw [show bits .and .i64 (gM D.G a) k = k from hm]; simp
  clear hm hy
  go_upto_region 2 with fail
  generalize (w1.alloc (.cells #[.int .i64 (gP D.G a), .int .i64 (gM D.G a)] 144)) = w2 at *
  generalize w1.heap.size = zl at *
  rw [HY.out] at q0
  obtain ⟨p0, p1, p2, p3⟩ := get4 HR.out
  go_wp2_with fail
  clear p0 p1 p2 p3 q0 q1 d1
  refine (l6FindB_any v.h D.H y Y _ HG.out.h hy16 HN.out.h).mono ?_
  rintro e w3 ⟨rfl, hb3⟩
  have hA : Blw w3 (w3.alloc (.cells #[.int .i64 (gP D.H y), .int .i64 (gM D.H y)] 144)) := (Blw.refl _).alloc _
  obtain ⟨q0, q1⟩ := get2 (box2 w3 (.int .i64 (gP D.H y)) (.int .i64 (gM D.H y)) 144)
  replace HB : Hid (Blw w (w3.alloc (.cells #[.int .i64 (gP D.H y), .int .i64 (gM D.H y)] 144))) := (HB.out.trans hb3).trans hA
  have HX : Hid (fX D.G D.H a = gP D.H y) := by show gP D.H (gP D.G a).toNat = _; rw [HY.out, Int.toNat_natCast]
  have HYN : Hid ((gP D.G a).toNat = y) := by show _ = _; rw [HY.out, Int.toNat_natCast]
  clear hb3 hA HQ HR HN
  by_cases hm : hasMay (gM D.H y) k
  · have HM2 : Hid (hasMay (gM D.H y) k) := hm
    have d1 : (bits .and .i64 (gM D.H y) k != k) = false := by rw [show bits .and .i64 (gM D.H y) k = k from hm]; simp
    clear hm
    go_wp2
    exact bodyPost_ret (v := .tuple #[.int .i64 (gP D.H y), .int .i64 0]) (by simp [results, Try.results118, go_sem]) rfl ⟨_, _, rfl, Or.inr (Or.inr ⟨HM.out, by rw [HYN.out]; exact HM2.out, HX.out.symm, rfl⟩), HB.out⟩
  · have HM2 : Hid (¬ hasMay (gM D.H y) k) := hm
    have d1 : (bits .and .i64 (gM D.H y) k != k) = true := by simp; exact hm
    clear hm
    go_wp2
    exact bodyPost_ret (v := .tuple #[.int .i64 0, .int .i64 2]) (by simp [results, Try.results118, go_sem]) rfl ⟨_, _, rfl, Or.inr (Or.inl ⟨HM.out, by rw [HYN.out]; exact HM2.out, rfl, rfl⟩), HB.out⟩
/-- What WalkNest tells. -/
def wnOut (D : ND) (a k x c : Int) (r : Bool) : Prop :=
  (¬ (D.Good ∧ pgOK a ∧ mayOK k) ∧ x = 0 ∧ c = 0 ∧ r = false) ∨ ((D.Good ∧ pgOK a ∧ mayOK k) ∧ nwOut D.G D.H a.toNat k x c ∧ r = true)
theorem wnOut_same {D : ND} {a k x c x' c' : Int} {r r' : Bool} (h : wnOut D a k x c r) (h' : wnOut D a k x' c' r') : x = x' ∧ c = c' ∧ r = r' := by
  rcases h with ⟨n, rfl, rfl, rfl⟩ | ⟨n, h, rfl⟩ <;> rcases h' with ⟨n', rfl, rfl, rfl⟩ | ⟨n', h', rfl⟩
  · exact ⟨rfl, rfl, rfl⟩
  · exact absurd n' n
  · exact absurd n n'
  · obtain ⟨e1, e2⟩ := nwOut_same h h'
    exact ⟨e1, e2, rfl⟩
set_option maxHeartbeats 3200000 in
theorem specWalkN_any (v : NV) (D : ND) (a k : Int) (Y : Nat → Prop) (w : World) (hg : D.G.n ≤ 1048576) (hh : D.H.n ≤ 1048576) (h : NAt Y w v D) :
    Calls Try.prog 45 #[v.val D, .int .i64 a, .int .i64 k] w fun e w' => ∃ x c r, e = .returned (.tuple #[.int .i64 x, .int .i64 c, .bool r]) ∧ wnOut D a k x c r ∧ Blw w w' := by
  have hb0 : Blw w (w.alloc (.cells #[.slice v.g.a1 D.G.n v.g.c1, .slice v.g.a2 D.G.D.n v.g.c2, .slice v.h.a1 D.H.n v.h.c1, .slice v.h.a2 D.H.D.n v.h.c2] 60)) := (Blw.refl _).alloc _
  have HN : Hid (NAt Y (w.alloc (.cells #[.slice v.g.a1 D.G.n v.g.c1, .slice v.g.a2 D.G.D.n v.g.c2, .slice v.h.a1 D.H.n v.h.c1, .slice v.h.a2 D.H.D.n v.h.c2] 60)) v D) := h.blw hb0
  have HR : Hid (Row (w.alloc (.cells #[.slice v.g.a1 D.G.n v.g.c1, .slice v.g.a2 D.G.D.n v.g.c2, .slice v.h.a1 D.H.n v.h.c1, .slice v.h.a2 D.H.D.n v.h.c2] 60)) w.heap.size 4 (nb v D)) := box4 w _ _ _ _ 60
  have HB : Hid (Blw w (w.alloc (.cells #[.slice v.g.a1 D.G.n v.g.c1, .slice v.g.a2 D.G.D.n v.g.c2, .slice v.h.a1 D.H.n v.h.c1, .slice v.h.a2 D.H.D.n v.h.c2] 60))) := hb0
  clear h hb0
  go_enter Try.func45, Try.ntmps45
  obtain ⟨p0, p1, p2, p3⟩ := get4 HR.out
  go_wp2_with fail
  clear p0 p1 p2 p3
  refine (specGoodN_any v D Y _ hg hh HN.out).mono ?_
  rintro e w1 ⟨r, rfl, hr, hb1⟩
  have HT : Hid (r = true ↔ D.Good) := hr
  replace HN : Hid (NAt Y w1 v D) := HN.out.blw hb1
  replace HR : Hid (Row w1 w.heap.size 4 (nb v D)) := HR.out.blw hb1
  replace HB : Hid (Blw w w1) := HB.out.trans hb1
  clear hb1 hr
  cases r
  · have HNG : Hid (¬ D.Good) := fun g => by have := HT.out.2 g; simp at this
    clear HT HN HR
    go_wp2
    exact bodyPost_ret (v := .tuple #[.int .i64 0, .int .i64 0, .bool false]) (by simp [results, Try.results45, go_sem]) rfl ⟨_, _, _, rfl, Or.inl ⟨fun q => HNG.out q.1, rfl, rfl, rfl⟩, HB.out⟩
  have HG : Hid D.Good := HT.out.1 (by first | rfl | trivial)
  clear HT
  go_wp2_with fail
  refine (l6At_any a _).mono ?_
  rintro e w1 ⟨r, rfl, hr, rfl⟩
  have HT : Hid (r = true ↔ pgOK a) := hr
  clear hr
  cases r
  · have HNG : Hid (¬ pgOK a) := fun g => by have := HT.out.2 g; simp at this
    clear HT HN HR
    go_wp2
    exact bodyPost_ret (v := .tuple #[.int .i64 0, .int .i64 0, .bool false]) (by simp [results, Try.results45, go_sem]) rfl ⟨_, _, _, rfl, Or.inl ⟨fun q => HNG.out q.2.1, rfl, rfl, rfl⟩, HB.out⟩
  have H1 : Hid (pgOK a) := HT.out.1 (by first | rfl | trivial)
  clear HT
  go_wp2_with fail
  refine (l1In_any k 1 3 _).mono ?_
  rintro e w1 ⟨r, rfl, hr, rfl⟩
  have HT : Hid (r = true ↔ (1 ≤ k ∧ k ≤ 3)) := hr
  clear hr
  cases r
  · have HNG : Hid (¬ (1 ≤ k ∧ k ≤ 3)) := fun g => by have := HT.out.2 g; simp at this
    clear HT HN HR
    go_wp2
    exact bodyPost_ret (v := .tuple #[.int .i64 0, .int .i64 0, .bool false]) (by simp [results, Try.results45, go_sem]) rfl ⟨_, _, _, rfl, Or.inl ⟨fun q => HNG.out q.2.2, rfl, rfl, rfl⟩, HB.out⟩
  have H2 : Hid (mayOK k) := HT.out.1 (by first | rfl | trivial)
  clear HT
  obtain ⟨x, hx, hx16⟩ : ∃ x : Nat, a = x ∧ x < 16 := ⟨a.toNat, by have := H1.out; unfold pgOK at this; omega, by have := H1.out; unfold pgOK at this; omega⟩
  subst hx
  obtain ⟨p0, p1, p2, p3⟩ := get4 HR.out
  go_wp2_with fail
  clear p0 p1 p2 p3
  refine (l8Walk_any v D x k Y _ HG.out hx16 HN.out).mono ?_
  rintro e w2 ⟨p, c, rfl, ho, hb2⟩
  have FIN : Hid (∃ x' c' r, (Ending.returned (.tuple #[.int .i64 p, .int .i64 c, .bool true])) = .returned (.tuple #[.int .i64 x', .int .i64 c', .bool r]) ∧ wnOut D (x : Int) k x' c' r ∧ Blw w w2) := ⟨p, c, true, rfl, Or.inr ⟨⟨HG.out, H1.out, H2.out⟩, by rw [Int.toNat_natCast]; exact ho, rfl⟩, HB.out.trans hb2⟩
  clear ho hb2 HB HN HR
  go_wp2
  exact bodyPost_ret (v := .tuple #[.int .i64 p, .int .i64 c, .bool true]) (by simp [results, Try.results45, go_sem]) rfl FIN.out
end Go.Proofs.Ytjplodenflkghaa
