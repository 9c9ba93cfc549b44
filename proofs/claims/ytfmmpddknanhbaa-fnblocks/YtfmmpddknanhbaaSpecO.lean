/- The model's 'l5Own': owners of one's own. -/
import Derived.Test.YtfmmpddknanhbaaBookL
import Derived.Test.YtfmmpddknanhbaaBuf
namespace Go.Proofs.Ytfmmpddknanhbaa
open Go.RowKit
set_option linter.unusedSimpArgs false
set_option linter.unusedVariables false
def Emp (w : World) (g : Nat) (e : TypeId) : Prop := w.heap[g]? = some (.cells #[] e (0, 0))
theorem emp_new {w : World} {g : Nat} {e : TypeId} (hg : g = w.heap.size) : Emp (w.alloc (.cells #[] e)) g e := by subst hg; exact heap_alloc_new w _
theorem emp_old {w : World} {g : Nat} {e : TypeId} (h : Emp w g e) (o : Obj) : Emp (w.alloc o) g e := by
  have hlt : g < w.heap.size := (Array.getElem?_eq_some_iff.1 h).1
  exact (((Blw.refl w).alloc o).block g hlt).trans h
theorem emp_mod {X : Nat → Prop} {w w' : World} {g : Nat} {e : TypeId} (h : Emp w g e) (hm : Mod X w w') (hx : ¬ X g) : Emp w' g e := (hm.block g (Array.getElem?_eq_some_iff.1 h).1 hx).trans h
theorem emp_drew {w : World} {g : Nat} {e : TypeId} (h : Emp w g e) : Emp w.drew g e := h
def appIs (o : Oper) (i j t : Nat) : Bool :=
  match appOf o with
  | some (.tmp i', .tmp j', t') => i == i' && j == j' && t == t'
  | _ => false
theorem step_appIs {w : World} {ops : Array Oper} {o : Oper} {a : Act} {K : Act → World → Prop} {Q : Exit → Act → World → Prop} {E : Prop} (i j t : Nat) (ho : appIs o i j t = true)
    (h : ∃ r w', (Builtin.append_ #[t, t] o.type #[a.eval (.tmp i), a.eval (.tmp j)]).run Try.prog w = .ok r w' ∧ K (a.put o.dst r) w') :
    if Region.wanted o (yielded ops a.tmps) = true then Oper.wp Try.prog o a w K Q else E := by
  refine step_app (.tmp i) (.tmp j) t ?_ h
  unfold appIs at ho
  split at ho
  · rename_i e
    simp at ho
    obtain ⟨⟨rfl, rfl⟩, rfl⟩ := ho
    exact e
  · cases ho
/-- append([]int{}, l...), the empty list being at g. -/
theorem ownI_ex {w : World} {P : Value → World → Prop} {v u : Value} {g : Nat} {ao : Option Addr} {n c : Nat} (hs : v = .slice (some ⟨g, 0, none⟩) 0 0) (hx : u = .slice ao n c) (hg : Emp w g 3) {Y : Nat → Prop} {f : Nat → Int} (hI : IntsAt Y w ao n f) (hn : n ≤ 1048576) {ty : TypeId}
    (h : ∀ ao' cap w', BufI (fun b => (b = g ∨ b = w.heap.size) ∧ b < w'.heap.size) w' (.slice ao' n cap) n f → Mod (fun b => b = g) w w' → P (.slice ao' n cap) w') :
    ∃ r w', (Builtin.append_ #[23, 23] ty #[v, u]).run Try.prog w = .ok r w' ∧ P r w' := by
  subst hs hx
  obtain ⟨a1, p1, w1, h1, h2, h3⟩ := BufI.append (Buf.lit (X := fun b => b = g) hg 1 rfl (ic (fun _ => 0))) c hI (by omega) ty
  rw [Nat.zero_add] at h1 h2
  refine ⟨_, w1, h1, h a1 p1 w1 (Buf.congr h2 (fun i hi => by simp [ic, icat])) (h3.mono (fun b hb => ?_))⟩
  simp [Value.ownBlock] at hb
  exact hb.symm
theorem Mod.al {X : Nat → Prop} {a b : World} (h : Mod X a b) (o : Obj) : Mod X a (b.alloc o) := h.trans (((Blw.refl b).alloc o).mod X)
theorem Mod.newer {X Z : Nat → Prop} {a b c : World} (h : Mod X a b) (k : Mod Z b c) (hz : ∀ i, Z i → a.heap.size ≤ i) : Mod X a c :=
  ⟨k.os.trans h.os, k.tape.trans h.tape, k.output.trans h.output, Nat.le_trans h.size k.size, fun i hi hx => (k.block i (Nat.lt_of_lt_of_le hi h.size) (fun e => by have := hz i e; omega)).trans (h.block i hi hx)⟩
theorem own_fin {w W : World} {X6 X10 : Nat → Prop} {a6 a10 : Option Addr} {n c6 k c10 : Nat} {c l : Nat → Int} (hn : n ≤ 1048576) (hk : k ≤ 1048576) (b6 : BufI X6 W (.slice a6 n c6) n c) (b10 : BufI X10 W (.slice a10 k c10) k l) (hw : Blw w W)
    (l6 : ∀ x, X6 x → w.heap.size + 1 < x ∧ x < W.heap.size) (l10 : ∀ x, X10 x → w.heap.size + 1 < x ∧ x < W.heap.size) (d : ∀ x, X6 x → ¬ X10 x) :
    ∃ (b' : BV), Ending.returned (.agg #[.slice a6 n c6, .slice a10 k c10]) = .returned (b'.val ⟨n, c, k, l⟩) ∧ BookOwn (fun x => w.heap.size + 1 < x ∧ x < ((W.setCell ⟨w.heap.size + 1, 0, none⟩ (.slice a6 n c6)).setCell ⟨w.heap.size + 1, 1, none⟩ (.slice a10 k c10)).heap.size) ((W.setCell ⟨w.heap.size + 1, 0, none⟩ (.slice a6 n c6)).setCell ⟨w.heap.size + 1, 1, none⟩ (.slice a10 k c10)) b' ⟨n, c, k, l⟩ ∧ Blw w ((W.setCell ⟨w.heap.size + 1, 0, none⟩ (.slice a6 n c6)).setCell ⟨w.heap.size + 1, 1, none⟩ (.slice a10 k c10)) := by
  have hm := set2_mod (X := fun x => x = w.heap.size + 1) W rfl (.slice a6 n c6) (.slice a10 k c10)
  have hs := hm.size
  obtain ⟨ao, cap, e, hI⟩ := BufI.own b6 (by omega)
  cases e
  obtain ⟨ao, cap, e, hL⟩ := BufI.own b10 (by omega)
  cases e
  exact ⟨⟨a6, a10, c6, c10⟩, rfl, ⟨X6, X10, fun x hx => ⟨by have := l6 x hx; omega, d x hx⟩, fun x hx => by have := l10 x hx; omega, hI.mod hm (fun x hx e => by have := l6 x hx; omega), hL.mod hm (fun x hx e => by have := l10 x hx; omega)⟩, Mod.blw hw hm (fun i hi => by omega)⟩
set_option maxRecDepth 20000 in
set_option maxHeartbeats 6400000 in
theorem l5Own_any (b : BV) (B : BD) (Y : Nat → Prop) (w : World) (hS : B.n + B.k ≤ 1048576) (h : BookAt Y w b B) :
    Calls Try.prog 66 #[b.val B] w fun e w' => ∃ b' : BV, e = .returned (b'.val B) ∧ BookOwn (fun x => w.heap.size + 1 < x ∧ x < w'.heap.size) w' b' B ∧ Blw w w' := by
  have hn : B.n ≤ 1048576 := by omega
  have hk : B.k ≤ 1048576 := by omega
  have hb0 : Blw w ((w.alloc (.cells #[.slice b.a1 B.n b.c1, .slice b.a2 B.k b.c2] 25)).alloc (.cells #[.slice none 0 0, .slice none 0 0] 25)) := ((Blw.refl _).alloc _).alloc _
  have HC : Hid (IntsAt Y ((w.alloc (.cells #[.slice b.a1 B.n b.c1, .slice b.a2 B.k b.c2] 25)).alloc (.cells #[.slice none 0 0, .slice none 0 0] 25)) b.a1 B.n B.c) := h.c.blw hb0
  have HL : Hid (IntsAt Y ((w.alloc (.cells #[.slice b.a1 B.n b.c1, .slice b.a2 B.k b.c2] 25)).alloc (.cells #[.slice none 0 0, .slice none 0 0] 25)) b.a2 B.k B.l) := h.l.blw hb0
  have r0 := (box2 w (.slice b.a1 B.n b.c1) (.slice b.a2 B.k b.c2) 25).blw ((Blw.refl _).alloc (.cells #[.slice none 0 0, .slice none 0 0] 25))
  have r1 := box2 (w.alloc (.cells #[.slice b.a1 B.n b.c1, .slice b.a2 B.k b.c2] 25)) (.slice none 0 0) (.slice none 0 0) 25
  rw [World.size_alloc] at r1
  have hz : ((w.alloc (.cells #[.slice b.a1 B.n b.c1, .slice b.a2 B.k b.c2] 25)).alloc (.cells #[.slice none 0 0, .slice none 0 0] 25)).heap.size = w.heap.size + 1 + 1 := by simp
  clear h
  obtain ⟨n, c, k, l⟩ := B
  dsimp only at hn hk hS
  go_enter Try.func66, Try.ntmps66
  go_upto_region 1 with fail
  revert hb0 HC HL r0 r1 hz
  generalize (w.alloc (.cells #[.slice b.a1 n b.c1, .slice b.a2 k b.c2] 25)).alloc (.cells #[.slice none 0 0, .slice none 0 0] 25) = w0
  intro hb0 HC HL r0 r1 hz
  have hbb : ∀ w', Mod (fun b => b = w.heap.size + 1) w0 w' → Row w' w.heap.size 2 (fun i => if i = 0 then .slice b.a1 n b.c1 else .slice b.a2 k b.c2) := fun w' hh => r0.mod hh (by omega)
  have P0 : ∀ w', Mod (fun b => b = w.heap.size + 1) w0 w' → w'.cell? ⟨w.heap.size, 0, none⟩ = some (.slice b.a1 n b.c1) := fun w' hh => (get2 (hbb w' hh)).1
  have P1 : ∀ w', Mod (fun b => b = w.heap.size + 1) w0 w' → w'.cell? ⟨w.heap.size, 1, none⟩ = some (.slice b.a2 k b.c2) := fun w' hh => (get2 (hbb w' hh)).2
  have R0 : ∀ w', Blw w0 w' → w'.cell? ⟨w.heap.size + 1, 0, none⟩ = some (.slice none 0 0) := fun w' hh => (get2 (r1.blw hh)).1
  have R1 : ∀ w', Blw w0 w' → w'.cell? ⟨w.heap.size + 1, 1, none⟩ = some (.slice none 0 0) := fun w' hh => (get2 (r1.blw hh)).2
  have F0 : ∀ w', Blw w0 w' → w'.frozen? ⟨w.heap.size + 1, 0, none⟩ = false := fun w' hh => (r1.blw hh).frozen 0
  have F1 : ∀ w', Blw w0 w' → w'.frozen? ⟨w.heap.size + 1, 1, none⟩ = false := fun w' hh => (r1.blw hh).frozen 1
  clear hbb r0 r1
  go_region_held3 (fun w' => Mod (fun b => b = w.heap.size + 1) w0 w')
    ((first
      | assumption
      | exact (Blw.refl w0).drew.mod _
      | exact Mod.al (by assumption) _
      | exact Mod.newer (by assumption) m10 (fun i hi => by subst hi; first | omega | (have := B6.size; omega) | (simp [hz]; omega))
      | exact Mod.newer (by assumption) m6 (fun i hi => by subst hi; first | omega | (have := B6.size; omega) | (simp [hz]; omega))
      | exact (Mod.trans (by assumption) (set2_mod (X := fun b => b = w.heap.size + 1) _ rfl _ _))))
    ((first
      | (refine step_appIs 3 5 23 (by decide +kernel) ?_; refine ownI_ex (by rfl) (by rfl) (by first | exact emp_drew (emp_new (by first | omega | (simp only [World.size_alloc, World.size_drew]; omega))) | exact emp_drew (emp_old (emp_new (by first | omega | (simp only [World.size_alloc, World.size_drew]; omega))) _)) (HC.out.blw (by repeat (first | exact Blw.refl _ | refine Blw.drew ?_ | refine Blw.alloc ?_ _))) hn ?_; intro a6 c6 w6 b6 m6; have B6 : Blw w0 w6 := Mod.blw (by repeat (first | exact Blw.refl _ | refine Blw.drew ?_ | refine Blw.alloc ?_ _)) m6 (fun i hi => by subst hi; omega); first | (have E6 : Emp w6 (w.heap.size + 1 + 1 + 1) 3 := emp_mod (show Emp (((w0.alloc (.cells #[] 3)).alloc (.cells #[] 3)).drew) (w.heap.size + 1 + 1 + 1) 3 from emp_drew (emp_new (by first | omega | (simp only [World.size_alloc, World.size_drew]; omega)))) m6 (by omega)) | (have E6 : Emp w6 (w.heap.size + 1 + 1) 3 := emp_mod (show Emp (((w0.alloc (.cells #[] 3)).alloc (.cells #[] 3)).drew) (w.heap.size + 1 + 1) 3 from emp_drew (emp_old (emp_new (by first | omega | (simp only [World.size_alloc, World.size_drew]; omega))) _)) m6 (by omega)) | skip)
      | (refine step_appIs 7 9 23 (by decide +kernel) ?_; refine ownI_ex (by rfl) (by rfl) (by first | exact E6 | exact emp_new (by first | omega | (simp only [World.size_alloc, World.size_drew]; omega))) (HL.out.blw (by first | (have _e := E6; exact B6) | exact B6.alloc _)) hk ?_; intro a10 c10 w10 b10 m10; have B10 : Blw w0 w10 := Mod.blw (by first | (have _e := E6; exact B6) | exact B6.alloc _) m10 (fun i hi => by subst hi; first | omega | (have := B6.size; omega) | (simp [hz]; omega)))))
  all_goals
    have sA : (w0.alloc (.cells #[] 3)).drew.heap.size = w.heap.size + 1 + 1 + 1 := by show (w0.alloc _).heap.size = _; simp [hz]
    have sB : ((w0.alloc (.cells #[] 3)).alloc (.cells #[] 3)).drew.heap.size = w.heap.size + 1 + 1 + 1 + 1 := by show ((w0.alloc _).alloc _).heap.size = _; simp [hz]
    have sC : ((w0.alloc (.cells #[] 3)).alloc (.cells #[] 3)).drew.heap.size = w.heap.size + 1 + 1 + 1 + 1 := by show ((w0.alloc _).alloc _).heap.size = _; simp [hz]
    have sD : (w6.alloc (.cells #[] 3)).heap.size = w6.heap.size + 1 := by simp
    have s6 := m6.size
    have s10 := m10.size
    have hw6 : w6.heap.size ≤ w10.heap.size := by omega
    have q6 := (by first | exact Buf.mod (Buf.blw b6 ((Blw.refl w6).alloc _)) m10 (fun x hx e => by omega) | exact Buf.mod b6 m10 (fun x hx e => by omega) : Buf 3 1 _ w10 (.slice a6 n c6) n (ic c))
    have FIN : Hid _ := own_fin (w := w) hn hk q6 b10 (hb0.trans B10) (fun x hx => by omega) (fun x hx => by omega) (fun x h1 h2 => by omega)
    have t0 := R0 _ B10
    have t1 := R1 _ B10
    clear sA sB sC sD s6 s10 hw6 q6 b6 b10 m6 m10 P0 P1 R0 R1 F0 F1
    go_wp2_with fail
    exact bodyPost_ret (v := .agg #[.slice a6 n c6, .slice a10 k c10]) (by simp [results, Try.results66, go_sem, t0, t1]) rfl FIN.out
end Go.Proofs.Ytfmmpddknanhbaa
