/- A timer taken in. -/
import Derived.Test.YtkmkidahaagbpaaHw
import Derived.Sort.QuietIn
import Derived.BigQuiet
namespace Go.Proofs.Ytkmkidahaagbpaa
open Go.RowKit Go.Shelf
attribute [local go_sem] Oper.semAt_some
set_option linter.unusedSimpArgs false
set_option linter.unusedVariables false
theorem HW.rows {lo z : Nat} {now : Int} {R : Rws} {P : Nat → Option Addr} {C : Nat → Nat} {w : World} (h : HW lo z now R P C w) (hl : ∀ k, k < 16 → (R k).length ≤ 1000) : PSAt (fun b => b < w.heap.size) w (some ⟨z, 1, none⟩) (pdn 16 R) := by
  refine ⟨by show 16 ≤ _; omega, fun i hi => ⟨z, 1, P i, C i, rfl, h.box.lt, h.cell hi, (h.at hi (by have := hl i hi; omega)).mono (fun b hb => h.lt hi hb)⟩⟩
/-- What stands while take looks at the timers. -/
structure TKI (w : World) (t : Tm) (n : Int) (b : Bool) (W : World) : Prop where
  blw : Blw w W
  t0 : W.cell? ⟨w.heap.size, 0, none⟩ = some (.int .i64 t.1)
  t1 : W.cell? ⟨w.heap.size, 1, none⟩ = some (.int .i64 t.2)
  r : W.cell? ⟨w.heap.size + 1, 0, none⟩ = some (.bool b)
  rf : W.frozen? ⟨w.heap.size + 1, 0, none⟩ = false
  m : W.cell? ⟨w.heap.size + 1 + 1, 0, none⟩ = some (.int .i64 n)
  mf : W.frozen? ⟨w.heap.size + 1 + 1, 0, none⟩ = false
theorem TKI.grown {w : World} {t : Tm} {n : Int} {b : Bool} {A B : World} {row : Option Nat} (h : TKI w t n b A) (hg : A.grownBy B row) (hr : ∀ r, row = some r → w.heap.size ≤ r ∧ ∃ o : Obj, A.heap[r]? = some o ∧ o.isCells = false) : TKI w t n b B :=
  ⟨Mod.blw h.blw (grown_mod hg) (fun i e => (hr i e).1), cell_kept h.t0 hg (fun r e => (hr r e).2), cell_kept h.t1 hg (fun r e => (hr r e).2), cell_kept h.r hg (fun r e => (hr r e).2), (frozen_kept h.r hg (fun r e => (hr r e).2)).trans h.rf, cell_kept h.m hg (fun r e => (hr r e).2), (frozen_kept h.m hg (fun r e => (hr r e).2)).trans h.mf⟩
theorem TKI.mod {w : World} {t : Tm} {n : Int} {b : Bool} {A B : World} {Z : Nat → Prop} (h : TKI w t n b A) (hm : Mod Z A B) (hz : ∀ i, Z i → w.heap.size + 1 + 1 < i) : TKI w t n b B :=
  have fz : ∀ p : Addr, ∀ v, A.cell? p = some v → ¬ Z p.block → B.frozen? p = A.frozen? p := fun p v hv hz => World.frozen?_of_block (hm.block p.block (World.block_lt_of_cell? _ _ hv) hz)
  ⟨Mod.blw h.blw hm (fun i e => by have := hz i e; omega), hm.cell h.t0 (fun e => by have h5 := hz _ e; dsimp only at h5; omega), hm.cell h.t1 (fun e => by have h5 := hz _ e; dsimp only at h5; omega), hm.cell h.r (fun e => by have h5 := hz _ e; dsimp only at h5; omega), (fz _ _ h.r (fun e => by have h5 := hz _ e; dsimp only at h5; omega)).trans h.rf, hm.cell h.m (fun e => by have h5 := hz _ e; dsimp only at h5; omega), (fz _ _ h.m (fun e => by have h5 := hz _ e; dsimp only at h5; omega)).trans h.mf⟩
theorem TKI.setR {w : World} {t : Tm} {n : Int} {b : Bool} {W : World} (h : TKI w t n b W) (b' : Bool) : TKI w t n b' (W.setCell ⟨w.heap.size + 1, 0, none⟩ (.bool b')) :=
  have ms : Mod (fun i => i = w.heap.size + 1) W (W.setCell ⟨w.heap.size + 1, 0, none⟩ (.bool b')) := Mod.setCell (X := fun i => i = w.heap.size + 1) _ (p := ⟨w.heap.size + 1, 0, none⟩) rfl _
  ⟨h.blw.setCell (by show _ ≤ w.heap.size + 1; omega) _, ms.cell h.t0 (by simp), ms.cell h.t1 (by simp), World.cell?_setCell_same' _ _ _ (by rw [h.r]; rfl), by rw [World.frozen?_setCell]; exact h.rf, ms.cell h.m (by simp), by rw [World.frozen?_setCell]; exact h.mf⟩
theorem TKI.setM {w : World} {t : Tm} {n : Int} {b : Bool} {W : World} (h : TKI w t n b W) (n' : Int) : TKI w t n' b (W.setCell ⟨w.heap.size + 1 + 1, 0, none⟩ (.int .i64 n')) :=
  have ms : Mod (fun i => i = w.heap.size + 1 + 1) W (W.setCell ⟨w.heap.size + 1 + 1, 0, none⟩ (.int .i64 n')) := Mod.setCell (X := fun i => i = w.heap.size + 1 + 1) _ (p := ⟨w.heap.size + 1 + 1, 0, none⟩) rfl _
  ⟨h.blw.setCell (by show _ ≤ w.heap.size + 1 + 1; omega) _, ms.cell h.t0 (by show ¬ w.heap.size = w.heap.size + 1 + 1; omega), ms.cell h.t1 (by show ¬ w.heap.size = w.heap.size + 1 + 1; omega), ms.cell h.r (by simp), by rw [World.frozen?_setCell]; exact h.rf, World.cell?_setCell_same' _ _ _ (by rw [h.m]; rfl), by rw [World.frozen?_setCell]; exact h.mf⟩
theorem new1 (w : World) (v : Value) (t : TypeId) : (w.alloc (.cells #[v] t)).cell? ⟨w.heap.size, 0, none⟩ = some v ∧ (w.alloc (.cells #[v] t)).frozen? ⟨w.heap.size, 0, none⟩ = false := by
  have h := heap_alloc_new w (.cells #[v] t)
  constructor
  · unfold World.cell?; rw [h]; rfl
  · unfold World.frozen?; rw [h]; rfl
theorem Blw.frozenS {w w' : World} (h : Blw w w') {p : Addr} {v : Value} (hp : w.cell? p = some v) (hf : w.frozen? p = false) : w'.frozen? p = false := (h.frozen (World.block_lt_of_cell? _ _ hp)).trans hf
theorem TKI.start (w : World) (t : Tm) (nq : Nat) (v : Value) :
    TKI w t 0 false (((((w.alloc (.cells #[.int .i64 t.1, .int .i64 t.2] 39)).alloc (.cells #[.bool false] 4)).drewN nq).alloc (.cells #[.int .i64 0] 3)).alloc (.cells #[v] 23)) ∧
    (((((w.alloc (.cells #[.int .i64 t.1, .int .i64 t.2] 39)).alloc (.cells #[.bool false] 4)).drewN nq).alloc (.cells #[.int .i64 0] 3)).alloc (.cells #[v] 23)).cell? ⟨w.heap.size + 1 + 1 + 1, 0, none⟩ = some v ∧
    (((((w.alloc (.cells #[.int .i64 t.1, .int .i64 t.2] 39)).alloc (.cells #[.bool false] 4)).drewN nq).alloc (.cells #[.int .i64 0] 3)).alloc (.cells #[v] 23)).heap.size = w.heap.size + 1 + 1 + 1 + 1 := by
  obtain ⟨wa, ha⟩ : ∃ wa, w.alloc (.cells #[.int .i64 t.1, .int .i64 t.2] 39) = wa := ⟨_, rfl⟩
  obtain ⟨p0, p1⟩ := get2 (box2 w (.int .i64 t.1) (.int .i64 t.2) 39)
  have sa : wa.heap.size = w.heap.size + 1 := by rw [← ha, World.size_alloc]
  have ba : Blw w wa := by rw [← ha]; exact (Blw.refl _).alloc _
  rw [ha] at p0 p1 ⊢
  clear ha
  have q := new1 wa (.bool false) 4
  obtain ⟨wb, hb⟩ : ∃ wb, (wa.alloc (.cells #[.bool false] 4)).drewN nq = wb := ⟨_, rfl⟩
  have sb : wb.heap.size = w.heap.size + 1 + 1 := by rw [← hb]; simp [sa]
  have bb : Blw (wa.alloc (.cells #[.bool false] 4)) wb := by rw [← hb]; exact (Blw.refl _).drewN _
  have bb2 : Blw wa wb := ((Blw.refl _).alloc _).trans bb
  rw [hb]
  clear hb
  rw [sa] at q
  have r := new1 wb (.int .i64 0) 3
  have s := new1 (wb.alloc (.cells #[.int .i64 0] 3)) v 23
  have bc : Blw wb (wb.alloc (.cells #[.int .i64 0] 3)) := (Blw.refl _).alloc _
  have bd : Blw (wb.alloc (.cells #[.int .i64 0] 3)) ((wb.alloc (.cells #[.int .i64 0] 3)).alloc (.cells #[v] 23)) := (Blw.refl _).alloc _
  rw [World.size_alloc] at s
  rw [sb] at r s
  exact ⟨⟨((ba.trans bb2).trans bc).trans bd, ((bb2.trans bc).trans bd).cell p0, ((bb2.trans bc).trans bd).cell p1, ((bb.trans bc).trans bd).cell q.1, ((bb.trans bc).trans bd).frozenS q.1 q.2, bd.cell r.1, bd.frozenS r.1 r.2⟩, s.1, by rw [World.size_alloc, World.size_alloc, sb]⟩
theorem Mod.tail {X Y : Nat → Prop} {a b c : World} (h : Mod X a b) (k : Mod Y b c) (hy : ∀ i, Y i → a.heap.size ≤ i) : Mod X a c :=
  ⟨k.os.trans h.os, k.tape.trans h.tape, k.output.trans h.output, Nat.le_trans h.size k.size, fun i hi hx => (k.block i (Nat.lt_of_lt_of_le hi h.size) (fun hh => by have := hy i hh; omega)).trans (h.block i hi hx)⟩
theorem allN_R (R : Rws) : allN 16 R = allR R := rfl
set_option maxHeartbeats 3200000 in
set_option maxRecDepth 100000 in
theorem take_range (lo z : Nat) (now : Int) (R : Rws) (P : Nat → Option Addr) (C : Nat → Nat) (t : Tm) (w : World) (h : HW lo z now R P C w) (hlo : lo ≤ w.heap.size) (h0 : 0 ≤ now) (h1 : now ≤ 1000) (hg : GoodR now R)
    (o1 : 1 ≤ t.1) (o2 : t.1 ≤ 99) (o3 : now < t.2) (o4 : t.2 - now ≤ 63) :
    Calls Try.prog 60 #[.pointer (some ⟨z, 0, none⟩), .agg #[.int .i64 t.1, .int .i64 t.2]] w fun e w' =>
      ((OkT now R t ∧ e = .returned (.bool true) ∧ ∃ P' C', HW lo z now (put now R t) P' C' w' ∧ ∀ j b, j < 16 → P' j = some ⟨b, 0, none⟩ → HX z P b ∨ w.heap.size ≤ b) ∨ (¬ OkT now R t ∧ e = .returned (.bool false))) ∧ Mod (HX z P) w w' := by
  have hb0 : Blw w ((w.alloc (.cells #[.int .i64 t.1, .int .i64 t.2] 39)).alloc (.cells #[.bool false] 4)) := ((Blw.refl _).alloc _).alloc _
  have hn0 : (((w.alloc (.cells #[.int .i64 t.1, .int .i64 t.2] 39)).alloc (.cells #[.bool false] 4)).cell? ⟨z, 0, none⟩) = some (.int .i64 now) := (h.blw hb0).now0
  refine (callsIn_wide (n := 5)).1 ?_
  refine callsIn_of_wp_marks Try.func60 rfl trivial ?_ rfl
  simp only [Try.ntmps60, List.size_toArray, List.length_cons, List.length_nil, Nat.reduceAdd, Nat.reduceSub, Array.replicate_succ, Array.replicate_zero, List.push_toArray, List.append_toArray, List.nil_append, List.cons_append]
  have g1 : decide (t.1 < 1) = false := decide_eq_false (by omega)
  have g2 : decide (99 < t.1) = false := decide_eq_false (by omega)
  have g3 : decide (t.2 ≤ now) = false := decide_eq_false (by omega)
  have g4 : decide (63 < t.2 - now) = false := decide_eq_false (by omega)
  gi_wp2
  have w1e : wrap64 (t.2 - now) = t.2 - now := by unfold wrap64; omega
  gi_quiet (fail)
  gi_wp2_with (refine ⟨trivial, ?_⟩; gi_at_call 56; refine (callsIn_wide.2 (timersIn_any _ _ _ _)).mono ?_; rintro e w' ⟨rfl, rfl⟩)
  obtain ⟨W0, hW0⟩ : ∃ W0, (((((w.alloc (.cells #[.int .i64 t.1, .int .i64 t.2] 39)).alloc (.cells #[.bool false] 4)).drewN nq).alloc (.cells #[.int .i64 0] 3)).alloc (.cells #[.slice (some ⟨z, 1, none⟩) 16 16] 23)) = W0 := ⟨_, rfl⟩
  obtain ⟨hT0, hc0, hs0⟩ : TKI w t 0 false W0 ∧ W0.cell? ⟨w.heap.size + 1 + 1 + 1, 0, none⟩ = some (.slice (some ⟨z, 1, none⟩) 16 16) ∧ W0.heap.size = w.heap.size + 1 + 1 + 1 + 1 := by
    rw [← hW0]; exact TKI.start w t nq _
  rw [hW0]
  have hH0 : Hid (HW lo z now R P C W0) := h.blw hT0.blw
  have hlen : ∀ k, k < 16 → (R k).length ≤ 1000 := fun k hk => by have := len_row (S := R) hk; have := hg.len; omega
  have hPS : Hid (PSAt (fun b => b < w.heap.size) W0 (some ⟨z, 1, none⟩) (pdn 16 R)) := (h.rows hlen).blw hT0.blw
  have hgl := hg.len
  have HG : Hid (GoodR now R) := hg
  have HH : Hid (HW lo z now R P C w) := h
  clear hW0 h hn0 hb0 hg hlen
  refine wpIn_rangeFunc_ownH (α := Tm) rfl (by omega) (gf := 86) (lb := #[.pointer (some ⟨w.heap.size + 1 + 1 + 1, 0, none⟩)]) rfl trivial (enters_of Try.func86 (by kernel_rfl) rfl)
    (timersIn_stops Fence.wide 4 trivial rfl (by omega) (w.heap.size + 1 + 1 + 1) (fun b => w.heap.size ≤ b) (fun b => b < w.heap.size) _ 16 16 R W0 (fun b hb hb2 => by omega) (fun b hb => by omega) hc0 hPS.out)
    (fun h k => modK_t h k) (modK_b (fun l hl => by omega)) (Below.refl _ _) (fun _ => rfl)
    (fun pre W => TKI w t pre.length false W ∧ Hid (∀ x ∈ pre, x.1 ≠ t.1))
    (fun c pre W => c = .ret ∧ (∃ n, TKI w t n false W) ∧ Hid (∃ x ∈ pre, x.1 = t.1))
    (fun s A B row hs hg hr => ⟨hs.1.grown hg (fun r e => ⟨by have := (hr r e).1; omega, (hr r e).2⟩), hs.2⟩)
    (fun c s A B row hs hg hr => ⟨hs.1, hs.2.1.imp (fun n h => h.grown hg (fun r e => ⟨by have := (hr r e).1; omega, (hr r e).2⟩)), hs.2.2⟩)
    ⟨hT0, fun x hx => by cases hx⟩
    (fun x a' W => ∃ Bx, W.cell? ⟨Bx, 0, none⟩ = some (.int .i64 x.1) ∧ W.cell? ⟨Bx, 1, none⟩ = some (.int .i64 x.2) ∧ a' = { tmps := #[.pointer (some ⟨z, 0, none⟩), .agg #[.int .i64 t.1, .int .i64 t.2], undef, .pointer (some ⟨w.heap.size, 0, none⟩), .pointer (some ⟨w.heap.size + 1, 0, none⟩), .pointer (some ⟨w.heap.size + 1 + 1, 0, none⟩), .pointer (some ⟨Bx, 0, none⟩), .pointer (some ⟨w.heap.size, 0, none⟩), .int .i64 t.1, .bool false, .bool false, .pointer (some ⟨w.heap.size, 0, none⟩), .int .i64 t.1, .bool false, .bool false, .bool false, .pointer (some ⟨w.heap.size, 1, none⟩), .int .i64 t.2, .pointer (some ⟨z, 0, none⟩), .pointer (some ⟨z, 0, none⟩), .pointer (some ⟨z, 0, none⟩), .int .i64 now, .bool false, .bool false, .bool false, .pointer (some ⟨w.heap.size, 1, none⟩), .int .i64 t.2, .pointer (some ⟨z, 0, none⟩), .pointer (some ⟨z, 0, none⟩), .pointer (some ⟨z, 0, none⟩), .int .i64 now, .int .i64 (t.2 - now), .bool false, .bool false, .pointer (some ⟨z, 0, none⟩), .pointer (some ⟨z, 0, none⟩), .pointer (some ⟨z, 1, none⟩), .slice (some ⟨z, 1, none⟩) 16 16, .func (.func 86) #[] #[.pointer (some ⟨w.heap.size + 1 + 1 + 1, 0, none⟩)], .agg #[.int .i64 x.1, .int .i64 x.2], undef, undef, undef, undef, undef, undef, undef, undef, undef, undef, undef, undef], defers := [] })
    (fun x a' s A B row hs hg hr => by
      obtain ⟨Bx, h1, h2, h3⟩ := hs
      exact ⟨Bx, cell_kept h1 hg (fun r e => (hr r e).2), cell_kept h2 hg (fun r e => (hr r e).2), h3⟩)
    ?assign ?body ?done ?stop
  case assign =>
    intro l pre x W K hi hK
    gi_wp2
    have hbx := get2 (box2 W (.int .i64 x.1) (.int .i64 x.2) 39)
    exact hK _ _ ((KeepsOthers.alloc _ _).from _) (((Blw.refl W).alloc _).mod _) ⟨hi.1.mod (((Blw.refl W).alloc _).mod (fun _ => False)) (fun _ h => h.elim), hi.2⟩ ⟨W.heap.size, hbx.1, hbx.2, rfl⟩
  case body =>
    rintro l pre x a' W hl hr0 ⟨hT, hne⟩ ⟨Bx, bx0, bx1, rfl⟩ hlt
    have t0 := hT.t0
    have m0 := hT.m
    have m1 := hT.mf
    have r0 := hT.r
    have r1 := hT.rf
    have hpl : (pre.length : Int) ≤ 100 := by
      have : (allN 16 R).length ≤ 20 := hgl
      omega
    have HT : Hid (TKI w t pre.length false W) := hT
    clear hT
    by_cases he : x.1 = t.1
    · gi_wp2
      exact ⟨(KeepsOthers.setCell _ _ _).from _, rfl, ⟨_, HT.out.setR false⟩, ⟨x, by simp, he⟩⟩
    · have hne2 : Hid (∀ y ∈ pre ++ [x], y.1 ≠ t.1) := fun y hy => by
        rcases List.mem_append.1 hy with h | h
        · exact hne.out y h
        · rw [List.mem_singleton.1 h]; exact he
      gi_wp2
      refine ⟨(KeepsOthers.setCell _ _ _).from _, Mod.setCell _ (p := ⟨w.heap.size + 1 + 1, 0, none⟩) (by show _ ≤ w.heap.size + 1 + 1; omega) _, ?_, hne2⟩
      have := HT.out.setM ((pre.length : Int) + 1)
      simpa using this
  case done =>
    rintro D xs W hD rfl ⟨hT, hne⟩ hK
    have m0 := hT.m
    have r0 := hT.r
    have r1 := hT.rf
    have t0 := hT.t0
    have t1 := hT.t1
    have HT : Hid (TKI w t (allN 16 R).length false W) := hT
    have HHW : Hid (HW lo z now R P C W) := HH.out.blw hT.blw
    have hDl : lo ≤ D := by omega
    have hfin : ∀ (W1 : World) (b : Bool), TKI w t (allN 16 R).length b W1 → W1.heap[D]? = some (.deferred (some [])) → (W1.putObj D (.deferred none)).cell? ⟨w.heap.size + 1, 0, none⟩ = some (.bool b) ∧ Mod (fun b => D = b) W1 (W1.putObj D (.deferred none)) := fun W1 b h hk =>
      ⟨cell_kept h.r (grownBy_putObj' _ D (.deferred none)) (fun r e => by cases e; exact ⟨_, hk, rfl⟩), (grown_mod (grownBy_putObj' W1 D (.deferred none))).mono (fun b e => Option.some.inj e)⟩
    have HF : Hid _ := hfin
    clear hT hfin
    by_cases h20 : (allR R).length = 20
    · have h20' : ((allN 16 R).length : Int) = 20 := by have : (allN 16 R).length = 20 := h20; omega
      gi_wp2
      obtain ⟨q1, q2⟩ := HF.out _ false (HT.out.setR false) ((KeepsOthers.setCell _ _ _).same D _ hK rfl)
      refine ⟨by simp, .inl ⟨_, _, rfl, run_takeDeferred ((KeepsOthers.setCell _ _ _).same D _ hK rfl), ?_⟩⟩
      refine ⟨.bool false, by simp [results, Try.results60, go_sem, q1], Or.inr ⟨fun ho => ho.2.2.2.2.2 h20, rfl⟩, ?_⟩
      exact Blw.mod (Mod.blw (HT.out.setR false).blw q2 (fun i e => by omega)) _
    · have hok : OkT now R t := ⟨o1, o2, o3, by omega, fun x hx => hne.out x hx, h20⟩
      have HOK : Hid (OkT now R t) := hok
      have h20' : ¬ ((allN 16 R).length : Int) = 20 := by have : ¬ (allN 16 R).length = 20 := h20; omega
      have hk16 := rowOf_lt now t.2
      have hnz : ∀ b, HX z P b → b < w.heap.size := fun b hb => HH.out.hx_lt hb
      have hsW := HT.out.blw.size
      have hDW : D < W.heap.size := (Array.getElem?_eq_some_iff.1 hK).1
      have hzW : w.heap.size + 1 < W.heap.size := World.block_lt_of_cell? _ _ r0
      have HPUT : Hid (Calls Try.prog 80 #[.pointer (some ⟨z, 0, none⟩), .agg #[.int .i64 t.1, .int .i64 t.2]] W fun e w1 => e = .returned (.tuple #[]) ∧ w1.cell? ⟨w.heap.size + 1, 0, none⟩ = some (.bool false) ∧ w1.frozen? ⟨w.heap.size + 1, 0, none⟩ = false ∧
          Hid ((∃ P' C', HW lo z now (put now R t) P' C' w1 ∧ ∀ j b, j < 16 → P' j = some ⟨b, 0, none⟩ → HX z P b ∨ W.heap.size ≤ b) ∧ Mod (HX z P) W w1 ∧ w1.heap[D]? = some (.deferred (some [])))) := by
        refine (put_any lo z now R P C t W HHW.out (by omega) h0 (by omega) (by omega) (by omega) (HG.out.sd _ hk16) (by have := len_row (S := R) hk16; omega)).mono ?_
        rintro e w1 ⟨rfl, hP, hm⟩
        have hn4 : ¬ HX z P (w.heap.size + 1) := fun hh => by have := hnz _ hh; omega
        have hnD : ¬ HX z P D := fun hh => by have := hnz _ hh; omega
        exact ⟨rfl, hm.cell r0 hn4, (World.frozen?_of_block (hm.block (w.heap.size + 1) hzW hn4)).trans r1, hP, hm, (hm.block D hDW hnD).trans hK⟩
      have hxl : ∀ b, HX z P b → b < W.heap.size ∧ b ≠ w.heap.size + 1 ∧ b ≠ D := fun b hb => by have := hnz b hb; exact ⟨by omega, by omega, by omega⟩
      have HXL : Hid _ := hxl
      have hz2 : HX z P z := Or.inl rfl
      clear hxl hnz HH HG HF HHW hok
      gi_wp2_with (refine ⟨trivial, ?_⟩; gi_at_call 80; refine (callsIn_wide.2 HPUT.out).mono ?_; rintro e w1 ⟨rfl, r0b, r1b, hE⟩; clear r0 r1 t0 t1 m0)
      obtain ⟨⟨P', C', hW', hold⟩, hm, hKD⟩ := hE.out
      have hK2 : (w1.setCell ⟨w.heap.size + 1, 0, none⟩ (.bool true)).heap[D]? = some (.deferred (some [])) := (KeepsOthers.setCell _ _ _).same D _ hKD rfl
      have m1 : Mod (fun b => b = w.heap.size + 1) w1 (w1.setCell ⟨w.heap.size + 1, 0, none⟩ (.bool true)) := Mod.setCell (X := fun b => b = w.heap.size + 1) _ (p := ⟨w.heap.size + 1, 0, none⟩) rfl _
      have m2 : Mod (fun b => b = D) (w1.setCell ⟨w.heap.size + 1, 0, none⟩ (.bool true)) ((w1.setCell ⟨w.heap.size + 1, 0, none⟩ (.bool true)).putObj D (.deferred none)) := (grown_mod (grownBy_putObj' _ D (.deferred none))).mono (fun b e => (Option.some.inj e).symm)
      have q1 : ((w1.setCell ⟨w.heap.size + 1, 0, none⟩ (.bool true)).putObj D (.deferred none)).cell? ⟨w.heap.size + 1, 0, none⟩ = some (.bool true) := cell_kept (World.cell?_setCell_same' _ _ _ (by rw [r0b]; rfl)) (grownBy_putObj' _ D (.deferred none)) (fun r e => by cases e; exact ⟨_, hK2, rfl⟩)
      refine ⟨by simp, .inl ⟨_, _, rfl, run_takeDeferred hK2, ?_⟩⟩
      have m12 := Mod.trans (m1.mono (Y := fun b => b = w.heap.size + 1 ∨ b = D) (fun b e => Or.inl e)) (m2.mono (fun b e => Or.inr e))
      have hPn : ∀ j b, j < 16 → P' j = some ⟨b, 0, none⟩ → ¬ (b = w.heap.size + 1 ∨ b = D) := fun j b hj e hh => by
        rcases hold j b hj e with h5 | h5
        · have := HXL.out b h5; omega
        · omega
      refine ⟨.bool true, by simp [results, Try.results60, go_sem, q1], Or.inl ⟨HOK.out, rfl, P', C', hW'.mod m12 (fun hh => by have := HXL.out z hz2; omega) hPn, fun j b hj e => (hold j b hj e).imp id (fun h => by omega)⟩, ?_⟩
      exact ((HT.out.blw.mod _).trans hm).tail m12 (fun i hi => by omega)
  case stop =>
    rintro D c pre W hD hpre ⟨rfl, ⟨n, hT⟩, hex⟩ hK
    have r0 := hT.r
    have HT : Hid (TKI w t n false W) := hT
    have q1 : (W.putObj D (.deferred none)).cell? ⟨w.heap.size + 1, 0, none⟩ = some (.bool false) := cell_kept hT.r (grownBy_putObj' _ D (.deferred none)) (fun r e => by cases e; exact ⟨_, hK, rfl⟩)
    have q2 : Mod (fun b => D = b) W (W.putObj D (.deferred none)) := (grown_mod (grownBy_putObj' W D (.deferred none))).mono (fun b e => Option.some.inj e)
    clear hT
    gi_wp2
    refine ⟨by simp, .inl ⟨_, _, rfl, run_takeDeferred hK, ?_⟩⟩
    refine ⟨.bool false, by simp [results, Try.results60, go_sem, q1], Or.inr ⟨fun ho => ?_, rfl⟩, Blw.mod (Mod.blw HT.out.blw q2 (fun i e => by omega)) _⟩
    obtain ⟨x, hx, e⟩ := hex.out
    exact ho.2.2.2.2.1 x (hpre.subset hx) e
set_option maxHeartbeats 1600000 in
set_option maxRecDepth 100000 in
theorem take_any (lo z : Nat) (now : Int) (R : Rws) (P : Nat → Option Addr) (C : Nat → Nat) (t : Tm) (w : World) (h : HW lo z now R P C w) (hlo : lo ≤ w.heap.size) (h0 : 0 ≤ now) (h1 : now ≤ 1000) (hg : GoodR now R) (ht1 : -9223372036854775808 ≤ t.2) (ht2 : t.2 ≤ 9223372036854775807) :
    Calls Try.prog 60 #[.pointer (some ⟨z, 0, none⟩), .agg #[.int .i64 t.1, .int .i64 t.2]] w fun e w' =>
      ((OkT now R t ∧ e = .returned (.bool true) ∧ ∃ P' C', HW lo z now (put now R t) P' C' w' ∧ ∀ j b, j < 16 → P' j = some ⟨b, 0, none⟩ → HX z P b ∨ w.heap.size ≤ b) ∨ (¬ OkT now R t ∧ e = .returned (.bool false))) ∧ Mod (HX z P) w w' := by
  by_cases o : 1 ≤ t.1 ∧ t.1 ≤ 99 ∧ now < t.2 ∧ t.2 - now ≤ 63
  · exact take_range lo z now R P C t w h hlo h0 h1 hg o.1 o.2.1 o.2.2.1 o.2.2.2
  · have HNO : Hid (¬ (1 ≤ t.1 ∧ t.1 ≤ 99 ∧ now < t.2 ∧ t.2 - now ≤ 63)) := o
    have hb0 : Blw w ((w.alloc (.cells #[.int .i64 t.1, .int .i64 t.2] 39)).alloc (.cells #[.bool false] 4)) := ((Blw.refl _).alloc _).alloc _
    have hn0 : (((w.alloc (.cells #[.int .i64 t.1, .int .i64 t.2] 39)).alloc (.cells #[.bool false] 4)).cell? ⟨z, 0, none⟩) = some (.int .i64 now) := (h.blw hb0).now0
    obtain ⟨c40, f40⟩ := new1 (w.alloc (.cells #[.int .i64 t.1, .int .i64 t.2] 39)) (.bool false) 4
    rw [World.size_alloc] at c40 f40
    by_cases a1 : t.1 < 1
    · have g1 : decide (t.1 < 1) = true := decide_eq_true a1
      clear o a1
      go_enter Try.func60, Try.ntmps60
      go_wp2
      go_quiet (fail)
      obtain ⟨W0, hW0⟩ : ∃ W0, (((w.alloc (.cells #[.int .i64 t.1, .int .i64 t.2] 39)).alloc (.cells #[.bool false] 4)).drewN nq) = W0 := ⟨_, rfl⟩
      have hbW : Blw ((w.alloc (.cells #[.int .i64 t.1, .int .i64 t.2] 39)).alloc (.cells #[.bool false] 4)) W0 := by rw [← hW0]; exact (Blw.refl _).drewN _
      have c4 := hbW.cell c40
      have f4 := hbW.frozenS c40 f40
      have hbb := hb0.trans hbW
      rw [hW0]
      clear hW0 hn0 c40 f40 h
      go_wp2
      refine bodyPost_ret (v := .bool false) (by simp [results, Try.results60, go_sem, c4]) rfl ?_
      exact ⟨Or.inr ⟨fun ho => HNO.out ⟨ho.1, ho.2.1, ho.2.2.1, ho.2.2.2.1⟩, rfl⟩, (hbb.setCell (by show _ ≤ w.heap.size + 1; omega) _).mod _⟩
    by_cases a2 : 99 < t.1
    · have g1 : decide (t.1 < 1) = false := decide_eq_false a1
      have g2 : decide (99 < t.1) = true := decide_eq_true a2
      clear o a1 a2
      go_enter Try.func60, Try.ntmps60
      go_wp2
      go_quiet (fail)
      obtain ⟨W0, hW0⟩ : ∃ W0, (((w.alloc (.cells #[.int .i64 t.1, .int .i64 t.2] 39)).alloc (.cells #[.bool false] 4)).drewN nq) = W0 := ⟨_, rfl⟩
      have hbW : Blw ((w.alloc (.cells #[.int .i64 t.1, .int .i64 t.2] 39)).alloc (.cells #[.bool false] 4)) W0 := by rw [← hW0]; exact (Blw.refl _).drewN _
      have c4 := hbW.cell c40
      have f4 := hbW.frozenS c40 f40
      have hbb := hb0.trans hbW
      rw [hW0]
      clear hW0 hn0 c40 f40 h
      go_wp2
      refine bodyPost_ret (v := .bool false) (by simp [results, Try.results60, go_sem, c4]) rfl ?_
      exact ⟨Or.inr ⟨fun ho => HNO.out ⟨ho.1, ho.2.1, ho.2.2.1, ho.2.2.2.1⟩, rfl⟩, (hbb.setCell (by show _ ≤ w.heap.size + 1; omega) _).mod _⟩
    by_cases a3 : t.2 ≤ now
    · have g1 : decide (t.1 < 1) = false := decide_eq_false a1
      have g2 : decide (99 < t.1) = false := decide_eq_false a2
      have g3 : decide (t.2 ≤ now) = true := decide_eq_true a3
      clear o a1 a2 a3
      go_enter Try.func60, Try.ntmps60
      go_wp2
      go_quiet (fail)
      obtain ⟨W0, hW0⟩ : ∃ W0, (((w.alloc (.cells #[.int .i64 t.1, .int .i64 t.2] 39)).alloc (.cells #[.bool false] 4)).drewN nq) = W0 := ⟨_, rfl⟩
      have hbW : Blw ((w.alloc (.cells #[.int .i64 t.1, .int .i64 t.2] 39)).alloc (.cells #[.bool false] 4)) W0 := by rw [← hW0]; exact (Blw.refl _).drewN _
      have c4 := hbW.cell c40
      have f4 := hbW.frozenS c40 f40
      have hbb := hb0.trans hbW
      rw [hW0]
      clear hW0 hn0 c40 f40 h
      go_wp2
      refine bodyPost_ret (v := .bool false) (by simp [results, Try.results60, go_sem, c4]) rfl ?_
      exact ⟨Or.inr ⟨fun ho => HNO.out ⟨ho.1, ho.2.1, ho.2.2.1, ho.2.2.2.1⟩, rfl⟩, (hbb.setCell (by show _ ≤ w.heap.size + 1; omega) _).mod _⟩
    · have g1 : decide (t.1 < 1) = false := decide_eq_false a1
      have g2 : decide (99 < t.1) = false := decide_eq_false a2
      have g3 : decide (t.2 ≤ now) = false := decide_eq_false a3
      have g4 : decide (63 < t.2 - now) = true := decide_eq_true (by omega)
      have w1e : wrap64 (t.2 - now) = t.2 - now := by unfold wrap64; omega
      clear o a1 a2 a3
      go_enter Try.func60, Try.ntmps60
      go_wp2
      go_quiet (fail)
      obtain ⟨W0, hW0⟩ : ∃ W0, (((w.alloc (.cells #[.int .i64 t.1, .int .i64 t.2] 39)).alloc (.cells #[.bool false] 4)).drewN nq) = W0 := ⟨_, rfl⟩
      have hbW : Blw ((w.alloc (.cells #[.int .i64 t.1, .int .i64 t.2] 39)).alloc (.cells #[.bool false] 4)) W0 := by rw [← hW0]; exact (Blw.refl _).drewN _
      have c4 := hbW.cell c40
      have f4 := hbW.frozenS c40 f40
      have hbb := hb0.trans hbW
      rw [hW0]
      clear hW0 hn0 c40 f40 h
      go_wp2
      refine bodyPost_ret (v := .bool false) (by simp [results, Try.results60, go_sem, c4]) rfl ?_
      exact ⟨Or.inr ⟨fun ho => HNO.out ⟨ho.1, ho.2.1, ho.2.2.1, ho.2.2.2.1⟩, rfl⟩, (hbb.setCell (by show _ ≤ w.heap.size + 1; omega) _).mod _⟩
end Go.Proofs.Ytkmkidahaagbpaa
