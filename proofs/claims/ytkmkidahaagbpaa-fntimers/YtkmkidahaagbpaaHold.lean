/- The program holds a wheel. -/
import Derived.Test.YtkmkidahaagbpaaBigw
namespace Go.Proofs.Ytkmkidahaagbpaa
open Go.RowKit Go.Shelf
attribute [local go_sem] Oper.semAt_some
set_option linter.unusedSimpArgs false
set_option linter.unusedVariables false
/-- The sixteen rows of a wheel. -/
def rows16 (D : WD) : Rws := fun k => if k < 8 then rlist D.N k else if k < 16 then rlist D.F (k - 8) else []
structure GoodD (D : WD) : Prop where
  now : 0 ≤ D.now ∧ D.now ≤ 1000
  n : D.N.n = 8
  f : D.F.n = 8
  g : GoodR D.now (rows16 D)
/-- All times are numbers of the machine. -/
def WD.wf (D : WD) : Prop := (∀ i t, i < D.N.n → t < D.N.len i → -9223372036854775808 ≤ D.N.m i t ∧ D.N.m i t ≤ 9223372036854775807) ∧ (∀ i t, i < D.F.n → t < D.F.len i → -9223372036854775808 ≤ D.F.m i t ∧ D.F.m i t ≤ 9223372036854775807)
theorem rlist_wf {D : PD} {i : Nat} (h : ∀ t, t < D.len i → -9223372036854775808 ≤ D.m i t ∧ D.m i t ≤ 9223372036854775807) {x : Tm} (hx : x ∈ rlist D i) : -9223372036854775808 ≤ x.2 ∧ x.2 ≤ 9223372036854775807 := by
  unfold rlist at hx
  obtain ⟨t, ht, rfl⟩ := List.mem_map.1 hx
  exact h t (List.mem_range.1 ht)
theorem rows_wf {D : WD} (h : D.wf) (hn : D.N.n = 8) (hf : D.F.n = 8) {x : Tm} (hx : x ∈ allR (rows16 D)) : -9223372036854775808 ≤ x.2 ∧ x.2 ≤ 9223372036854775807 := by
  obtain ⟨k, hk, hx⟩ := mem_all.1 hx
  unfold rows16 at hx
  split at hx
  · rename_i h8; exact rlist_wf (fun t ht => h.1 k t (by omega) ht) hx
  · rename_i h8
    exact rlist_wf (fun t ht => h.2 (k - 8) t (by omega) ht) hx
/-- What holdWheel answers. -/
def HoldPost (w : World) (D : WD) (e : Ending) (w' : World) : Prop := ∃ now R P C b, e = .returned (.tuple #[hval now R P C, .bool b]) ∧ BOf (GoodD D) b ∧ (b = true → now = D.now ∧ R = rows16 D ∧ HR w.heap.size R P C w') ∧ Blw w w'
theorem hold_no {w w' : World} {D : WD} (h : ¬ GoodD D) (now : Int) (R : Rws) (P : Nat → Option Addr) (C : Nat → Nat) (hb : Blw w w') : HoldPost w D (.returned (.tuple #[hval now R P C, .bool false])) w' :=
  ⟨now, R, P, C, false, rfl, by simp [BOf, h], (fun e => by cases e), hb⟩
theorem results_cell_cell {fn : Func} {p u : Tmp} {ty tu : TypeId} (h : fn.results = #[.cell p ty, .cell u tu]) (tmps : Array Value) (P : Program) (w : World) :
    (results fn tmps).run P w =
      ((asAddr (tmps.getD p undef)).run P w).andThen fun a w₁ => ((loadVar ty a).run P w₁).andThen fun v w₂ => ((asAddr (tmps.getD u undef)).run P w₂).andThen fun b w₃ => ((loadVar tu b).run P w₃).andThen fun x w₄ => .ok (.tuple #[v, x]) w₄ := by
  simp only [results, h]
  simp [Sem.run_bind, Result.andThen]
theorem load_bool {w : World} {b : Nat} {x : Bool} (h : w.cell? ⟨b, 0, none⟩ = some (.bool x)) : (loadVar 4 ⟨b, 0, none⟩).run Try.prog w = .ok (.bool x) w := by simp [go_sem, h]
/-- What holdWheel lays first. -/
structure HS (w : World) (v : WV) (D : WD) (W : World) : Prop where
  blw : Blw w W
  arg : Row W w.heap.size 3 (wrow v D)
  r : Row W (w.heap.size + 1) 17 hz0
  b : W.cell? ⟨w.heap.size + 1 + 1, 0, none⟩ = some (.bool false)
  bf : W.frozen? ⟨w.heap.size + 1 + 1, 0, none⟩ = false
  size : W.heap.size = w.heap.size + 1 + 1 + 1
theorem HS.start (w : World) (v : WV) (D : WD) (w1 : World) (hb0 : Blw w (w.alloc (.cells #[.int .i64 D.now, .slice v.a1 D.N.n v.c1, .slice v.a2 D.F.n v.c2] 25))) (r0 : Row (w.alloc (.cells #[.int .i64 D.now, .slice v.a1 D.N.n v.c1, .slice v.a2 D.F.n v.c2] 25)) w.heap.size 3 (wrow v D))
    (RZ : Row w1 (w.alloc (.cells #[.int .i64 D.now, .slice v.a1 D.N.n v.c1, .slice v.a2 D.F.n v.c2] 25)).heap.size 17 hz0) (hb1 : Blw (w.alloc (.cells #[.int .i64 D.now, .slice v.a1 D.N.n v.c1, .slice v.a2 D.F.n v.c2] 25)) w1) (hz1 : w1.heap.size = (w.alloc (.cells #[.int .i64 D.now, .slice v.a1 D.N.n v.c1, .slice v.a2 D.F.n v.c2] 25)).heap.size + 1) : HS w v D (w1.alloc (.cells #[.bool false] 4)) := by
  rw [World.size_alloc] at RZ hz1
  have q := new1 w1 (.bool false) 4
  rw [hz1] at q
  have bb : Blw w1 (w1.alloc (.cells #[.bool false] 4)) := (Blw.refl _).alloc _
  exact ⟨(hb0.trans hb1).trans bb, (r0.blw hb1).blw bb, RZ.blw bb, q.1, q.2, by rw [World.size_alloc, hz1]⟩
set_option maxHeartbeats 3200000 in
set_option maxRecDepth 100000 in
theorem hold_early (v : WV) (D : WD) (w : World) (hN : D.N.n ≤ 9223372036854775807) (hF : D.F.n ≤ 9223372036854775807) (hno : ¬ ((0 ≤ D.now ∧ D.now ≤ 1000) ∧ D.N.n = 8 ∧ D.F.n = 8)) :
    Calls Try.prog 48 #[v.val D] w (HoldPost w D) := by
  have hb0 : Blw w (w.alloc (.cells #[.int .i64 D.now, .slice v.a1 D.N.n v.c1, .slice v.a2 D.F.n v.c2] 25)) := (Blw.refl _).alloc _
  have r0 := box3 w (.int .i64 D.now) (.slice v.a1 D.N.n v.c1) (.slice v.a2 D.F.n v.c2) 25
  have HNG : Hid (¬ GoodD D) := fun hg => hno ⟨hg.now, hg.n, hg.f⟩
  go_enter Try.func48, Try.ntmps48
  go_upto_region 1 with (first | (refine alloc_big rfl 71 rfl 17 hz0 zeroH ?_; intro w1 RZ hb1 hz1) | fail)
  obtain ⟨W0, hS⟩ : ∃ W0, HS w v D W0 ∧ W0 = w1.alloc (.cells #[.bool false] 4) := ⟨_, HS.start w v D w1 hb0 r0 RZ hb1 hz1, rfl⟩
  obtain ⟨hS, hW0⟩ := hS
  rw [← hW0]
  clear hW0 RZ hb1 hz1 r0 hb0
  obtain ⟨p0, p1, p2⟩ := get3 hS.arg
  have RZ := hS.r
  have HZ : Hid (HS w v D W0) := hS
  have q0 := hS.b
  have q1 := hS.bf
  clear hS
  by_cases a0 : 0 ≤ D.now ∧ D.now ≤ 1000
  · have e0 : decide (0 ≤ D.now ∧ D.now ≤ 1000) = true := decide_eq_true a0
    by_cases a1 : D.N.n = 8
    · have a2 : ¬ D.F.n = 8 := fun h => hno ⟨a0, a1, h⟩
      have g1 : ((D.N.n : Int) != 8) = false := by simp; omega
      have g2 : ((D.F.n : Int) != 8) = true := by simp; omega
      clear hno a0 a1 a2
      go_wp2_with (first | (go_at_call 49; refine (isNow_any _ _).mono ?_; rintro e w' ⟨rfl, hw⟩; replace hw := hw.symm; subst hw; rw [e0]) | (refine wpList_buildTo rfl 71 _ rfl _ rfl (lst 17 hz0).toArray (by kernel_rfl) ?_) | (refine store_big rfl 71 _ _ rfl (w.heap.size + 1) 17 hz0 hz0 rfl rfl wdH RZ (fun i _ => hcell_one _ _ _ _ _) ?_; intro wz RZ9 hm9 hs9; replace q0 := hm9.cell q0 (by simp); have q2 := (World.frozen?_of_block (hm9.block (w.heap.size + 1 + 1) (World.block_lt_of_cell? _ _ HZ.out.b) (by simp))).trans q1; clear p0 p1 p2) | fail)
      have m1 : Mod (fun b => b = w.heap.size + 1 + 1) wz (wz.setCell ⟨w.heap.size + 1 + 1, 0, none⟩ (.bool false)) := Mod.setCell (X := fun b => b = w.heap.size + 1 + 1) _ (p := ⟨w.heap.size + 1 + 1, 0, none⟩) rfl _
      have hRf := RZ9.mod m1 (by simp)
      have c4 : (wz.setCell ⟨w.heap.size + 1 + 1, 0, none⟩ (.bool false)).cell? ⟨w.heap.size + 1 + 1, 0, none⟩ = some (.bool false) := World.cell?_setCell_same' _ _ _ (by rw [q0]; rfl)
      refine bodyPost_ret (v := .tuple #[hval 0 noR noP noC, .bool false]) (by rw [results_cell_cell rfl]; simp [asAddr, Result.andThen, run_load_big wdH hRf.cells, load_bool c4]) rfl ?_
      exact hold_no HNG.out _ _ _ _ (Mod.blw (Mod.blw HZ.out.blw hm9 (fun i e => by omega)) m1 (fun i e => by omega))
    · have g1 : ((D.N.n : Int) != 8) = true := by simp; omega
      clear hno a0 a1
      go_wp2_with (first | (go_at_call 49; refine (isNow_any _ _).mono ?_; rintro e w' ⟨rfl, hw⟩; replace hw := hw.symm; subst hw; rw [e0]) | (refine wpList_buildTo rfl 71 _ rfl _ rfl (lst 17 hz0).toArray (by kernel_rfl) ?_) | (refine store_big rfl 71 _ _ rfl (w.heap.size + 1) 17 hz0 hz0 rfl rfl wdH RZ (fun i _ => hcell_one _ _ _ _ _) ?_; intro wz RZ9 hm9 hs9; replace q0 := hm9.cell q0 (by simp); have q2 := (World.frozen?_of_block (hm9.block (w.heap.size + 1 + 1) (World.block_lt_of_cell? _ _ HZ.out.b) (by simp))).trans q1; clear p0 p1 p2) | fail)
      have m1 : Mod (fun b => b = w.heap.size + 1 + 1) wz (wz.setCell ⟨w.heap.size + 1 + 1, 0, none⟩ (.bool false)) := Mod.setCell (X := fun b => b = w.heap.size + 1 + 1) _ (p := ⟨w.heap.size + 1 + 1, 0, none⟩) rfl _
      have hRf := RZ9.mod m1 (by simp)
      have c4 : (wz.setCell ⟨w.heap.size + 1 + 1, 0, none⟩ (.bool false)).cell? ⟨w.heap.size + 1 + 1, 0, none⟩ = some (.bool false) := World.cell?_setCell_same' _ _ _ (by rw [q0]; rfl)
      refine bodyPost_ret (v := .tuple #[hval 0 noR noP noC, .bool false]) (by rw [results_cell_cell rfl]; simp [asAddr, Result.andThen, run_load_big wdH hRf.cells, load_bool c4]) rfl ?_
      exact hold_no HNG.out _ _ _ _ (Mod.blw (Mod.blw HZ.out.blw hm9 (fun i e => by omega)) m1 (fun i e => by omega))
  · have e0 : decide (0 ≤ D.now ∧ D.now ≤ 1000) = false := decide_eq_false a0
    clear hno a0
    go_wp2_with (first | (go_at_call 49; refine (isNow_any _ _).mono ?_; rintro e w' ⟨rfl, hw⟩; replace hw := hw.symm; subst hw; rw [e0]) | (refine wpList_buildTo rfl 71 _ rfl _ rfl (lst 17 hz0).toArray (by kernel_rfl) ?_) | (refine store_big rfl 71 _ _ rfl (w.heap.size + 1) 17 hz0 hz0 rfl rfl wdH RZ (fun i _ => hcell_one _ _ _ _ _) ?_; intro wz RZ9 hm9 hs9; replace q0 := hm9.cell q0 (by simp); have q2 := (World.frozen?_of_block (hm9.block (w.heap.size + 1 + 1) (World.block_lt_of_cell? _ _ HZ.out.b) (by simp))).trans q1; clear p0 p1 p2) | fail)
    have m1 : Mod (fun b => b = w.heap.size + 1 + 1) wz (wz.setCell ⟨w.heap.size + 1 + 1, 0, none⟩ (.bool false)) := Mod.setCell (X := fun b => b = w.heap.size + 1 + 1) _ (p := ⟨w.heap.size + 1 + 1, 0, none⟩) rfl _
    have hRf := RZ9.mod m1 (by simp)
    have c4 : (wz.setCell ⟨w.heap.size + 1 + 1, 0, none⟩ (.bool false)).cell? ⟨w.heap.size + 1 + 1, 0, none⟩ = some (.bool false) := World.cell?_setCell_same' _ _ _ (by rw [q0]; rfl)
    refine bodyPost_ret (v := .tuple #[hval 0 noR noP noC, .bool false]) (by rw [results_cell_cell rfl]; simp [asAddr, Result.andThen, run_load_big wdH hRf.cells, load_bool c4]) rfl ?_
    exact hold_no HNG.out _ _ _ _ (Mod.blw (Mod.blw HZ.out.blw hm9 (fun i e => by omega)) m1 (fun i e => by omega))
theorem store_bigIn {F : Fence} {nn : Nat} {ops : Array Oper} {rest : List Oper} {o : Oper} {a : Act} {w : World} {Q : Exit → Act → World → Prop} (hgd : o.guard = none) (T : TypeId) (x y : Operand) (ho : o.op = .store T x y) (b n : Nat) (f g : Nat → Value)
    (hx : a.eval x = .pointer (some ⟨b, 0, none⟩)) (hy : a.eval y = .agg (lst n f).toArray) (hT : Wd T n) (hr : Row w b n g) (h1 : ∀ i, i < n → (f i).oneCell' = true)
    (h : ∀ w', Row w' b n f → Mod (fun x => x = b) w w' → w'.heap.size = w.heap.size → wpListIn F nn Try.prog ops Q rest (a.put o.dst undef) w') : wpListIn F nn Try.prog ops Q (o :: rest) a w := by
  have hs : (lst n f).toArray.size = n := by simp [lst]
  refine wpListIn_plain hgd fun K hK => ?_
  unfold Oper.wpIn
  refine ⟨?_, ?_⟩
  · simp [Oper.about, ho]
  · rw [Oper.semAt_plain F _ _ (by rw [ho]; intro c hc'; cases hc')]
    unfold execOp
    simp only [ho, hx, hy, Instr.storeAt, Instr.sureAddr, Sem.run_bind, Sem.run_pure, Result.andThen_ok, run_storeVar_mid w b 0 T (lst n f).toArray (by rw [hs]; exact there_of hr) (by rw [hs]; exact hT.size) (lst_one h1)]
    obtain ⟨k1, k2, k3⟩ := setCells_row (f := f) hr
    exact hK _ _ (h _ k1 k2 k3)
theorem PSAt.congrR {Y : Nat → Prop} {w : World} {ao : Option Addr} {n : Nat} {R S : Rws} (h : PSAt Y w ao (pdn n R)) (e : ∀ k, k < n → R k = S k) : PSAt Y w ao (pdn n S) :=
  ⟨h.1, fun i hi => by
    obtain ⟨b, o, a, c, h1, hY, h2, h3⟩ := h.2 i hi
    have ei := e i hi
    refine ⟨b, o, a, c, h1, hY, ?_, ?_⟩
    · show w.cell? ⟨b, o + i, none⟩ = some (.slice a (S i).length c)
      rw [← ei]; exact h2
    · show UndosAt Y w a (S i).length (lf (S i)) (la (S i))
      rw [← ei]; exact h3⟩
/-- What stands when the held wheel is made. -/
structure HSG (w : World) (v : WV) (D : WD) (W : World) : Prop where
  blw : Blw w W
  r : Row W (w.heap.size + 1) 17 hz0
  b : W.cell? ⟨w.heap.size + 1 + 1, 0, none⟩ = some (.bool false)
  bf : W.frozen? ⟨w.heap.size + 1 + 1, 0, none⟩ = false
  h : Row W (w.heap.size + 1 + 1 + 1) 17 (hcell D.now noR noP noC)
  size : w.heap.size + 1 + 1 + 1 + 1 ≤ W.heap.size
theorem HSG.blw' {w : World} {v : WV} {D : WD} {W W' : World} (h : HSG w v D W) (hb : Blw W W') : HSG w v D W' := ⟨h.blw.trans hb, h.r.blw hb, hb.cell h.b, hb.frozenS h.b h.bf, h.h.blw hb, Nat.le_trans h.size hb.size⟩
/-- What stands between two rounds. -/
structure HI (now : Int) (z : Nat) (W1 : World) (pre : List Tm) (W : World) : Prop where
  mod : Mod (fun b => b = z ∨ W1.heap.size ≤ b) W1 W
  ex : ∃ R P C, takeL now pre noR = some R ∧ HW W1.heap.size z now R P C W
theorem HI.grown {now : Int} {z : Nat} {W1 : World} {pre : List Tm} {A B : World} {row : Option Nat} (h : HI now z W1 pre A) (hg : A.grownBy B row) (hr : ∀ r, row = some r → W1.heap.size ≤ r ∧ ∃ o : Obj, A.heap[r]? = some o ∧ o.isCells = false) : HI now z W1 pre B := by
  obtain ⟨R, P, C, h1, h2⟩ := h.ex
  exact ⟨h.mod.trans ((grown_mod hg).mono (fun b e => Or.inr (hr b e).1)), R, P, C, h1, h2.grown hg (fun r e => (hr r e).2)⟩
/-- What stands where a timer could not be taken in. -/
structure HX2 (z z2 : Nat) (W1 : World) (W : World) : Prop where
  mod : Mod (fun b => b = z ∨ b = z2 ∨ b = z2 + 1 ∨ W1.heap.size ≤ b) W1 W
  r : Row W z2 17 hz0
  b : W.cell? ⟨z2 + 1, 0, none⟩ = some (.bool false)
theorem HX2.grown {z z2 : Nat} {W1 : World} {A B : World} {row : Option Nat} (h : HX2 z z2 W1 A) (hg : A.grownBy B row) (hr : ∀ r, row = some r → W1.heap.size ≤ r ∧ ∃ o : Obj, A.heap[r]? = some o ∧ o.isCells = false) : HX2 z z2 W1 B := by
  refine ⟨h.mod.trans ((grown_mod hg).mono (fun b e => Or.inr (Or.inr (Or.inr (hr b e).1)))), h.r.mod (grown_mod hg) (fun e => ?_), cell_kept h.b hg (fun r e => (hr r e).2)⟩
  obtain ⟨o, ho, hc⟩ := (hr z2 e).2
  obtain ⟨c, t, hb, _⟩ := h.r
  rw [hb] at ho; cases ho; cases hc
theorem takeL_append (now : Int) (p q : List Tm) (S : Rws) : takeL now (p ++ q) S = (takeL now p S).bind (takeL now q) := by
  induction p generalizing S with
  | nil => rfl
  | cons t p ih =>
    simp only [List.cons_append, takeL]
    cases takeT now S t with
    | none => rfl
    | some T => exact ih T
theorem take_iff {now : Int} (h0 : 0 ≤ now) {R R' : Rws} (hz : ∀ k, 16 ≤ k → R k = []) (hT : takeL now (allR R) noR = some R') : ((∀ k, k < 16 → R k = R' k) ↔ GoodR now R) ∧ ((∀ k, k < 16 → R k = R' k) → R' = R) := by
  obtain ⟨h1, h2, h3⟩ := take_inv now h0 _ _ hT
  refine ⟨⟨fun h => h1.congr (fun k hk => (h k hk).symm), fun h k hk => ?_⟩, fun h => ?_⟩
  · have := take_good h hz
    rw [hT] at this
    cases this; rfl
  · funext k
    by_cases hk : k < 16
    · exact (h k hk).symm
    · rw [h3 k (by omega), hz k (by omega)]
theorem take_none {now : Int} {R : Rws} (hz : ∀ k, 16 ≤ k → R k = []) {pre : List Tm} (hp : pre <+: allR R) (hT : takeL now pre noR = none) : ¬ GoodR now R := fun h => by
  have := take_good h hz
  obtain ⟨q, hq⟩ := hp
  rw [← hq, takeL_append, hT] at this
  cases this
theorem rows16_out (D : WD) (k : Nat) (h : 16 ≤ k) : rows16 D k = [] := by unfold rows16; rw [if_neg (by omega), if_neg (by omega)]
theorem HR.down {lo lo' : Nat} {R : Rws} {P : Nat → Option Addr} {C : Nat → Nat} {w : World} (h : HR lo R P C w) (hl : lo' ≤ lo) : HR lo' R P C w := ⟨h.buf, fun k b hk e => Nat.le_trans hl (h.lo k b hk e), h.dis⟩
set_option maxHeartbeats 3200000 in
set_option maxRecDepth 100000 in
theorem hold_go (v : WV) (D : WD) (Y : Nat → Prop) (w : World) (h : WAt Y w v D) (hY : ∀ b, Y b → b < w.heap.size) (hwf : D.wf) (a0 : 0 ≤ D.now ∧ D.now ≤ 1000) (a1 : D.N.n = 8) (a2 : D.F.n = 8) :
    Calls Try.prog 48 #[v.val D] w (HoldPost w D) := by
  obtain ⟨now, ⟨n1, l1, q1, m1⟩, ⟨n2, l2, q2, m2⟩⟩ := D
  dsimp only at a0 a1 a2
  obtain rfl := a1
  obtain rfl := a2
  have HA : Hid (WAt Y w v (⟨now, ⟨8, l1, q1, m1⟩, ⟨8, l2, q2, m2⟩⟩ : WD)) := h
  have HWF : Hid (WD.wf (⟨now, ⟨8, l1, q1, m1⟩, ⟨8, l2, q2, m2⟩⟩ : WD)) := hwf
  have HY : Hid (∀ b, Y b → b < w.heap.size) := hY
  have HA0 : Hid (0 ≤ now ∧ now ≤ 1000) := a0
  have e0 : decide (0 ≤ now ∧ now ≤ 1000) = true := decide_eq_true a0
  clear h hwf hY
  have hb0 : Blw w (w.alloc (.cells #[.int .i64 now, .slice v.a1 8 v.c1, .slice v.a2 8 v.c2] 25)) := (Blw.refl _).alloc _
  have r0 := box3 w (.int .i64 now) (.slice v.a1 8 v.c1) (.slice v.a2 8 v.c2) 25
  refine (callsIn_wide (n := 9)).1 ?_
  refine callsIn_of_wp_marks Try.func48 rfl trivial ?_ rfl
  simp only [Try.ntmps48, List.size_toArray, List.length_cons, List.length_nil, Nat.reduceAdd, Nat.reduceSub, Array.replicate_succ, Array.replicate_zero, List.push_toArray, List.append_toArray, List.nil_append, List.cons_append]
  refine wpIn_wide.2 ?_
  go_upto_region 1 with (first | (refine alloc_big rfl 71 rfl 17 hz0 zeroH ?_; intro w1 RZ hb1 hz1) | fail)
  obtain ⟨W0, hS⟩ : ∃ W0, HS w v (⟨now, ⟨8, l1, q1, m1⟩, ⟨8, l2, q2, m2⟩⟩ : WD) W0 ∧ W0 = w1.alloc (.cells #[.bool false] 4) := ⟨_, HS.start w v (⟨now, ⟨8, l1, q1, m1⟩, ⟨8, l2, q2, m2⟩⟩ : WD) w1 hb0 r0 RZ hb1 hz1, rfl⟩
  obtain ⟨hS, hW0⟩ := hS
  rw [← hW0]
  clear hW0 RZ hb1 hz1 r0 hb0
  obtain ⟨p0, p1, p2⟩ := get3 hS.arg
  have HZ : Hid (HS w v (⟨now, ⟨8, l1, q1, m1⟩, ⟨8, l2, q2, m2⟩⟩ : WD) W0) := hS
  clear hS
  go_upto_region 4 with (first | (go_at_call 49; refine (isNow_any _ _).mono ?_; rintro e w' ⟨rfl, hw⟩; replace hw := hw.symm; subst hw; rw [e0]) | (refine wpList_buildTo rfl 71 _ rfl _ rfl (lst 17 (hcell now noR noP noC)).toArray (by kernel_rfl) ?_) | (refine alloc_big rfl 71 rfl 17 hz0 zeroH ?_; intro w2 RZ2 hb2 hz2; replace p1 := hb2.cell p1; replace p2 := hb2.cell p2) | (refine store_big rfl 71 _ _ rfl _ 17 (hcell now noR noP noC) hz0 rfl rfl wdH RZ2 (fun i _ => hcell_one _ _ _ _ _) ?_; intro wz RZ9 hm9 hs9; replace p1 := hm9.cell p1 (by have := HZ.out.size; simp; omega); replace p2 := hm9.cell p2 (by have := HZ.out.size; simp; omega)) | fail)
  obtain ⟨W2, hW2⟩ : ∃ W2, wz = W2 := ⟨_, rfl⟩
  have hz0 : W0.heap.size = w.heap.size + 1 + 1 + 1 := HZ.out.size
  have HT : Hid (HSG w v (⟨now, ⟨8, l1, q1, m1⟩, ⟨8, l2, q2, m2⟩⟩ : WD) W2) := by
    rw [← hW2]
    have hb3 : Blw W0 wz := Mod.blw hb2 hm9 (fun i e => by omega)
    exact ⟨HZ.out.blw.trans hb3, HZ.out.r.blw hb3, hb3.cell HZ.out.b, hb3.frozenS HZ.out.b HZ.out.bf, by rw [hz0] at RZ9; exact RZ9, by omega⟩
  rw [hz0] at *
  subst hW2
  clear hm9 hs9 hz2 hb2 RZ2 RZ9 HZ hz0 p0
  have HR0 : Hid (PSAt Y w v.a1 (pdn 8 (rows16 (⟨now, ⟨8, l1, q1, m1⟩, ⟨8, l2, q2, m2⟩⟩ : WD))) ∧ PSAt Y w v.a2 (pdn 8 (fun k => rows16 (⟨now, ⟨8, l1, q1, m1⟩, ⟨8, l2, q2, m2⟩⟩ : WD) (8 + k)))) :=
    ⟨(PSAt.rows (D := ⟨8, l1, q1, m1⟩) HA.out.n).congrR (fun k hk => by have hk2 : k < 8 := hk; simp only [rows16, if_pos hk2]), (PSAt.rows (D := ⟨8, l2, q2, m2⟩) HA.out.f).congrR (fun k hk => by have hk2 : k < 8 := hk; simp only [rows16, if_neg (show ¬ 8 + k < 8 by omega), if_pos (show 8 + k < 16 by omega), show 8 + k - 8 = k by omega])⟩
  have HQ : Hid (∀ k, k < 16 → ∀ x ∈ rows16 (⟨now, ⟨8, l1, q1, m1⟩, ⟨8, l2, q2, m2⟩⟩ : WD) k, -9223372036854775808 ≤ x.2 ∧ x.2 ≤ 9223372036854775807) := fun k hk x hx => rows_wf HWF.out rfl rfl (row_sub hk hx)
  obtain ⟨R, hRR⟩ : ∃ R, rows16 (⟨now, ⟨8, l1, q1, m1⟩, ⟨8, l2, q2, m2⟩⟩ : WD) = R := ⟨_, rfl⟩
  have HRR : Hid (rows16 (⟨now, ⟨8, l1, q1, m1⟩, ⟨8, l2, q2, m2⟩⟩ : WD) = R) := hRR
  rw [hRR] at HR0 HQ
  have hal : Blw wz (wz.alloc (.cells #[.slice v.a1 8 v.c1, .slice v.a2 8 v.c2] 23)) := (Blw.refl _).alloc _
  have HCC : Hid (Calls Try.prog 76 #[.slice (some ⟨wz.heap.size, 0, none⟩) 2 2] (wz.alloc (.cells #[.slice v.a1 8 v.c1, .slice v.a2 8 v.c2] 23)) fun e w4 => ∃ g c, e = .returned (.slice (some ⟨g, 0, none⟩) 16 c) ∧ Hid (w.heap.size + 1 + 1 + 1 + 1 ≤ g ∧ g < w4.heap.size ∧ PSAt (fun b => b < w.heap.size ∨ b = g) w4 (some ⟨g, 0, none⟩) (pdn 16 R) ∧ HSG w v (⟨now, ⟨8, l1, q1, m1⟩, ⟨8, l2, q2, m2⟩⟩ : WD) w4)) := by
    obtain ⟨k0, k1⟩ := get2 (box2 wz (.slice v.a1 8 v.c1) (.slice v.a2 8 v.c2) 23)
    have hbw := HT.out.blw.trans hal
    refine (concat_any wz.heap.size v.a1 v.a2 v.c1 v.c2 R Y _ k0 k1 (fun b hb => by have := HY.out b hb; have := hbw.size; omega) (HR0.out.1.blw hbw) (HR0.out.2.blw hbw)).mono ?_
    rintro e w4 ⟨g, c, rfl, hg, hP, hb4⟩
    have hs4 := HT.out.size
    have hs5 := hal.size
    have hlt : g < w4.heap.size := by
      obtain ⟨b, o, a, cc, e, _, hcell, _⟩ := hP.2 0 (by show 0 < 16; omega)
      cases e
      exact World.block_lt_of_cell? _ _ hcell
    exact ⟨g, c, rfl, by omega, hlt, hP.mono (fun b hb => hb.imp (fun h => HY.out b h) id), HT.out.blw' (hal.trans hb4)⟩
  clear hal HR0 HA HT
  go_wp2_with (first | (go_at_call 76; refine HCC.out.mono ?_; rintro e w4 ⟨gb, gc, rfl, hE⟩; clear p1 p2) | (go_at_call 56; refine (timersIn_any _ _ _ _).mono ?_; rintro e w5 ⟨rfl, hw5⟩; obtain ⟨W1, hW1⟩ : ∃ W1, w5 = W1 := ⟨_, rfl⟩; have hcB : W1.cell? ⟨w4.heap.size, 0, none⟩ = some (.slice (some ⟨gb, 0, none⟩) 16 gc) := (by rw [← hW1, hw5]; exact (new1 _ _ _).1); have hbW : Blw w4 W1 := (by rw [← hW1, hw5]; exact (Blw.refl _).alloc _); have hsW : W1.heap.size = w4.heap.size + 1 := (by rw [← hW1, hw5, World.size_alloc]); subst hW1; clear hw5) | fail)
  obtain ⟨hgb, hgl, hPS4, hSG4⟩ := hE.out
  have HPS : Hid (PSAt (fun b => b < w.heap.size ∨ b = gb) w5 (some ⟨gb, 0, none⟩) (pdn 16 R)) := hPS4.blw hbW
  have HSG5 : Hid (HSG w v (⟨now, ⟨8, l1, q1, m1⟩, ⟨8, l2, q2, m2⟩⟩ : WD) w5) := hSG4.blw' hbW
  have hs5 : w.heap.size + 1 + 1 + 1 + 1 ≤ w5.heap.size := HSG5.out.size
  have HRZ : Hid (∀ k, 16 ≤ k → R k = []) := fun k hk => by rw [← hRR]; exact rows16_out _ k hk
  have hgb5 : gb < w5.heap.size := by have := hbW.size; omega
  have hI0 : HI now (w.heap.size + 1 + 1 + 1) w5 [] w5 := ⟨Mod.refl _ _, noR, noP, noC, rfl, (HR.none w5.heap.size w5).box (fun k b _ e => by cases e) HSG5.out.h⟩
  clear HCC hE hRR hPS4 hSG4 hbW
  refine (wpIn_wide (n := 9)).1 ?_
  refine wpIn_rangeFunc_ownH (α := { x : Tm // -9223372036854775808 ≤ x.2 ∧ x.2 ≤ 9223372036854775807 }) rfl (by omega) (gf := 86) (lb := #[.pointer (some ⟨w4.heap.size, 0, none⟩)]) rfl trivial (enters_of Try.func86 (by kernel_rfl) rfl)
    (timersIn_stopsQ (fun x => -9223372036854775808 ≤ x.2 ∧ x.2 ≤ 9223372036854775807) Fence.wide 8 trivial rfl (by omega) w4.heap.size (fun b => b = w.heap.size + 1 + 1 + 1 ∨ w5.heap.size ≤ b) (fun b => b < w.heap.size ∨ b = gb) _ 16 gc R HQ.out w5 (fun b hb hb2 => by omega) (fun b hb => by omega) hcB HPS.out)
    (fun h k => modK_t h k) (modK_b (fun l hl => Or.inr hl)) (Below.refl _ _) (fun _ => rfl)
    (fun pre W => HI now (w.heap.size + 1 + 1 + 1) w5 (pre.map (·.1)) W)
    (fun c pre W => c = .ret ∧ Hid (takeL now (pre.map (·.1)) noR = none) ∧ HX2 (w.heap.size + 1 + 1 + 1) (w.heap.size + 1) w5 W)
    (fun s A B row hs hg hr => hs.grown hg hr)
    (fun c s A B row hs hg hr => ⟨hs.1, hs.2.1, hs.2.2.grown hg hr⟩)
    hI0
    (fun x a' W => ∃ Bx, W.cell? ⟨Bx, 0, none⟩ = some (.int .i64 x.1.1) ∧ W.cell? ⟨Bx, 1, none⟩ = some (.int .i64 x.1.2) ∧ a' = { tmps := #[v.val (⟨now, ⟨8, l1, q1, m1⟩, ⟨8, l2, q2, m2⟩⟩ : WD), .pointer (some ⟨w.heap.size, 0, none⟩), .pointer (some ⟨w.heap.size + 1, 0, none⟩), .pointer (some ⟨w.heap.size + 1 + 1, 0, none⟩), .pointer (some ⟨w.heap.size + 1 + 1 + 1, 0, none⟩), .slice (some ⟨gb, 0, none⟩) 16 gc, .pointer (some ⟨Bx, 0, none⟩), .pointer (some ⟨w.heap.size, 0, none⟩), .int .i64 now, .bool true, .bool false, .bool false, .pointer (some ⟨w.heap.size, 1, none⟩), .slice v.a1 8 v.c1, .int .i64 8, .bool false, .bool false, .bool false, .pointer (some ⟨w.heap.size, 2, none⟩), .slice v.a2 8 v.c2, .int .i64 8, .bool false, .bool false, undef, .pointer (some ⟨w.heap.size, 0, none⟩), .int .i64 now, .agg (lst 17 (hcell now noR noP noC)).toArray, .pointer (some ⟨w.heap.size, 1, none⟩), .slice v.a1 8 v.c1, .pointer (some ⟨w.heap.size, 2, none⟩), .slice v.a2 8 v.c2, .slice (some ⟨wz.heap.size, 0, none⟩) 2 2, .slice (some ⟨gb, 0, none⟩) 16 gc, .slice (some ⟨gb, 0, none⟩) 16 gc, .func (.func 86) #[] #[.pointer (some ⟨w4.heap.size, 0, none⟩)], .agg #[.int .i64 x.1.1, .int .i64 x.1.2], undef, undef, undef, undef, undef, undef, undef, undef, undef], defers := [] })
    (fun x a' s A B row hs hg hr => by
      obtain ⟨Bx, h1, h2, h3⟩ := hs
      exact ⟨Bx, cell_kept h1 hg (fun r e => (hr r e).2), cell_kept h2 hg (fun r e => (hr r e).2), h3⟩)
    ?assign ?body ?done ?stop
  case assign =>
    intro l pre x W K hi hK
    gi_wp2
    have hbx := get2 (box2 W (.int .i64 x.1.1) (.int .i64 x.1.2) 39)
    exact hK _ _ ((KeepsOthers.alloc _ _).from _) (((Blw.refl W).alloc _).mod _) (hi.grown (alloc_grown W _) (fun r e => by cases e)) ⟨W.heap.size, hbx.1, hbx.2, rfl⟩
  case body =>
    rintro l pre ⟨x, hx⟩ a' W hl hr0 hI ⟨Bx, bx0, bx1, rfl⟩ hlt
    dsimp only at bx0 bx1 ⊢
    obtain ⟨R', P', C', hT, hW⟩ := hI.ex
    have hmW := hI.mod
    have HMW : Hid (Mod (fun b => b = w.heap.size + 1 + 1 + 1 ∨ w5.heap.size ≤ b) w5 W) := hmW
    have hgR := (take_inv now HA0.out.1 _ _ hT).1
    have hCT := take_any w5.heap.size (w.heap.size + 1 + 1 + 1) now R' P' C' x W hW hmW.size HA0.out.1 HA0.out.2 hgR hx.1 hx.2
    have hKO : ∀ W', Mod (HX (w.heap.size + 1 + 1 + 1) P') W W' → Hid (KeepsFrom w5.heap.size W W' ∧ Mod (fun b => b = w.heap.size + 1 + 1 + 1 ∨ w5.heap.size ≤ b) W W') := fun W' hm => by
      refine ⟨⟨hm.size, fun k o hk ho hc => (hm.block k (Array.getElem?_eq_some_iff.1 ho).1 (fun hh => ?_)).trans ho⟩, hm.mono (fun b hb => hW.hx hb)⟩
      rcases hh with e | ⟨j, hj, e⟩
      · omega
      · rcases Buf.rowE (hW.buf j hj) with ⟨q, _⟩ | ⟨g', f', q, _, _, _, ⟨cu, hcu, _⟩, _⟩
        · rw [q] at e; cases e
        · rw [q] at e; cases e
          rw [hcu] at ho; cases ho; cases hc
    have hTs : Hid (takeL now ((pre ++ [⟨x, hx⟩] : List { x : Tm // -9223372036854775808 ≤ x.2 ∧ x.2 ≤ 9223372036854775807 }).map (·.1)) noR = takeT now R' x) := by
      show _ = _
      rw [List.map_append, List.map_cons, List.map_nil, takeL_snoc, hT]; rfl
    clear hI hmW hgR hT
    by_cases hok : OkT now R' x
    · have HOK : Hid (OkT now R' x) := hok
      have HCT : Hid (Calls Try.prog 60 #[.pointer (some ⟨w.heap.size + 1 + 1 + 1, 0, none⟩), .agg #[.int .i64 x.1, .int .i64 x.2]] W fun e w' => e = .returned (.bool true) ∧ Hid (HI now (w.heap.size + 1 + 1 + 1) w5 ((pre ++ [⟨x, hx⟩] : List { x : Tm // -9223372036854775808 ≤ x.2 ∧ x.2 ≤ 9223372036854775807 }).map (·.1)) w' ∧ KeepsFrom w5.heap.size W w' ∧ Mod (fun b => b = w.heap.size + 1 + 1 + 1 ∨ w5.heap.size ≤ b) W w')) := by
        refine hCT.mono ?_
        rintro e w' ⟨⟨_, rfl, P2, C2, hW2, _⟩ | ⟨hn, _⟩, hm⟩
        · obtain ⟨k1, k2⟩ := (hKO w' hm).out
          refine ⟨rfl, ⟨HMW.out.trans k2, put now R' x, P2, C2, ?_, hW2⟩, k1, k2⟩
          rw [hTs.out]; unfold takeT; rw [if_pos hok]
        · exact absurd HOK.out hn
      clear hCT hKO hTs hok hW
      gi_wp2_with (refine ⟨trivial, ?_⟩; gi_at_call 60; refine (CallsIn.inRound l (callsIn_wide.2 HCT.out)).mono ?_; rintro e w' ⟨rfl, hE⟩)
      exact ⟨hE.out.2.1, hE.out.2.2, hE.out.1⟩
    · have HOK : Hid (¬ OkT now R' x) := hok
      have HCT : Hid (Calls Try.prog 60 #[.pointer (some ⟨w.heap.size + 1 + 1 + 1, 0, none⟩), .agg #[.int .i64 x.1, .int .i64 x.2]] W fun e w' => e = .returned (.bool false) ∧ Hid (KeepsFrom w5.heap.size W w' ∧ Mod (fun b => b = w.heap.size + 1 + 1 + 1 ∨ w5.heap.size ≤ b) w5 w') ∧ Row w' (w.heap.size + 1) 17 hz0 ∧ w'.cell? ⟨w.heap.size + 1 + 1, 0, none⟩ = some (.bool false) ∧ w'.frozen? ⟨w.heap.size + 1 + 1, 0, none⟩ = false) := by
        refine hCT.mono ?_
        rintro e w' ⟨⟨ho, _⟩ | ⟨_, rfl⟩, hm⟩
        · exact absurd ho HOK.out
        · obtain ⟨k1, k2⟩ := (hKO w' hm).out
          have k3 := HMW.out.trans k2
          have q3 : ¬ (w.heap.size + 1 + 1 = w.heap.size + 1 + 1 + 1 ∨ w5.heap.size ≤ w.heap.size + 1 + 1) := by omega
          exact ⟨rfl, ⟨k1, k3⟩, HSG5.out.r.mod k3 (by omega), k3.cell HSG5.out.b q3, (World.frozen?_of_block (k3.block (w.heap.size + 1 + 1) (by omega) q3)).trans HSG5.out.bf⟩
      have HTN : Hid (takeL now ((pre ++ [⟨x, hx⟩] : List { x : Tm // -9223372036854775808 ≤ x.2 ∧ x.2 ≤ 9223372036854775807 }).map (·.1)) noR = none) := by
        show _ = _
        rw [hTs.out]; unfold takeT; rw [if_neg hok]
      clear hCT hKO hTs hok hW
      gi_wp2_with (first | (refine ⟨trivial, ?_⟩; gi_at_call 60; refine (CallsIn.inRound l (callsIn_wide.2 HCT.out)).mono ?_; rintro e w' ⟨rfl, hE, r2, c3, f3⟩; clear bx0 bx1) | (refine store_bigIn rfl 71 _ _ rfl (w.heap.size + 1) 17 hz0 hz0 rfl rfl wdH r2 (fun i _ => hcell_one _ _ _ _ _) ?_; intro wz9 RZ9 hm9 hs9; have c4 := hm9.cell c3 (by simp); have f4 := (World.frozen?_of_block (hm9.block (w.heap.size + 1 + 1) (World.block_lt_of_cell? _ _ c3) (by simp))).trans f3; clear c3 f3))
      have m1 : Mod (fun b => b = w.heap.size + 1 + 1) wz9 (wz9.setCell ⟨w.heap.size + 1 + 1, 0, none⟩ (.bool false)) := Mod.setCell (X := fun b => b = w.heap.size + 1 + 1) _ (p := ⟨w.heap.size + 1 + 1, 0, none⟩) rfl _
      refine ⟨?_, rfl, HTN.out, (hE.out.2.mono (fun b hb => by omega)).trans ((hm9.mono (fun b e => Or.inr (Or.inl e))).trans (m1.mono (fun b e => Or.inr (Or.inr (Or.inl e))))), RZ9.mod m1 (by simp), World.cell?_setCell_same' _ _ _ (by rw [c4]; rfl)⟩
      exact hE.out.1.trans ⟨Nat.le_trans hm9.size m1.size, fun k o hk ho hc => (m1.block k (Nat.lt_of_lt_of_le (Array.getElem?_eq_some_iff.1 ho).1 hm9.size) (fun e => by omega)).trans ((hm9.block k (Array.getElem?_eq_some_iff.1 ho).1 (fun e => by omega)).trans ho)⟩
  case done =>
    rintro Dd xs W hD hxs hI hK
    obtain ⟨R', P', C', hT, hW⟩ := hI.ex
    have hmW := hI.mod
    rw [show (xs.map (·.1)) = allR R from hxs] at hT
    have HTL : Hid (takeL now (allR R) noR = some R') := hT
    have hbWd : Blw W W.drew := (Blw.refl W).drew
    have HWd : Hid (HW w5.heap.size (w.heap.size + 1 + 1 + 1) now R' P' C' W.drew) := hW.blw hbWd
    have HKd : Hid (W.drew.heap[Dd]? = some (.deferred (some []))) := hK
    have HBW : Hid (Blw w W.drew ∧ w.heap.size + 1 + 1 + 1 + 1 ≤ w5.heap.size) := ⟨(Mod.blw HSG5.out.blw hmW (fun i e => by omega)).trans hbWd, hs5⟩
    have q3 : ¬ (w.heap.size + 1 + 1 = w.heap.size + 1 + 1 + 1 ∨ w5.heap.size ≤ w.heap.size + 1 + 1) := by omega
    have H2d : Hid (Row W.drew (w.heap.size + 1) 17 hz0 ∧ W.drew.cell? ⟨w.heap.size + 1 + 1, 0, none⟩ = some (.bool false) ∧ W.drew.frozen? ⟨w.heap.size + 1 + 1, 0, none⟩ = false) := ⟨(HSG5.out.r.mod hmW (by omega)).blw hbWd, hbWd.cell (hmW.cell HSG5.out.b q3), (World.frozen?_of_block (hmW.block (w.heap.size + 1 + 1) (by omega) q3)).trans HSG5.out.bf⟩
    have hgR := (take_inv now HA0.out.1 _ _ hT).1
    have HEQ : Hid (Calls Try.prog 77 #[.slice (some ⟨gb, 0, none⟩) 16 gc, .slice (some ⟨w.heap.size + 1 + 1 + 1, 1, none⟩) 16 16, .func (.func 78) #[] #[]] W.drew fun e w' => ∃ b, e = .returned (.bool b) ∧ BOf (∀ k, k < 16 → R k = R' k) b ∧ Blw W.drew w') :=
      equalF_any (some ⟨gb, 0, none⟩) (some ⟨w.heap.size + 1 + 1 + 1, 1, none⟩) gc 16 R R' _ _ W.drew ((HPS.out.mod hmW (fun b hb hb2 => by omega)).blw hbWd) (HWd.out.rows (fun k hk => by have := len_row (S := R') hk; have := hgR.len; omega))
    clear hI hT hmW hW hbWd q3 hgR hxs hK
    go_wp2_with fail
    refine wp_region_noPanic ?_
    refine wp_region_held_drew (S := fun _ => True) (by kernel_rfl) trivial (fun hB => ?_)
    clear hB
    generalize W.drew = wd at *
    refine wpAnyH_take (i := 1) (oi := { dst := some 41, op := Op.move (Operand.tmp 5), type := 23, pos := _, after := #[], guard := none }) (v := (.slice (some ⟨gb, 0, none⟩) 16 gc)) rfl (by kernel_rfl) (by kernel_rfl) (by kernel_rfl) (fun _ _ _ h => h) (Or.inl ⟨by rfl, fun w' hS => by (try dsimp only at hS); go_simp⟩) trivial ?_
    simp only [Act.put, List.setIfInBounds_toArray, List.set_cons_zero, List.set_cons_succ]
    refine wpAnyH_take (i := 2) (oi := { dst := some 42, op := Op.fieldAddr 71 (Operand.tmp 4) 1, type := 0, pos := _, after := #[], guard := none }) (v := (.pointer (some ⟨w.heap.size + 1 + 1 + 1, 1, none⟩))) rfl (by kernel_rfl) (by kernel_rfl) (by kernel_rfl) (fun _ _ _ h => h) (Or.inl ⟨by rfl, fun w' hS => by (try dsimp only at hS); go_simp⟩) trivial ?_
    simp only [Act.put, List.setIfInBounds_toArray, List.set_cons_zero, List.set_cons_succ]
    refine wpAnyH_take (i := 3) (oi := { dst := some 43, op := Op.slice 69 (Operand.tmp 42) none none none, type := 23, pos := _, after := #[{ on := 2, ground := Ground.data }], guard := none }) (v := (.slice (some ⟨w.heap.size + 1 + 1 + 1, 1, none⟩) 16 16)) rfl (by kernel_rfl) (by kernel_rfl) (by kernel_rfl) (fun _ _ _ h => h) (Or.inl ⟨by rfl, fun w' hS => by (try dsimp only at hS); go_simp⟩) trivial ?_
    simp only [Act.put, List.setIfInBounds_toArray, List.set_cons_zero, List.set_cons_succ]
    refine wpAnyH_ready (rs := [0, 4]) (by kernel_rfl) (by simp) ?_
    refine AllReadyH.cons (o := { dst := some 40, op := Op.load 71 (Operand.tmp 4), type := 71, pos := _, after := #[], guard := none }) rfl (fun K hK => ?_) (AllReadyH.cons (o := { dst := some 44, op := Op.call { callee := Callee.value (Operand.func 77), args := #[Operand.tmp 41, Operand.tmp 43, Operand.func 78], argTypes := #[23, 23, 36] }, type := 4, pos := _, after := #[{ on := 1, ground := Ground.data }, { on := 3, ground := Ground.data }], guard := none }) rfl (fun K hK => ?_) AllReadyH.nil)
    · refine step_load_big rfl 71 _ rfl (w.heap.size + 1 + 1 + 1) 0 17 rfl (hcell now R' P' C') wdH HWd.out.box.cells ?_
      refine hK.out _ _ trivial (fun hB => ?_)
      clear hK K hB
      try simp only [Act.put, List.setIfInBounds_toArray, List.set_cons_zero, List.set_cons_succ]
      refine wpAnyH_ready (rs := [4]) (by kernel_rfl) (by simp) ?_
      refine AllReadyH.cons (o := { dst := some 44, op := Op.call { callee := Callee.value (Operand.func 77), args := #[Operand.tmp 41, Operand.tmp 43, Operand.func 78], argTypes := #[23, 23, 36] }, type := 4, pos := _, after := #[{ on := 1, ground := Ground.data }, { on := 3, ground := Ground.data }], guard := none }) rfl (fun K hK => ?_) AllReadyH.nil
      go_simp
      refine HEQ.out.mono ?_
      rintro e w7 ⟨bb, rfl, hbb, hb7⟩
      have HB7 : Hid (Blw wd w7) := hb7
      have HBB : Hid (BOf (∀ k, k < 16 → R k = R' k) bb) := hbb
      clear hb7 hbb
      refine hK.out _ _ trivial (fun hB => ?_)
      clear hK K hB
      try simp only [Act.put, List.setIfInBounds_toArray, List.set_cons_zero, List.set_cons_succ]
      refine wpAnyH_ready (rs := [5]) (by kernel_rfl) (by simp) ?_
      refine AllReadyH.cons (o := { dst := none, op := Op.store 71 (Operand.tmp 2) (Operand.tmp 40), type := 0, pos := _, after := #[{ on := 0, ground := Ground.data }, { on := 4, ground := Ground.chain }, { on := 0, ground := Ground.phase }, { on := 1, ground := Ground.textOnly Departure.lateStores }, { on := 2, ground := Ground.textOnly Departure.lateStores }, { on := 3, ground := Ground.textOnly Departure.lateStoresUnsure }, { on := 4, ground := Ground.textOnly Departure.lateStoresUnsure }], guard := none }) rfl (fun K hK => ?_) AllReadyH.nil
      have r2 := H2d.out.1.blw HB7.out
      refine step_store_big rfl 71 _ _ rfl (w.heap.size + 1) 17 (hcell now R' P' C') hz0 rfl rfl wdH r2 (fun i _ => hcell_one _ _ _ _ _) ?_
      intro w8 r8 m8 s8
      refine hK.out _ _ trivial (fun hB => ?_)
      clear hK K hB
      try simp only [Act.put, List.setIfInBounds_toArray, List.set_cons_zero, List.set_cons_succ]
      refine wpAnyH_ready (rs := [6]) (by kernel_rfl) (by simp) ?_
      refine AllReadyH.cons (o := { dst := none, op := Op.store 4 (Operand.tmp 3) (Operand.tmp 44), type := 0, pos := _, after := #[{ on := 4, ground := Ground.data }, { on := 5, ground := Ground.chain }, { on := 0, ground := Ground.phase }, { on := 1, ground := Ground.phase }, { on := 2, ground := Ground.phase }, { on := 3, ground := Ground.phase }, { on := 4, ground := Ground.phase }, { on := 5, ground := Ground.phase }], guard := none }) rfl (fun K hK => ?_) AllReadyH.nil
      have c6 := m8.cell (HB7.out.cell H2d.out.2.1) (by simp)
      have f6 := (World.frozen?_of_block (m8.block (w.heap.size + 1 + 1) (World.block_lt_of_cell? _ _ (HB7.out.cell H2d.out.2.1)) (by simp))).trans (HB7.out.frozenS H2d.out.2.1 H2d.out.2.2)
      go_simp
      refine hK.out _ _ trivial (fun hB => ?_)
      clear hK K hB
      try simp only [Act.put, List.setIfInBounds_toArray, List.set_cons_zero, List.set_cons_succ]
      refine wpAnyH_done (by kernel_rfl) ?_ _
      refine NoPanic.normal ?_
      have HR8 : Hid (Row w8 (w.heap.size + 1) 17 (hcell now R' P' C')) := r8
      have HC6 : Hid (w8.cell? ⟨w.heap.size + 1 + 1, 0, none⟩ = some (.bool false)) := c6
      have HM8 : Hid (Mod (fun b => b = w.heap.size + 1) w7 w8) := m8
      clear r8 c6 f6 m8 s8 r2
      go_wp2
      have m9 : Mod (fun b => b = w.heap.size + 1 + 1) w8 (w8.setCell ⟨w.heap.size + 1 + 1, 0, none⟩ (.bool bb)) := Mod.setCell (X := fun b => b = w.heap.size + 1 + 1) _ (p := ⟨w.heap.size + 1 + 1, 0, none⟩) rfl _
      have mA : Mod (fun b => b = w.heap.size + 1 ∨ b = w.heap.size + 1 + 1) wd (w8.setCell ⟨w.heap.size + 1 + 1, 0, none⟩ (.bool bb)) := (HB7.out.mod _).trans ((HM8.out.mono (fun b e => Or.inl e)).trans (m9.mono (fun b e => Or.inr e)))
      have hW5 := HBW.out.2
      have hDlt : Dd < wd.heap.size := (Array.getElem?_eq_some_iff.1 HKd.out).1
      have hK9 : (w8.setCell ⟨w.heap.size + 1 + 1, 0, none⟩ (.bool bb)).heap[Dd]? = some (.deferred (some [])) := (mA.block Dd hDlt (fun e => by omega)).trans HKd.out
      have gB := grownBy_putObj' (w8.setCell ⟨w.heap.size + 1 + 1, 0, none⟩ (.bool bb)) Dd (.deferred none)
      have mB : Mod (fun b => b = Dd) (w8.setCell ⟨w.heap.size + 1 + 1, 0, none⟩ (.bool bb)) ((w8.setCell ⟨w.heap.size + 1 + 1, 0, none⟩ (.bool bb)).putObj Dd (.deferred none)) := (grown_mod gB).mono (fun b e => (Option.some.inj e).symm)
      have hWf := (HWd.out.mod mA (fun e => by omega) (fun k b hk e hh => by have := (HWd.out.lo k b hk e).1; omega)).grown gB (fun r e => by cases e; exact ⟨_, hK9, rfl⟩)
      have rf := (HR8.out.mod m9 (by simp)).mod mB (by omega)
      have cf : ((w8.setCell ⟨w.heap.size + 1 + 1, 0, none⟩ (.bool bb)).putObj Dd (.deferred none)).cell? ⟨w.heap.size + 1 + 1, 0, none⟩ = some (.bool bb) := cell_kept (World.cell?_setCell_same' _ _ _ (by rw [HC6.out]; rfl)) gB (fun r e => by cases e; exact ⟨_, hK9, rfl⟩)
      have hti := take_iff HA0.out.1 HRZ.out HTL.out
      refine ⟨by simp, .inl ⟨_, _, rfl, run_takeDeferred hK9, ?_⟩⟩
      refine ⟨.tuple #[hval now R' P' C', .bool bb], by rw [results_cell_cell rfl]; simp [asAddr, Result.andThen, run_load_big wdH rf.cells, load_bool cf], now, R', P', C', bb, rfl, ?_, fun e => ?_, ?_⟩
      · exact HBB.out.trans (hti.1.trans ⟨fun hg => ⟨HA0.out, rfl, rfl, by rw [HRR.out]; exact hg⟩, fun hg => by have := hg.g; rw [HRR.out] at this; exact this⟩)
      · exact ⟨rfl, by rw [HRR.out]; exact hti.2 (HBB.out.1 e), hWf.hr.down (by omega)⟩
      · exact Mod.blw (Mod.blw HBW.out.1 mA (fun i e => by omega)) mB (fun i e => by omega)
    · go_simp
      refine HEQ.out.mono ?_
      rintro e w7 ⟨bb, rfl, hbb, hb7⟩
      have HB7 : Hid (Blw wd w7) := hb7
      have HBB : Hid (BOf (∀ k, k < 16 → R k = R' k) bb) := hbb
      clear hb7 hbb
      refine hK.out _ _ trivial (fun hB => ?_)
      clear hK K hB
      try simp only [Act.put, List.setIfInBounds_toArray, List.set_cons_zero, List.set_cons_succ]
      refine wpAnyH_ready (rs := [0]) (by kernel_rfl) (by simp) ?_
      refine AllReadyH.cons (o := { dst := some 40, op := Op.load 71 (Operand.tmp 4), type := 71, pos := _, after := #[], guard := none }) rfl (fun K hK => ?_) AllReadyH.nil
      refine step_load_big rfl 71 _ rfl (w.heap.size + 1 + 1 + 1) 0 17 rfl (hcell now R' P' C') wdH (HWd.out.box.blw HB7.out).cells ?_
      refine hK.out _ _ trivial (fun hB => ?_)
      clear hK K hB
      try simp only [Act.put, List.setIfInBounds_toArray, List.set_cons_zero, List.set_cons_succ]
      refine wpAnyH_ready (rs := [5]) (by kernel_rfl) (by simp) ?_
      refine AllReadyH.cons (o := { dst := none, op := Op.store 71 (Operand.tmp 2) (Operand.tmp 40), type := 0, pos := _, after := #[{ on := 0, ground := Ground.data }, { on := 4, ground := Ground.chain }, { on := 0, ground := Ground.phase }, { on := 1, ground := Ground.textOnly Departure.lateStores }, { on := 2, ground := Ground.textOnly Departure.lateStores }, { on := 3, ground := Ground.textOnly Departure.lateStoresUnsure }, { on := 4, ground := Ground.textOnly Departure.lateStoresUnsure }], guard := none }) rfl (fun K hK => ?_) AllReadyH.nil
      have r2 := H2d.out.1.blw HB7.out
      refine step_store_big rfl 71 _ _ rfl (w.heap.size + 1) 17 (hcell now R' P' C') hz0 rfl rfl wdH r2 (fun i _ => hcell_one _ _ _ _ _) ?_
      intro w8 r8 m8 s8
      refine hK.out _ _ trivial (fun hB => ?_)
      clear hK K hB
      try simp only [Act.put, List.setIfInBounds_toArray, List.set_cons_zero, List.set_cons_succ]
      refine wpAnyH_ready (rs := [6]) (by kernel_rfl) (by simp) ?_
      refine AllReadyH.cons (o := { dst := none, op := Op.store 4 (Operand.tmp 3) (Operand.tmp 44), type := 0, pos := _, after := #[{ on := 4, ground := Ground.data }, { on := 5, ground := Ground.chain }, { on := 0, ground := Ground.phase }, { on := 1, ground := Ground.phase }, { on := 2, ground := Ground.phase }, { on := 3, ground := Ground.phase }, { on := 4, ground := Ground.phase }, { on := 5, ground := Ground.phase }], guard := none }) rfl (fun K hK => ?_) AllReadyH.nil
      have c6 := m8.cell (HB7.out.cell H2d.out.2.1) (by simp)
      have f6 := (World.frozen?_of_block (m8.block (w.heap.size + 1 + 1) (World.block_lt_of_cell? _ _ (HB7.out.cell H2d.out.2.1)) (by simp))).trans (HB7.out.frozenS H2d.out.2.1 H2d.out.2.2)
      go_simp
      refine hK.out _ _ trivial (fun hB => ?_)
      clear hK K hB
      try simp only [Act.put, List.setIfInBounds_toArray, List.set_cons_zero, List.set_cons_succ]
      refine wpAnyH_done (by kernel_rfl) ?_ _
      refine NoPanic.normal ?_
      have HR8 : Hid (Row w8 (w.heap.size + 1) 17 (hcell now R' P' C')) := r8
      have HC6 : Hid (w8.cell? ⟨w.heap.size + 1 + 1, 0, none⟩ = some (.bool false)) := c6
      have HM8 : Hid (Mod (fun b => b = w.heap.size + 1) w7 w8) := m8
      clear r8 c6 f6 m8 s8 r2
      go_wp2
      have m9 : Mod (fun b => b = w.heap.size + 1 + 1) w8 (w8.setCell ⟨w.heap.size + 1 + 1, 0, none⟩ (.bool bb)) := Mod.setCell (X := fun b => b = w.heap.size + 1 + 1) _ (p := ⟨w.heap.size + 1 + 1, 0, none⟩) rfl _
      have mA : Mod (fun b => b = w.heap.size + 1 ∨ b = w.heap.size + 1 + 1) wd (w8.setCell ⟨w.heap.size + 1 + 1, 0, none⟩ (.bool bb)) := (HB7.out.mod _).trans ((HM8.out.mono (fun b e => Or.inl e)).trans (m9.mono (fun b e => Or.inr e)))
      have hW5 := HBW.out.2
      have hDlt : Dd < wd.heap.size := (Array.getElem?_eq_some_iff.1 HKd.out).1
      have hK9 : (w8.setCell ⟨w.heap.size + 1 + 1, 0, none⟩ (.bool bb)).heap[Dd]? = some (.deferred (some [])) := (mA.block Dd hDlt (fun e => by omega)).trans HKd.out
      have gB := grownBy_putObj' (w8.setCell ⟨w.heap.size + 1 + 1, 0, none⟩ (.bool bb)) Dd (.deferred none)
      have mB : Mod (fun b => b = Dd) (w8.setCell ⟨w.heap.size + 1 + 1, 0, none⟩ (.bool bb)) ((w8.setCell ⟨w.heap.size + 1 + 1, 0, none⟩ (.bool bb)).putObj Dd (.deferred none)) := (grown_mod gB).mono (fun b e => (Option.some.inj e).symm)
      have hWf := (HWd.out.mod mA (fun e => by omega) (fun k b hk e hh => by have := (HWd.out.lo k b hk e).1; omega)).grown gB (fun r e => by cases e; exact ⟨_, hK9, rfl⟩)
      have rf := (HR8.out.mod m9 (by simp)).mod mB (by omega)
      have cf : ((w8.setCell ⟨w.heap.size + 1 + 1, 0, none⟩ (.bool bb)).putObj Dd (.deferred none)).cell? ⟨w.heap.size + 1 + 1, 0, none⟩ = some (.bool bb) := cell_kept (World.cell?_setCell_same' _ _ _ (by rw [HC6.out]; rfl)) gB (fun r e => by cases e; exact ⟨_, hK9, rfl⟩)
      have hti := take_iff HA0.out.1 HRZ.out HTL.out
      refine ⟨by simp, .inl ⟨_, _, rfl, run_takeDeferred hK9, ?_⟩⟩
      refine ⟨.tuple #[hval now R' P' C', .bool bb], by rw [results_cell_cell rfl]; simp [asAddr, Result.andThen, run_load_big wdH rf.cells, load_bool cf], now, R', P', C', bb, rfl, ?_, fun e => ?_, ?_⟩
      · exact HBB.out.trans (hti.1.trans ⟨fun hg => ⟨HA0.out, rfl, rfl, by rw [HRR.out]; exact hg⟩, fun hg => by have := hg.g; rw [HRR.out] at this; exact this⟩)
      · exact ⟨rfl, by rw [HRR.out]; exact hti.2 (HBB.out.1 e), hWf.hr.down (by omega)⟩
      · exact Mod.blw (Mod.blw HBW.out.1 mA (fun i e => by omega)) mB (fun i e => by omega)

  case stop =>
    rintro Dd c pre W hD hpre ⟨rfl, hT, hX⟩ hK
    have HX' : Hid (HX2 (w.heap.size + 1 + 1 + 1) (w.heap.size + 1) w5 W) := hX
    have gB := grownBy_putObj' W Dd (.deferred none)
    have mB : Mod (fun b => b = Dd) W (W.putObj Dd (.deferred none)) := (grown_mod gB).mono (fun b e => (Option.some.inj e).symm)
    have hX2 := hX.grown gB (fun r e => by cases e; exact ⟨hD, _, hK, rfl⟩)
    have HX3 : Hid (HX2 (w.heap.size + 1 + 1 + 1) (w.heap.size + 1) w5 (W.putObj Dd (.deferred none))) := hX2
    clear hX hX2 gB
    refine (wpIn_wide (n := 9)).2 ?_
    go_wp2
    refine ⟨by simp, .inl ⟨_, _, rfl, run_takeDeferred hK, ?_⟩⟩
    refine ⟨.tuple #[hval 0 noR noP noC, .bool false], by rw [results_cell_cell rfl]; simp [asAddr, Result.andThen, run_load_big wdH HX3.out.r.cells, load_bool HX3.out.b], hold_no (fun hg => ?_) _ _ _ _ (Mod.blw HSG5.out.blw HX3.out.mod (fun i e => by omega))⟩
    have := hg.g
    rw [HRR.out] at this
    exact take_none HRZ.out hpre hT.out this
theorem hold_any (v : WV) (D : WD) (Y : Nat → Prop) (w : World) (h : WAt Y w v D) (hY : ∀ b, Y b → b < w.heap.size) (hwf : D.wf) : Calls Try.prog 48 #[v.val D] w (HoldPost w D) := by
  by_cases hc : (0 ≤ D.now ∧ D.now ≤ 1000) ∧ D.N.n = 8 ∧ D.F.n = 8
  · exact hold_go v D Y w h hY hwf hc.1 hc.2.1 hc.2.2
  · exact hold_early v D w h.n.1 h.f.1 hc
end Go.Proofs.Ytkmkidahaagbpaa
