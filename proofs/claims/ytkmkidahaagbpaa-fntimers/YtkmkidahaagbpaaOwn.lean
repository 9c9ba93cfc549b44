/- The model's own copy of a wheel; a timer put into a row. -/
import Derived.Test.YtkmkidahaagbpaaNw
import Derived.Test.YtkmkidahaagbpaaSa
import Derived.Test.YtkmkidahaagbpaaGow
namespace Go.Proofs.Ytkmkidahaagbpaa
open Go.RowKit
set_option linter.unusedSimpArgs false
set_option linter.unusedVariables false
theorem LB.ge {X : Nat → Prop} {w : World} {a : Option Addr} {c : Nat} {l : List Tm} (h : LB X w a c l) {b : Nat} (e : a = some ⟨b, 0, none⟩) : X b := by
  rcases Buf.rowE h with ⟨h0, _⟩ | ⟨g', f', h0, hX, _⟩
  · rw [h0] at e; cases e
  · rw [h0] at e; cases e; exact hX
theorem HR.upd {lo : Nat} {R : Rws} {P : Nat → Option Addr} {C : Nat → Nat} {w w1 : World} (h : HR lo R P C w) {k : Nat} (hk : k < 16) (hlo : lo ≤ w.heap.size) (hb : Blw w w1) {a : Option Addr} {l : List Tm} {c : Nat} (hB : LB (fun b => w.heap.size ≤ b) w1 a c l) :
    HR lo (updN R k l) (updN P k a) (updN C k c) w1 := by
  refine ⟨fun k' hk' => ?_, fun k' b hk' e => ?_, fun k1 k2 b h1 h2 hne e1 e2 => ?_⟩
  · by_cases e : k' = k
    · subst e
      simp only [updN, if_true]
      exact ⟨hB.1, fun g hg => by
        rcases Buf.rowE hB with ⟨h0, _⟩ | ⟨g', f', h0, _⟩
        · rw [h0] at hg; simp [Value.ownBlock] at hg
        · rw [h0] at hg ⊢; simp [Value.ownBlock] at hg; subst hg; rfl⟩
    · simp only [updN, if_neg e]
      exact (h.buf k' hk').blw hb
  · unfold updN at e
    split at e
    · have := hB.ge e; omega
    · exact h.lo k' b hk' e
  · unfold updN at e1 e2
    split at e1
    · rename_i g1
      rw [if_neg (by omega)] at e2
      have := hB.ge e1; have := h.lt h2 e2; omega
    · split at e2
      · have := hB.ge e2; have := h.lt h1 e1; omega
      · exact h.dis k1 k2 b h1 h2 hne e1 e2
/-- A wheel of the model's own: two lists of rows at g1, g2. -/
structure OW (lo g1 g2 : Nat) (R : Rws) (P : Nat → Option Addr) (C : Nat → Nat) (w : World) : Prop where
  n : Row w g1 8 (fun i => .slice (P i) (R i).length (C i))
  f : Row w g2 8 (fun i => .slice (P (8 + i)) (R (8 + i)).length (C (8 + i)))
  hr : HR lo R P C w
  n1 : ∀ k, k < 16 → P k ≠ some ⟨g1, 0, none⟩
  n2 : ∀ k, k < 16 → P k ≠ some ⟨g2, 0, none⟩
  ne : g1 ≠ g2
  lo1 : lo ≤ g1
  lo2 : lo ≤ g2
theorem OW.mod {lo g1 g2 : Nat} {R : Rws} {P : Nat → Option Addr} {C : Nat → Nat} {w w' : World} {Z : Nat → Prop} (h : OW lo g1 g2 R P C w) (hm : Mod Z w w') (hz : ∀ b, lo ≤ b → ¬ Z b) : OW lo g1 g2 R P C w' :=
  ⟨h.n.mod hm (hz _ h.lo1), h.f.mod hm (hz _ h.lo2), h.hr.mod hm (fun k b hk e => hz b (h.hr.lo k b hk e)), h.n1, h.n2, h.ne, h.lo1, h.lo2⟩
theorem OW.blw {lo g1 g2 : Nat} {R : Rws} {P : Nat → Option Addr} {C : Nat → Nat} {w w' : World} (h : OW lo g1 g2 R P C w) (hb : Blw w w') : OW lo g1 g2 R P C w' := h.mod (hb.mod (fun _ => False)) (fun _ _ h => h)
theorem OW.lower {lo lo' g1 g2 : Nat} {R : Rws} {P : Nat → Option Addr} {C : Nat → Nat} {w : World} (h : OW lo g1 g2 R P C w) (hl : lo' ≤ lo) : OW lo' g1 g2 R P C w := ⟨h.n, h.f, ⟨h.hr.buf, fun k b hk e => Nat.le_trans hl (h.hr.lo k b hk e), h.hr.dis⟩, h.n1, h.n2, h.ne, Nat.le_trans hl h.lo1, Nat.le_trans hl h.lo2⟩
theorem OW.own {lo g1 g2 : Nat} {R : Rws} {P : Nat → Option Addr} {C : Nat → Nat} {w : World} (h : OW lo g1 g2 R P C w) (now : Int) (hl : ∀ k, k < 16 → (R k).length ≤ 1000) : WOwn (fun x => lo ≤ x ∧ x < w.heap.size) w ⟨some ⟨g1, 0, none⟩, some ⟨g2, 0, none⟩, 8, 8⟩ (wd8 now R) := wheel_own 8 8 h.hr hl h.n h.f h.n1 h.n2 h.ne h.lo1 h.lo2
theorem OW.at {lo g1 g2 : Nat} {R : Rws} {P : Nat → Option Addr} {C : Nat → Nat} {w : World} (h : OW lo g1 g2 R P C w) {k : Nat} (hk : k < 16) (hl : (R k).length ≤ 1000) : UndosAt (fun b => P k = some ⟨b, 0, none⟩) w (P k) (R k).length (lf (R k)) (la (R k)) := LB.at (h.hr.buf k hk) (by omega)
theorem OW.upd1 {lo g1 g2 : Nat} {R : Rws} {P : Nat → Option Addr} {C : Nat → Nat} {w w1 : World} (h : OW lo g1 g2 R P C w) {j : Nat} (hj : j < 8) (hlo : lo ≤ w.heap.size) (hb : Blw w w1) {a : Option Addr} {l : List Tm} {c : Nat} (hB : LB (fun b => w.heap.size ≤ b) w1 a c l) :
    OW lo g1 g2 (updN R j l) (updN P j a) (updN C j c) (w1.setCell ⟨g1, j, none⟩ (.slice a l.length c)) := by
  have z1 := h.n.lt
  have z2 := h.f.lt
  have hne := h.ne
  have ms : Mod (fun b => b = g1) w1 (w1.setCell ⟨g1, j, none⟩ (.slice a l.length c)) := Mod.setCell (X := fun b => b = g1) _ (p := ⟨g1, j, none⟩) rfl _
  have hu := h.hr.upd (k := j) (by omega) hlo hb hB
  have hP : ∀ g, g < w.heap.size → (∀ k, k < 16 → P k ≠ some ⟨g, 0, none⟩) → ∀ k, k < 16 → updN P j a k ≠ some ⟨g, 0, none⟩ := fun g hg hn k hk e => by
    unfold updN at e
    split at e
    · have := hB.ge e; omega
    · exact hn k hk e
  refine ⟨((h.n.blw hb).set j _).congr (fun i hi => ?_), ((h.f.blw hb).mod ms (fun e => hne e.symm)).congr (fun i hi => ?_), hu.mod ms (fun k b hk e e2 => hP g1 z1 h.n1 k hk (e2 ▸ e)), hP g1 z1 h.n1, hP g2 z2 h.n2, hne, h.lo1, h.lo2⟩
  · unfold updN
    by_cases e : i = j
    · subst e; simp
    · simp [e]
  · have e : ¬ 8 + i = j := by omega
    simp [updN, e]
theorem OW.upd2 {lo g1 g2 : Nat} {R : Rws} {P : Nat → Option Addr} {C : Nat → Nat} {w w1 : World} (h : OW lo g1 g2 R P C w) {j : Nat} (hj : j < 8) (hlo : lo ≤ w.heap.size) (hb : Blw w w1) {a : Option Addr} {l : List Tm} {c : Nat} (hB : LB (fun b => w.heap.size ≤ b) w1 a c l) :
    OW lo g1 g2 (updN R (8 + j) l) (updN P (8 + j) a) (updN C (8 + j) c) (w1.setCell ⟨g2, j, none⟩ (.slice a l.length c)) := by
  have z1 := h.n.lt
  have z2 := h.f.lt
  have hne := h.ne
  have ms : Mod (fun b => b = g2) w1 (w1.setCell ⟨g2, j, none⟩ (.slice a l.length c)) := Mod.setCell (X := fun b => b = g2) _ (p := ⟨g2, j, none⟩) rfl _
  have hu := h.hr.upd (k := 8 + j) (by omega) hlo hb hB
  have hP : ∀ g, g < w.heap.size → (∀ k, k < 16 → P k ≠ some ⟨g, 0, none⟩) → ∀ k, k < 16 → updN P (8 + j) a k ≠ some ⟨g, 0, none⟩ := fun g hg hn k hk e => by
    unfold updN at e
    split at e
    · have := hB.ge e; omega
    · exact hn k hk e
  refine ⟨((h.n.blw hb).mod ms (fun e => hne e)).congr (fun i hi => ?_), ((h.f.blw hb).set j _).congr (fun i hi => ?_), hu.mod ms (fun k b hk e e2 => hP g2 z2 h.n2 k hk (e2 ▸ e)), hP g1 z1 h.n1, hP g2 z2 h.n2, hne, h.lo1, h.lo2⟩
  · have e : ¬ i = 8 + j := by omega
    simp [updN, e]
  · unfold updN
    by_cases e : i = j
    · subst e; simp
    · have e2 : ¬ 8 + i = 8 + j := by omega
      simp [e, e2]
def cutR (R : Rws) (k : Nat) : Rws := fun j => if j < 8 then (if j < k then R j else []) else (if j < 8 + k then R j else [])
theorem cutR_succ (R : Rws) {k : Nat} (hk : k < 8) : updN (updN (cutR R k) k (R k)) (8 + k) (R (8 + k)) = cutR R (k + 1) := by
  funext j
  unfold updN cutR
  by_cases e : j = 8 + k
  · subst e; rw [if_pos rfl, if_neg (by omega), if_pos (by omega)]
  · by_cases e2 : j = k
    · subst e2; rw [if_neg e, if_pos rfl, if_pos hk, if_pos (by omega)]
    · rw [if_neg e, if_neg e2]
      by_cases h8 : j < 8
      · simp only [if_pos h8]
        by_cases h9 : j < k
        · rw [if_pos h9, if_pos (by omega)]
        · rw [if_neg h9, if_neg (by omega)]
      · simp only [if_neg h8]
        by_cases h9 : j < 8 + k
        · rw [if_pos h9, if_pos (by omega)]
        · rw [if_neg h9, if_neg (by omega)]
theorem cutR_all (R : Rws) (hz : ∀ k, 16 ≤ k → R k = []) : cutR R 8 = R := by
  funext j
  unfold cutR
  by_cases h8 : j < 8
  · simp [h8]
  · by_cases h9 : j < 16
    · simp [h8, h9]
    · simp [h8, h9, hz j (by omega)]
set_option maxRecDepth 100000 in
set_option maxHeartbeats 6400000 in
theorem l11Own_any (v : WV) (now : Int) (N F : PD) (R : Rws) (Y : Nat → Prop) (w : World) (hN : N.n = 8) (hF : F.n = 8) (h : WRows Y w v ⟨now, N, F⟩ R) (hl : ∀ k, k < 16 → (R k).length ≤ 1000) (hz : ∀ k, 16 ≤ k → R k = []) :
    Calls Try.prog 53 #[v.val ⟨now, N, F⟩] w fun e w' => ∃ g1 g2 P C, e = .returned (.agg #[.int .i64 now, .slice (some ⟨g1, 0, none⟩) 8 8, .slice (some ⟨g2, 0, none⟩) 8 8]) ∧ Hid (OW w.heap.size g1 g2 R P C w' ∧ Blw w w') := by
  obtain ⟨va1, va2, vc1, vc2⟩ := v
  obtain ⟨b1, o1, A1, k1, e1, -, hr1⟩ := h.n.fn (by omega)
  obtain ⟨b2, o2, A2, k2, e2, -, hr2⟩ := h.f.fn (by omega)
  dsimp only at e1 e2
  subst e1 e2
  have HR1 : Hid (∀ i, i < 8 → w.cell? ⟨b1, o1 + i, none⟩ = some (.slice (A1 i) (R i).length (k1 i)) ∧ UndosAt Y w (A1 i) (R i).length (lf (R i)) (la (R i))) := hr1
  have HR2 : Hid (∀ i, i < 8 → w.cell? ⟨b2, o2 + i, none⟩ = some (.slice (A2 i) (R (8 + i)).length (k2 i)) ∧ UndosAt Y w (A2 i) (R (8 + i)).length (lf (R (8 + i))) (la (R (8 + i)))) := hr2
  clear hr1 hr2
  obtain ⟨n1, p1, p2, p3⟩ := N
  obtain ⟨n2, q1, q2, q3⟩ := F
  dsimp only at hN hF
  subst hN hF
  have HL : Hid (∀ k, k < 16 → (R k).length ≤ 1000) := hl
  have HZ : Hid (∀ k, 16 ≤ k → R k = []) := hz
  have hb0 : Blw w (w.alloc (.cells #[.int .i64 now, .slice (some ⟨b1, o1, none⟩) 8 vc1, .slice (some ⟨b2, o2, none⟩) 8 vc2] 25)) := (Blw.refl _).alloc _
  have r0 := box3 w (.int .i64 now) (.slice (some ⟨b1, o1, none⟩) 8 vc1) (.slice (some ⟨b2, o2, none⟩) 8 vc2) 25
  obtain ⟨Wa, hWa⟩ : ∃ Wa, w.alloc (.cells #[.int .i64 now, .slice (some ⟨b1, o1, none⟩) 8 vc1, .slice (some ⟨b2, o2, none⟩) 8 vc2] 25) = Wa := ⟨_, rfl⟩
  rw [hWa] at hb0 r0
  have hsa : Wa.heap.size = w.heap.size + 1 := by rw [← hWa, World.size_alloc]
  have hb1 : Blw Wa (Wa.alloc (.cells #[.int .i64 0, .slice none 0 0, .slice none 0 0] 25)) := (Blw.refl _).alloc _
  have r1 := box3 Wa (.int .i64 0) (.slice none 0 0) (.slice none 0 0) 25
  have ra := r0.blw hb1
  obtain ⟨W0, hW0⟩ : ∃ W0, Wa.alloc (.cells #[.int .i64 0, .slice none 0 0, .slice none 0 0] 25) = W0 := ⟨_, rfl⟩
  rw [hW0] at hb1 r1 ra
  rw [hsa] at r1
  have hs0 : W0.heap.size = w.heap.size + 1 + 1 := by rw [← hW0, World.size_alloc, hsa]
  have HB : Hid (Blw w W0 ∧ W0.heap.size = w.heap.size + 1 + 1) := ⟨hb0.trans hb1, hs0⟩
  have HRA : Hid (Row W0 w.heap.size 3 (t3 (.int .i64 now) (.slice (some ⟨b1, o1, none⟩) 8 vc1) (.slice (some ⟨b2, o2, none⟩) 8 vc2))) := ra
  have HRB : Hid (Row W0 (w.heap.size + 1) 3 (t3 (.int .i64 0) (.slice none 0 0) (.slice none 0 0))) := r1
  clear h hb0 hb1 hl hz
  go_enter Try.func53, Try.ntmps53
  go_upto_region 1 with fail
  try simp only [hWa, hW0, hsa]
  clear hWa hW0 r0 ra r1 hsa hs0
  go_cut [3] from 5 to 9 (fun s3 wx => ∃ zb g1 g2, s3 = .pointer (some ⟨zb, 0, none⟩) ∧ Hid (Row wx zb 3 (t3 (.int .i64 now) (.slice (some ⟨g1, 0, none⟩) 8 8) (.slice (some ⟨g2, 0, none⟩) 8 8)) ∧ Row wx g1 8 (fun _ => .slice none 0 0) ∧ Row wx g2 8 (fun _ => .slice none 0 0) ∧ zb ≠ g1 ∧ zb ≠ g2 ∧ g1 ≠ g2 ∧ W0.heap.size ≤ zb ∧ W0.heap.size ≤ g1 ∧ W0.heap.size ≤ g2 ∧ Blw W0 wx))
  case first =>
    have hS0 : Blw W0 W0.drew := (Blw.refl _).drew
    have c0 : ∀ W, Blw W0 W → W.cell? ⟨w.heap.size, 0, none⟩ = some (.int .i64 now) := fun W hb => (get3 (HRA.out.blw hb)).1
    refine wp_region_noPanic ?_
    refine wp_region_held_drew (S := (Blw W0)) (by kernel_rfl) hS0 (fun hB => ?_)
    clear hB
    generalize W0.drew = wd at *
    refine wpAnyH_take (i := 0) (oi := { dst := some 5, op := Op.fieldAddr 25 (Operand.tmp 1) 0, type := 0, pos := _, after := #[], guard := none }) (v := (.pointer (some ⟨w.heap.size, 0, none⟩))) rfl (by kernel_rfl) (by kernel_rfl) (by kernel_rfl) (fun _ _ _ h => h) (Or.inl ⟨by rfl, fun w' hS => by (try dsimp only at hS); go_simp⟩) hS0 ?_
    simp only [Act.put, List.setIfInBounds_toArray, List.set_cons_zero, List.set_cons_succ]
    refine wpAnyH_take (i := 1) (oi := { dst := some 6, op := Op.load 3 (Operand.tmp 5), type := 3, pos := _, after := #[{ on := 0, ground := Ground.data }], guard := none }) (v := (.int .i64 now)) rfl (by kernel_rfl) (by kernel_rfl) (by kernel_rfl) (fun _ _ _ h => h) (Or.inl ⟨by rfl, fun w' hS => by (try dsimp only at hS); go_simp⟩) hS0 ?_
    simp only [Act.put, List.setIfInBounds_toArray, List.set_cons_zero, List.set_cons_succ]
    refine wpAnyH_ready (rs := [2, 5]) (by kernel_rfl) (by simp) ?_
    refine AllReadyH.cons (o := { dst := some 7, op := Op.call { callee := Callee.value (Operand.func 66), args := #[], argTypes := #[] }, type := 23, pos := _, after := #[], guard := none }) rfl (fun K hK => ?_) (AllReadyH.cons (o := { dst := some 3, op := Op.alloc 25, type := 0, pos := _, after := #[], guard := none }) rfl (fun K hK => ?_) AllReadyH.nil)
    · go_simp
      refine (empty_any _).mono ?_
      rintro e w' ⟨rfl, rfl⟩
      refine hK.out _ _ (hS0.alloc _) (fun hB => ?_)
      clear hK K hB
      try simp only [Act.put, List.setIfInBounds_toArray, List.set_cons_zero, List.set_cons_succ]
      refine wpAnyH_ready (rs := [3, 5]) (by kernel_rfl) (by simp) ?_
      refine AllReadyH.cons (o := { dst := some 8, op := Op.call { callee := Callee.value (Operand.func 66), args := #[], argTypes := #[] }, type := 23, pos := _, after := #[{ on := 2, ground := Ground.chain }], guard := none }) rfl (fun K hK => ?_) (AllReadyH.cons (o := { dst := some 3, op := Op.alloc 25, type := 0, pos := _, after := #[], guard := none }) rfl (fun K hK => ?_) AllReadyH.nil)
      · go_simp
        refine (empty_any _).mono ?_
        rintro e w' ⟨rfl, rfl⟩
        refine hK.out _ _ ((hS0.alloc _).alloc _) (fun hB => ?_)
        clear hK K hB
        try simp only [Act.put, List.setIfInBounds_toArray, List.set_cons_zero, List.set_cons_succ]
        refine wpAnyH_take (i := 4) (oi := { dst := some 9, op := Op.build 25 #[(0, Operand.tmp 6), (1, Operand.tmp 7), (2, Operand.tmp 8)], type := 25, pos := _, after := #[{ on := 1, ground := Ground.data }, { on := 2, ground := Ground.data }, { on := 3, ground := Ground.data }], guard := none }) (v := (.agg #[.int .i64 now, .slice (some ⟨wd.heap.size, 0, none⟩) 8 8, .slice (some ⟨wd.heap.size + 1, 0, none⟩) 8 8])) rfl (by kernel_rfl) (by kernel_rfl) (by kernel_rfl) (fun _ _ _ h => h) (Or.inl ⟨by rfl, fun w' hS => by (try dsimp only at hS); go_simp⟩) ((hS0.alloc _).alloc _) ?_
        simp only [Act.put, List.setIfInBounds_toArray, List.set_cons_zero, List.set_cons_succ]
        refine wpAnyH_ready (rs := [5]) (by kernel_rfl) (by simp) ?_
        refine AllReadyH.cons (o := { dst := some 3, op := Op.alloc 25, type := 0, pos := _, after := #[], guard := none }) rfl (fun K hK => ?_) AllReadyH.nil
        go_simp
        refine hK.out _ _ (((hS0.alloc _).alloc _).alloc _) (fun hB => ?_)
        clear hK K hB
        try simp only [Act.put, List.setIfInBounds_toArray, List.set_cons_zero, List.set_cons_succ]
        refine wpAnyH_ready (rs := [6]) (by kernel_rfl) (by simp) ?_
        refine AllReadyH.cons (o := { dst := none, op := Op.store 25 (Operand.tmp 3) (Operand.tmp 9), type := 0, pos := _, after := #[{ on := 5, ground := Ground.data }, { on := 4, ground := Ground.data }, { on := 3, ground := Ground.chain }, { on := 0, ground := Ground.phase }, { on := 1, ground := Ground.phase }, { on := 2, ground := Ground.phase }, { on := 3, ground := Ground.phase }, { on := 4, ground := Ground.phase }, { on := 5, ground := Ground.phase }], guard := none }) rfl (fun K hK => ?_) AllReadyH.nil
        have b0 : Blw wd (wd.alloc (.cells (madeCells #[.slice none 0 0] 8) 31)) := (Blw.refl _).alloc _
        have b1 : Blw (wd.alloc (.cells (madeCells #[.slice none 0 0] 8) 31)) ((wd.alloc (.cells (madeCells #[.slice none 0 0] 8) 31)).alloc (.cells (madeCells #[.slice none 0 0] 8) 31)) := (Blw.refl _).alloc _
        have b2 : Blw ((wd.alloc (.cells (madeCells #[.slice none 0 0] 8) 31)).alloc (.cells (madeCells #[.slice none 0 0] 8) 31)) (((wd.alloc (.cells (madeCells #[.slice none 0 0] 8) 31)).alloc (.cells (madeCells #[.slice none 0 0] 8) 31)).alloc (.cells #[.int .i64 0, .slice none 0 0, .slice none 0 0] 25)) := (Blw.refl _).alloc _
        have s1 : (wd.alloc (.cells (madeCells #[.slice none 0 0] 8) 31)).heap.size = wd.heap.size + 1 := by simp only [World.size_alloc]
        have s2 : ((wd.alloc (.cells (madeCells #[.slice none 0 0] 8) 31)).alloc (.cells (madeCells #[.slice none 0 0] 8) 31)).heap.size = wd.heap.size + 1 + 1 := by simp only [World.size_alloc]
        have s3 : (((wd.alloc (.cells (madeCells #[.slice none 0 0] 8) 31)).alloc (.cells (madeCells #[.slice none 0 0] 8) 31)).alloc (.cells #[.int .i64 0, .slice none 0 0, .slice none 0 0] 25)).heap.size = wd.heap.size + 1 + 1 + 1 := by simp only [World.size_alloc]
        have q2 := ((Row.made wd (.slice none 0 0) 8 31).blw b1).blw b2
        have q3 := (Row.made (wd.alloc (.cells (madeCells #[.slice none 0 0] 8) 31)) (.slice none 0 0) 8 31).blw b2
        rw [s1] at q3
        have q5 := box3 ((wd.alloc (.cells (madeCells #[.slice none 0 0] 8) 31)).alloc (.cells (madeCells #[.slice none 0 0] 8) 31)) (.int .i64 0) (.slice none 0 0) (.slice none 0 0) 25
        rw [s2] at q5
        have hSN : Blw W0 (((wd.alloc (.cells (madeCells #[.slice none 0 0] 8) 31)).alloc (.cells (madeCells #[.slice none 0 0] 8) 31)).alloc (.cells #[.int .i64 0, .slice none 0 0, .slice none 0 0] 25)) := (((hS0.alloc _).alloc _).alloc _)
        obtain ⟨WN, hWN⟩ : ∃ W, (((wd.alloc (.cells (madeCells #[.slice none 0 0] 8) 31)).alloc (.cells (madeCells #[.slice none 0 0] 8) 31)).alloc (.cells #[.int .i64 0, .slice none 0 0, .slice none 0 0] 25)) = W := ⟨_, rfl⟩
        rw [hWN] at q2 q3 q5 hSN
        rw [hWN]
        obtain ⟨v0, v1, v2⟩ := get3 q5
        have f0 := q5.frozen 0
        have f1 := q5.frozen 1
        have f2 := q5.frozen 2
        have hszd := hS0.size
        clear b0 b1 b2 s1 s2 s3 hWN
        go_simp
        refine hK.out _ _ (((hSN.setCell (p := ⟨wd.heap.size + 1 + 1, 0, none⟩) (show W0.heap.size ≤ wd.heap.size + 1 + 1 by omega) _).setCell (p := ⟨wd.heap.size + 1 + 1, 1, none⟩) (show W0.heap.size ≤ wd.heap.size + 1 + 1 by omega) _).setCell (p := ⟨wd.heap.size + 1 + 1, 2, none⟩) (show W0.heap.size ≤ wd.heap.size + 1 + 1 by omega) _) (fun hB => ?_)
        clear hK K hB
        try simp only [Act.put, List.setIfInBounds_toArray, List.set_cons_zero, List.set_cons_succ]
        refine wpAnyH_done (by kernel_rfl) ?_ _
        refine NoPanic.normal ?_
        go_wp2_with fail
        go_meet
        have r9 := set3_2 (set3_1 (set3_0 q5 (.int .i64 now)) (.slice (some ⟨wd.heap.size, 0, none⟩) 8 8)) (.slice (some ⟨wd.heap.size + 1, 0, none⟩) 8 8)
        have mS := set3_mod (X := fun b => b = wd.heap.size + 1 + 1) WN rfl (.int .i64 now) (.slice (some ⟨wd.heap.size, 0, none⟩) 8 8) (.slice (some ⟨wd.heap.size + 1, 0, none⟩) 8 8)
        exact ⟨wd.heap.size + 1 + 1, wd.heap.size, wd.heap.size + 1, rfl, r9, q2.mod mS (fun e => by omega), q3.mod mS (fun e => by omega), by omega, by omega, by omega, by omega, by omega, by omega, Mod.blw hSN mS (fun i e => by omega)⟩
      · go_simp
        refine hK.out _ _ ((hS0.alloc _).alloc _) (fun hB => ?_)
        clear hK K hB
        try simp only [Act.put, List.setIfInBounds_toArray, List.set_cons_zero, List.set_cons_succ]
        refine wpAnyH_ready (rs := [3]) (by kernel_rfl) (by simp) ?_
        refine AllReadyH.cons (o := { dst := some 8, op := Op.call { callee := Callee.value (Operand.func 66), args := #[], argTypes := #[] }, type := 23, pos := _, after := #[{ on := 2, ground := Ground.chain }], guard := none }) rfl (fun K hK => ?_) AllReadyH.nil
        go_simp
        refine (empty_any _).mono ?_
        rintro e w' ⟨rfl, rfl⟩
        refine hK.out _ _ (((hS0.alloc _).alloc _).alloc _) (fun hB => ?_)
        clear hK K hB
        try simp only [Act.put, List.setIfInBounds_toArray, List.set_cons_zero, List.set_cons_succ]
        refine wpAnyH_take (i := 4) (oi := { dst := some 9, op := Op.build 25 #[(0, Operand.tmp 6), (1, Operand.tmp 7), (2, Operand.tmp 8)], type := 25, pos := _, after := #[{ on := 1, ground := Ground.data }, { on := 2, ground := Ground.data }, { on := 3, ground := Ground.data }], guard := none }) (v := (.agg #[.int .i64 now, .slice (some ⟨wd.heap.size, 0, none⟩) 8 8, .slice (some ⟨wd.heap.size + 1 + 1, 0, none⟩) 8 8])) rfl (by kernel_rfl) (by kernel_rfl) (by kernel_rfl) (fun _ _ _ h => h) (Or.inl ⟨by rfl, fun w' hS => by (try dsimp only at hS); go_simp⟩) (((hS0.alloc _).alloc _).alloc _) ?_
        simp only [Act.put, List.setIfInBounds_toArray, List.set_cons_zero, List.set_cons_succ]
        refine wpAnyH_ready (rs := [6]) (by kernel_rfl) (by simp) ?_
        refine AllReadyH.cons (o := { dst := none, op := Op.store 25 (Operand.tmp 3) (Operand.tmp 9), type := 0, pos := _, after := #[{ on := 5, ground := Ground.data }, { on := 4, ground := Ground.data }, { on := 3, ground := Ground.chain }, { on := 0, ground := Ground.phase }, { on := 1, ground := Ground.phase }, { on := 2, ground := Ground.phase }, { on := 3, ground := Ground.phase }, { on := 4, ground := Ground.phase }, { on := 5, ground := Ground.phase }], guard := none }) rfl (fun K hK => ?_) AllReadyH.nil
        have b0 : Blw wd (wd.alloc (.cells (madeCells #[.slice none 0 0] 8) 31)) := (Blw.refl _).alloc _
        have b1 : Blw (wd.alloc (.cells (madeCells #[.slice none 0 0] 8) 31)) ((wd.alloc (.cells (madeCells #[.slice none 0 0] 8) 31)).alloc (.cells #[.int .i64 0, .slice none 0 0, .slice none 0 0] 25)) := (Blw.refl _).alloc _
        have b2 : Blw ((wd.alloc (.cells (madeCells #[.slice none 0 0] 8) 31)).alloc (.cells #[.int .i64 0, .slice none 0 0, .slice none 0 0] 25)) (((wd.alloc (.cells (madeCells #[.slice none 0 0] 8) 31)).alloc (.cells #[.int .i64 0, .slice none 0 0, .slice none 0 0] 25)).alloc (.cells (madeCells #[.slice none 0 0] 8) 31)) := (Blw.refl _).alloc _
        have s1 : (wd.alloc (.cells (madeCells #[.slice none 0 0] 8) 31)).heap.size = wd.heap.size + 1 := by simp only [World.size_alloc]
        have s2 : ((wd.alloc (.cells (madeCells #[.slice none 0 0] 8) 31)).alloc (.cells #[.int .i64 0, .slice none 0 0, .slice none 0 0] 25)).heap.size = wd.heap.size + 1 + 1 := by simp only [World.size_alloc]
        have s3 : (((wd.alloc (.cells (madeCells #[.slice none 0 0] 8) 31)).alloc (.cells #[.int .i64 0, .slice none 0 0, .slice none 0 0] 25)).alloc (.cells (madeCells #[.slice none 0 0] 8) 31)).heap.size = wd.heap.size + 1 + 1 + 1 := by simp only [World.size_alloc]
        have q2 := ((Row.made wd (.slice none 0 0) 8 31).blw b1).blw b2
        have q5 := (box3 (wd.alloc (.cells (madeCells #[.slice none 0 0] 8) 31)) (.int .i64 0) (.slice none 0 0) (.slice none 0 0) 25).blw b2
        rw [s1] at q5
        have q3 := Row.made ((wd.alloc (.cells (madeCells #[.slice none 0 0] 8) 31)).alloc (.cells #[.int .i64 0, .slice none 0 0, .slice none 0 0] 25)) (.slice none 0 0) 8 31
        rw [s2] at q3
        have hSN : Blw W0 (((wd.alloc (.cells (madeCells #[.slice none 0 0] 8) 31)).alloc (.cells #[.int .i64 0, .slice none 0 0, .slice none 0 0] 25)).alloc (.cells (madeCells #[.slice none 0 0] 8) 31)) := (((hS0.alloc _).alloc _).alloc _)
        obtain ⟨WN, hWN⟩ : ∃ W, (((wd.alloc (.cells (madeCells #[.slice none 0 0] 8) 31)).alloc (.cells #[.int .i64 0, .slice none 0 0, .slice none 0 0] 25)).alloc (.cells (madeCells #[.slice none 0 0] 8) 31)) = W := ⟨_, rfl⟩
        rw [hWN] at q2 q3 q5 hSN
        rw [hWN]
        obtain ⟨v0, v1, v2⟩ := get3 q5
        have f0 := q5.frozen 0
        have f1 := q5.frozen 1
        have f2 := q5.frozen 2
        have hszd := hS0.size
        clear b0 b1 b2 s1 s2 s3 hWN
        go_simp
        refine hK.out _ _ (((hSN.setCell (p := ⟨wd.heap.size + 1, 0, none⟩) (show W0.heap.size ≤ wd.heap.size + 1 by omega) _).setCell (p := ⟨wd.heap.size + 1, 1, none⟩) (show W0.heap.size ≤ wd.heap.size + 1 by omega) _).setCell (p := ⟨wd.heap.size + 1, 2, none⟩) (show W0.heap.size ≤ wd.heap.size + 1 by omega) _) (fun hB => ?_)
        clear hK K hB
        try simp only [Act.put, List.setIfInBounds_toArray, List.set_cons_zero, List.set_cons_succ]
        refine wpAnyH_done (by kernel_rfl) ?_ _
        refine NoPanic.normal ?_
        go_wp2_with fail
        go_meet
        have r9 := set3_2 (set3_1 (set3_0 q5 (.int .i64 now)) (.slice (some ⟨wd.heap.size, 0, none⟩) 8 8)) (.slice (some ⟨wd.heap.size + 1 + 1, 0, none⟩) 8 8)
        have mS := set3_mod (X := fun b => b = wd.heap.size + 1) WN rfl (.int .i64 now) (.slice (some ⟨wd.heap.size, 0, none⟩) 8 8) (.slice (some ⟨wd.heap.size + 1 + 1, 0, none⟩) 8 8)
        exact ⟨wd.heap.size + 1, wd.heap.size, wd.heap.size + 1 + 1, rfl, r9, q2.mod mS (fun e => by omega), q3.mod mS (fun e => by omega), by omega, by omega, by omega, by omega, by omega, by omega, Mod.blw hSN mS (fun i e => by omega)⟩
    · go_simp
      refine hK.out _ _ (hS0.alloc _) (fun hB => ?_)
      clear hK K hB
      try simp only [Act.put, List.setIfInBounds_toArray, List.set_cons_zero, List.set_cons_succ]
      refine wpAnyH_ready (rs := [2]) (by kernel_rfl) (by simp) ?_
      refine AllReadyH.cons (o := { dst := some 7, op := Op.call { callee := Callee.value (Operand.func 66), args := #[], argTypes := #[] }, type := 23, pos := _, after := #[], guard := none }) rfl (fun K hK => ?_) AllReadyH.nil
      go_simp
      refine (empty_any _).mono ?_
      rintro e w' ⟨rfl, rfl⟩
      refine hK.out _ _ ((hS0.alloc _).alloc _) (fun hB => ?_)
      clear hK K hB
      try simp only [Act.put, List.setIfInBounds_toArray, List.set_cons_zero, List.set_cons_succ]
      refine wpAnyH_ready (rs := [3]) (by kernel_rfl) (by simp) ?_
      refine AllReadyH.cons (o := { dst := some 8, op := Op.call { callee := Callee.value (Operand.func 66), args := #[], argTypes := #[] }, type := 23, pos := _, after := #[{ on := 2, ground := Ground.chain }], guard := none }) rfl (fun K hK => ?_) AllReadyH.nil
      go_simp
      refine (empty_any _).mono ?_
      rintro e w' ⟨rfl, rfl⟩
      refine hK.out _ _ (((hS0.alloc _).alloc _).alloc _) (fun hB => ?_)
      clear hK K hB
      try simp only [Act.put, List.setIfInBounds_toArray, List.set_cons_zero, List.set_cons_succ]
      refine wpAnyH_take (i := 4) (oi := { dst := some 9, op := Op.build 25 #[(0, Operand.tmp 6), (1, Operand.tmp 7), (2, Operand.tmp 8)], type := 25, pos := _, after := #[{ on := 1, ground := Ground.data }, { on := 2, ground := Ground.data }, { on := 3, ground := Ground.data }], guard := none }) (v := (.agg #[.int .i64 now, .slice (some ⟨wd.heap.size + 1, 0, none⟩) 8 8, .slice (some ⟨wd.heap.size + 1 + 1, 0, none⟩) 8 8])) rfl (by kernel_rfl) (by kernel_rfl) (by kernel_rfl) (fun _ _ _ h => h) (Or.inl ⟨by rfl, fun w' hS => by (try dsimp only at hS); go_simp⟩) (((hS0.alloc _).alloc _).alloc _) ?_
      simp only [Act.put, List.setIfInBounds_toArray, List.set_cons_zero, List.set_cons_succ]
      refine wpAnyH_ready (rs := [6]) (by kernel_rfl) (by simp) ?_
      refine AllReadyH.cons (o := { dst := none, op := Op.store 25 (Operand.tmp 3) (Operand.tmp 9), type := 0, pos := _, after := #[{ on := 5, ground := Ground.data }, { on := 4, ground := Ground.data }, { on := 3, ground := Ground.chain }, { on := 0, ground := Ground.phase }, { on := 1, ground := Ground.phase }, { on := 2, ground := Ground.phase }, { on := 3, ground := Ground.phase }, { on := 4, ground := Ground.phase }, { on := 5, ground := Ground.phase }], guard := none }) rfl (fun K hK => ?_) AllReadyH.nil
      have b0 : Blw wd (wd.alloc (.cells #[.int .i64 0, .slice none 0 0, .slice none 0 0] 25)) := (Blw.refl _).alloc _
      have b1 : Blw (wd.alloc (.cells #[.int .i64 0, .slice none 0 0, .slice none 0 0] 25)) ((wd.alloc (.cells #[.int .i64 0, .slice none 0 0, .slice none 0 0] 25)).alloc (.cells (madeCells #[.slice none 0 0] 8) 31)) := (Blw.refl _).alloc _
      have b2 : Blw ((wd.alloc (.cells #[.int .i64 0, .slice none 0 0, .slice none 0 0] 25)).alloc (.cells (madeCells #[.slice none 0 0] 8) 31)) (((wd.alloc (.cells #[.int .i64 0, .slice none 0 0, .slice none 0 0] 25)).alloc (.cells (madeCells #[.slice none 0 0] 8) 31)).alloc (.cells (madeCells #[.slice none 0 0] 8) 31)) := (Blw.refl _).alloc _
      have s1 : (wd.alloc (.cells #[.int .i64 0, .slice none 0 0, .slice none 0 0] 25)).heap.size = wd.heap.size + 1 := by simp only [World.size_alloc]
      have s2 : ((wd.alloc (.cells #[.int .i64 0, .slice none 0 0, .slice none 0 0] 25)).alloc (.cells (madeCells #[.slice none 0 0] 8) 31)).heap.size = wd.heap.size + 1 + 1 := by simp only [World.size_alloc]
      have s3 : (((wd.alloc (.cells #[.int .i64 0, .slice none 0 0, .slice none 0 0] 25)).alloc (.cells (madeCells #[.slice none 0 0] 8) 31)).alloc (.cells (madeCells #[.slice none 0 0] 8) 31)).heap.size = wd.heap.size + 1 + 1 + 1 := by simp only [World.size_alloc]
      have q5 := ((box3 wd (.int .i64 0) (.slice none 0 0) (.slice none 0 0) 25).blw b1).blw b2
      have q2 := (Row.made (wd.alloc (.cells #[.int .i64 0, .slice none 0 0, .slice none 0 0] 25)) (.slice none 0 0) 8 31).blw b2
      rw [s1] at q2
      have q3 := Row.made ((wd.alloc (.cells #[.int .i64 0, .slice none 0 0, .slice none 0 0] 25)).alloc (.cells (madeCells #[.slice none 0 0] 8) 31)) (.slice none 0 0) 8 31
      rw [s2] at q3
      have hSN : Blw W0 (((wd.alloc (.cells #[.int .i64 0, .slice none 0 0, .slice none 0 0] 25)).alloc (.cells (madeCells #[.slice none 0 0] 8) 31)).alloc (.cells (madeCells #[.slice none 0 0] 8) 31)) := (((hS0.alloc _).alloc _).alloc _)
      obtain ⟨WN, hWN⟩ : ∃ W, (((wd.alloc (.cells #[.int .i64 0, .slice none 0 0, .slice none 0 0] 25)).alloc (.cells (madeCells #[.slice none 0 0] 8) 31)).alloc (.cells (madeCells #[.slice none 0 0] 8) 31)) = W := ⟨_, rfl⟩
      rw [hWN] at q2 q3 q5 hSN
      rw [hWN]
      obtain ⟨v0, v1, v2⟩ := get3 q5
      have f0 := q5.frozen 0
      have f1 := q5.frozen 1
      have f2 := q5.frozen 2
      have hszd := hS0.size
      clear b0 b1 b2 s1 s2 s3 hWN
      go_simp
      refine hK.out _ _ (((hSN.setCell (p := ⟨wd.heap.size, 0, none⟩) (show W0.heap.size ≤ wd.heap.size by omega) _).setCell (p := ⟨wd.heap.size, 1, none⟩) (show W0.heap.size ≤ wd.heap.size by omega) _).setCell (p := ⟨wd.heap.size, 2, none⟩) (show W0.heap.size ≤ wd.heap.size by omega) _) (fun hB => ?_)
      clear hK K hB
      try simp only [Act.put, List.setIfInBounds_toArray, List.set_cons_zero, List.set_cons_succ]
      refine wpAnyH_done (by kernel_rfl) ?_ _
      refine NoPanic.normal ?_
      go_wp2_with fail
      go_meet
      have r9 := set3_2 (set3_1 (set3_0 q5 (.int .i64 now)) (.slice (some ⟨wd.heap.size + 1, 0, none⟩) 8 8)) (.slice (some ⟨wd.heap.size + 1 + 1, 0, none⟩) 8 8)
      have mS := set3_mod (X := fun b => b = wd.heap.size) WN rfl (.int .i64 now) (.slice (some ⟨wd.heap.size + 1, 0, none⟩) 8 8) (.slice (some ⟨wd.heap.size + 1 + 1, 0, none⟩) 8 8)
      exact ⟨wd.heap.size, wd.heap.size + 1, wd.heap.size + 1 + 1, rfl, r9, q2.mod mS (fun e => by omega), q3.mod mS (fun e => by omega), by omega, by omega, by omega, by omega, by omega, by omega, Mod.blw hSN mS (fun i e => by omega)⟩
  case rest =>
    obtain ⟨zb, g1, g2, rfl, hE⟩ := hcut
    obtain ⟨rz, rg1, rg2, d1, d2, d3, l0, l1, l2, hbw⟩ := hE.out
    have HNE : Hid (zb ≠ g1 ∧ zb ≠ g2 ∧ g1 ≠ g2 ∧ w.heap.size + 1 < zb ∧ w.heap.size + 1 < g1 ∧ w.heap.size + 1 < g2) := ⟨d1, d2, d3, by have := HB.out.2; omega, by have := HB.out.2; omega, by have := HB.out.2; omega⟩
    have ho : OW (w.heap.size + 1 + 1) g1 g2 (cutR R 0) (fun _ => none) (fun _ => 0) wc := ⟨rg1.congr (fun i hi => by simp [cutR, hi]), rg2.congr (fun i hi => by rw [show cutR R 0 (8 + i) = [] from by unfold cutR; rw [if_neg (by omega), if_neg (by omega)]]; rfl), ⟨fun k hk => by
      have e : cutR R 0 k = [] := by unfold cutR; split <;> first | (simp; done) | (rw [if_neg (by omega)])
      rw [e]; exact Buf.nil _ _ _ _ _, (fun _ _ _ e => by cases e), (fun _ _ _ _ _ _ e => by cases e)⟩, (fun _ _ e => by cases e), (fun _ _ e => by cases e), d3, by have := HNE.out; omega, by have := HNE.out; omega⟩
    have HI0 : Hid ((fun W => OW (w.heap.size + 1 + 1) g1 g2 (cutR R 0) (fun _ => none) (fun _ => 0) W ∧ Row W zb 3 (t3 (.int .i64 now) (.slice (some ⟨g1, 0, none⟩) 8 8) (.slice (some ⟨g2, 0, none⟩) 8 8)) ∧ Row W w.heap.size 3 (t3 (.int .i64 now) (.slice (some ⟨b1, o1, none⟩) 8 vc1) (.slice (some ⟨b2, o2, none⟩) 8 vc2)) ∧ Row W (w.heap.size + 1) 3 (t3 (.int .i64 0) (.slice none 0 0) (.slice none 0 0)) ∧ Blw w W) wc) := ⟨ho, rz, HRA.out.blw hbw, HRB.out.blw hbw, HB.out.1.trans hbw⟩
    have ra := get3 (HRA.out.blw hbw)
    obtain ⟨a0, a1, a2⟩ := ra
    clear hE rz rg1 rg2 d1 d2 d3 l0 l1 l2 hbw ho HRA HRB
    go_upto_region 3 with fail
    clear a0 a1 a2
    go_loopw [13] (fun i wr => ∃ (k : Nat) (P : Nat → Option Addr) (C : Nat → Nat), k ≤ 8 ∧ i = .int .i64 k ∧ Hid ((fun W => OW (w.heap.size + 1 + 1) g1 g2 (cutR R k) (P) (C) W ∧ Row W zb 3 (t3 (.int .i64 now) (.slice (some ⟨g1, 0, none⟩) 8 8) (.slice (some ⟨g2, 0, none⟩) 8 8)) ∧ Row W w.heap.size 3 (t3 (.int .i64 now) (.slice (some ⟨b1, o1, none⟩) 8 vc1) (.slice (some ⟨b2, o2, none⟩) 8 vc2)) ∧ Row W (w.heap.size + 1) 3 (t3 (.int .i64 0) (.slice none 0 0) (.slice none 0 0)) ∧ Blw w W) wr)) (fun i _ => 8 - (intOf i).toNat)
    case atStart => exact ⟨0, fun _ => none, fun _ => 0, by omega, rfl, HI0.out⟩
    case round =>
      obtain ⟨k, P, C, hk, rfl, hI⟩ := hrel
      clear HI0
      by_cases hlt : k < 8
      · have hlt' : (k : Int) < 8 := by omega
        go_upto_region 5 with fail
        have hbw5 : Blw w wr := hI.out.2.2.2.2
        have hlo5 : w.heap.size + 1 + 1 ≤ wr.heap.size := by have h5 := hI.out.2.1.lt; have h6 := HNE.out; omega
        have hbd5 : Blw wr wr.drew := (Blw.refl _).drew
        have hg15 := hI.out.1.lo1
        have hg25 := hI.out.1.lo2
        have hne5 := HNE.out
        have hss5 : ∀ W, Mod (fun b => b = g1 ∨ b = g2) wr W → Blw w W := fun W hm => Mod.blw hbw5 hm (fun i e => by omega)
        have F0 : ∀ W, Mod (fun b => b = g1 ∨ b = g2) wr W → W.cell? ⟨zb, 1, none⟩ = some (.slice (some ⟨g1, 0, none⟩) 8 8) := fun W hm => (get3 (hI.out.2.1.mod hm (fun e => by omega))).2.1
        have F1 : ∀ W, Mod (fun b => b = g1 ∨ b = g2) wr W → W.cell? ⟨w.heap.size, 1, none⟩ = some (.slice (some ⟨b1, o1, none⟩) 8 vc1) := fun W hm => (get3 (hI.out.2.2.1.mod hm (fun e => by omega))).2.1
        have F2 : ∀ W, Mod (fun b => b = g1 ∨ b = g2) wr W → W.cell? ⟨b1, o1 + k, none⟩ = some (.slice (A1 k) (R k).length (k1 k)) := fun W hm => (hss5 W hm).cell (HR1.out k hlt).1
        have hal5 : Blw wr (wr.drew.alloc (.cells #[] 39)) := hbd5.alloc _
        have hlit5 : LB (fun b => b = wr.heap.size) (wr.drew.alloc (.cells #[] 39)) (some ⟨wr.heap.size, 0, none⟩) 0 [] := Buf.litE (heap_alloc_new wr.drew (.cells #[] 39)) 2 _
        obtain ⟨a5, c5, v5, hrun5, hB5, hm5⟩ := LB.app hlit5 (k1 k) ((HR1.out k hlt).2.blw (hbw5.trans hal5)) (by have h5 := HL.out k (by omega); simp only [List.length_nil]; omega) 31
        rw [List.nil_append] at hrun5 hB5
        simp only [List.length_nil] at hrun5
        have hbv5 : Blw wr v5 := Mod.blw hal5 hm5 (fun i e => by simp [Value.ownBlock] at e; omega)
        have hup5 := OW.upd1 hI.out.1 hlt hlo5 hbv5 (hB5.mono (fun b hb => by rcases hb.1 with h6 | h6; (have h7 : b = wr.heap.size := h6; omega); (have h7 : b = wr.heap.size + 1 := by rw [h6, World.size_alloc]; rfl); omega))
        have hfz5 := hI.out.1.n.blw hbv5
        have hfc5 := hfz5.cell hlt
        have hff5 := hfz5.frozen k
        have ms5 : Mod (fun b => b = g1 ∨ b = g2) v5 (v5.setCell ⟨g1, k, none⟩ (.slice a5 (R k).length c5)) := Mod.setCell (X := (fun b => b = g1 ∨ b = g2)) _ (p := ⟨g1, k, none⟩) (Or.inl rfl) _
        have mt5 : Mod (fun b => b = g1 ∨ b = g2) wr (v5.setCell ⟨g1, k, none⟩ (.slice a5 (R k).length c5)) := (hbv5.mod _).trans ms5
        have HQ : Hid ((fun W => OW (w.heap.size + 1 + 1) g1 g2 (updN (cutR R k) k (R k)) (updN P k a5) (updN C k c5) W ∧ Row W zb 3 (t3 (.int .i64 now) (.slice (some ⟨g1, 0, none⟩) 8 8) (.slice (some ⟨g2, 0, none⟩) 8 8)) ∧ Row W w.heap.size 3 (t3 (.int .i64 now) (.slice (some ⟨b1, o1, none⟩) 8 vc1) (.slice (some ⟨b2, o2, none⟩) 8 vc2)) ∧ Row W (w.heap.size + 1) 3 (t3 (.int .i64 0) (.slice none 0 0) (.slice none 0 0)) ∧ Blw w W) (v5.setCell ⟨g1, k, none⟩ (.slice a5 (R k).length c5))) := ⟨hup5, hI.out.2.1.mod mt5 (fun e => by omega), hI.out.2.2.1.mod mt5 (fun e => by omega), hI.out.2.2.2.1.mod mt5 (fun e => by omega), hss5 _ mt5⟩
        have hS0 : Mod (fun b => b = g1 ∨ b = g2) wr wr.drew := hbd5.mod _
        clear hup5 hfz5 mt5 hB5 hm5 hlit5 hal5 hbd5 hss5
        refine wp_region_noPanic ?_
        refine wp_region_held_drew (S := (Mod (fun b => b = g1 ∨ b = g2) wr)) (by kernel_rfl) hS0 (fun hB => ?_)
        clear hB
        refine wpAnyH_take (i := 0) (oi := { dst := some 16, op := Op.fieldAddr 25 (Operand.tmp 3) 1, type := 0, pos := _, after := #[], guard := none }) (v := (.pointer (some ⟨zb, 1, none⟩))) rfl (by kernel_rfl) (by kernel_rfl) (by kernel_rfl) (fun _ _ _ h => h) (Or.inl ⟨by rfl, fun w' hS => by (try dsimp only at hS); go_simp⟩) hS0 ?_
        simp only [Act.put, List.setIfInBounds_toArray, List.set_cons_zero, List.set_cons_succ]
        refine wpAnyH_take (i := 2) (oi := { dst := some 18, op := Op.move (Operand.tmp 4), type := 3, pos := _, after := #[], guard := none }) (v := (.int .i64 (k : Nat))) rfl (by kernel_rfl) (by kernel_rfl) (by kernel_rfl) (fun _ _ _ h => h) (Or.inl ⟨by rfl, fun w' hS => by (try dsimp only at hS); go_simp⟩) hS0 ?_
        simp only [Act.put, List.setIfInBounds_toArray, List.set_cons_zero, List.set_cons_succ]
        refine wpAnyH_take (i := 4) (oi := { dst := some 20, op := Op.fieldAddr 25 (Operand.tmp 1) 1, type := 0, pos := _, after := #[], guard := none }) (v := (.pointer (some ⟨w.heap.size, 1, none⟩))) rfl (by kernel_rfl) (by kernel_rfl) (by kernel_rfl) (fun _ _ _ h => h) (Or.inl ⟨by rfl, fun w' hS => by (try dsimp only at hS); go_simp⟩) hS0 ?_
        simp only [Act.put, List.setIfInBounds_toArray, List.set_cons_zero, List.set_cons_succ]
        refine wpAnyH_take (i := 6) (oi := { dst := some 22, op := Op.move (Operand.tmp 4), type := 3, pos := _, after := #[], guard := none }) (v := (.int .i64 (k : Nat))) rfl (by kernel_rfl) (by kernel_rfl) (by kernel_rfl) (fun _ _ _ h => h) (Or.inl ⟨by rfl, fun w' hS => by (try dsimp only at hS); go_simp⟩) hS0 ?_
        simp only [Act.put, List.setIfInBounds_toArray, List.set_cons_zero, List.set_cons_succ]
        refine wpAnyH_take (i := 1) (oi := { dst := some 17, op := Op.load 23 (Operand.tmp 16), type := 23, pos := _, after := #[{ on := 0, ground := Ground.data }], guard := none }) (v := (.slice (some ⟨g1, 0, none⟩) 8 8)) rfl (by kernel_rfl) (by kernel_rfl) (by kernel_rfl) (fun _ _ _ h => h) (Or.inl ⟨by rfl, fun w' hS => by (try dsimp only at hS); go_simp⟩) hS0 ?_
        simp only [Act.put, List.setIfInBounds_toArray, List.set_cons_zero, List.set_cons_succ]
        refine wpAnyH_take (i := 5) (oi := { dst := some 21, op := Op.load 23 (Operand.tmp 20), type := 23, pos := _, after := #[{ on := 4, ground := Ground.data }], guard := none }) (v := (.slice (some ⟨b1, o1, none⟩) 8 vc1)) rfl (by kernel_rfl) (by kernel_rfl) (by kernel_rfl) (fun _ _ _ h => h) (Or.inl ⟨by rfl, fun w' hS => by (try dsimp only at hS); go_simp⟩) hS0 ?_
        simp only [Act.put, List.setIfInBounds_toArray, List.set_cons_zero, List.set_cons_succ]
        refine wpAnyH_take (i := 7) (oi := { dst := some 23, op := Op.indexAddr 23 (Operand.tmp 21) (Operand.tmp 22), type := 0, pos := _, after := #[{ on := 5, ground := Ground.data }, { on := 6, ground := Ground.data }], guard := none }) (v := (.pointer (some ⟨b1, o1 + k, none⟩))) rfl (by kernel_rfl) (by kernel_rfl) (by kernel_rfl) (fun _ _ _ h => h) (Or.inl ⟨by rfl, fun w' hS => by (try dsimp only at hS); go_simp⟩) hS0 ?_
        simp only [Act.put, List.setIfInBounds_toArray, List.set_cons_zero, List.set_cons_succ]
        refine wpAnyH_take (i := 8) (oi := { dst := some 24, op := Op.load 31 (Operand.tmp 23), type := 31, pos := _, after := #[{ on := 7, ground := Ground.data }], guard := none }) (v := (.slice (A1 k) (R k).length (k1 k))) rfl (by kernel_rfl) (by kernel_rfl) (by kernel_rfl) (fun _ _ _ h => h) (Or.inl ⟨by rfl, fun w' hS => by (try dsimp only at hS); go_simp⟩) hS0 ?_
        simp only [Act.put, List.setIfInBounds_toArray, List.set_cons_zero, List.set_cons_succ]
        refine wpAnyH_ready (rs := [3]) (by kernel_rfl) (by simp) ?_
        refine AllReadyH.cons (o := { dst := some 19, op := Op.buildSlice 31 0 #[], type := 31, pos := _, after := #[], guard := none }) rfl (fun K hK => ?_) AllReadyH.nil
        go_simp
        refine hK.out _ _ (hS0.trans (((Blw.refl _).alloc _).mod _)) (fun hB => ?_)
        clear hK K hB
        try simp only [Act.put, List.setIfInBounds_toArray, List.set_cons_zero, List.set_cons_succ]
        refine wpAnyH_ready (rs := [9]) (by kernel_rfl) (by simp) ?_
        refine AllReadyH.cons (o := { dst := some 25, op := Op.call { callee := Callee.builtin Builtin.append, args := #[Operand.tmp 19, Operand.tmp 24], argTypes := #[31, 31] }, type := 31, pos := _, after := #[{ on := 3, ground := Ground.data }, { on := 8, ground := Ground.data }], guard := none }) rfl (fun K hK => ?_) AllReadyH.nil
        refine step_append_run rfl (.tmp 19) (.tmp 24) 31 rfl _ _ rfl rfl hrun5 ?_
        refine hK.out _ _ (hbv5.mod _) (fun hB => ?_)
        clear hK K hB
        try simp only [Act.put, List.setIfInBounds_toArray, List.set_cons_zero, List.set_cons_succ]
        refine wpAnyH_take (i := 10) (oi := { dst := some 26, op := Op.indexAddr 23 (Operand.tmp 17) (Operand.tmp 18), type := 0, pos := _, after := #[{ on := 1, ground := Ground.data }, { on := 2, ground := Ground.data }, { on := 0, ground := Ground.phase }, { on := 1, ground := Ground.phase }, { on := 2, ground := Ground.phase }, { on := 3, ground := Ground.phase }, { on := 4, ground := Ground.phase }, { on := 5, ground := Ground.phase }, { on := 6, ground := Ground.phase }, { on := 7, ground := Ground.phase }, { on := 8, ground := Ground.phase }, { on := 9, ground := Ground.phase }], guard := none }) (v := (.pointer (some ⟨g1, k, none⟩))) rfl (by kernel_rfl) (by kernel_rfl) (by kernel_rfl) (fun _ _ _ h => h) (Or.inl ⟨by rfl, fun w' hS => by (try dsimp only at hS); go_simp⟩) (hbv5.mod _) ?_
        simp only [Act.put, List.setIfInBounds_toArray, List.set_cons_zero, List.set_cons_succ]
        refine wpAnyH_ready (rs := [11]) (by kernel_rfl) (by simp) ?_
        refine AllReadyH.cons (o := { dst := none, op := Op.store 31 (Operand.tmp 26) (Operand.tmp 25), type := 0, pos := _, after := #[{ on := 10, ground := Ground.data }, { on := 9, ground := Ground.data }, { on := 9, ground := Ground.chain }, { on := 0, ground := Ground.phase }, { on := 1, ground := Ground.phase }, { on := 2, ground := Ground.phase }, { on := 3, ground := Ground.phase }, { on := 4, ground := Ground.phase }, { on := 5, ground := Ground.phase }, { on := 6, ground := Ground.phase }, { on := 7, ground := Ground.phase }, { on := 8, ground := Ground.phase }, { on := 9, ground := Ground.phase }], guard := none }) rfl (fun K hK => ?_) AllReadyH.nil
        go_simp
        refine hK.out _ _ ((hbv5.mod _).trans ms5) (fun hB => ?_)
        clear hK K hB
        try simp only [Act.put, List.setIfInBounds_toArray, List.set_cons_zero, List.set_cons_succ]
        refine wpAnyH_done (by kernel_rfl) ?_ _
        refine NoPanic.normal ?_
        skip
        clear hI F0 F1 F2 hS0 hrun5 hbv5 hfc5 hff5 ms5 hbw5 hlo5
        generalize v5.setCell ⟨g1, k, none⟩ (.slice a5 (R k).length c5) = wq at *
        go_upto_region 6 with fail
        have hbw6 : Blw w wq := HQ.out.2.2.2.2
        have hlo6 : w.heap.size + 1 + 1 ≤ wq.heap.size := by have h5 := HQ.out.2.1.lt; have h6 := HNE.out; omega
        have hbd6 : Blw wq wq.drew := (Blw.refl _).drew
        have hg16 := HQ.out.1.lo1
        have hg26 := HQ.out.1.lo2
        have hne6 := HNE.out
        have hss6 : ∀ W, Mod (fun b => b = g1 ∨ b = g2) wq W → Blw w W := fun W hm => Mod.blw hbw6 hm (fun i e => by omega)
        have F0 : ∀ W, Mod (fun b => b = g1 ∨ b = g2) wq W → W.cell? ⟨zb, 2, none⟩ = some (.slice (some ⟨g2, 0, none⟩) 8 8) := fun W hm => (get3 (HQ.out.2.1.mod hm (fun e => by omega))).2.2
        have F1 : ∀ W, Mod (fun b => b = g1 ∨ b = g2) wq W → W.cell? ⟨w.heap.size, 2, none⟩ = some (.slice (some ⟨b2, o2, none⟩) 8 vc2) := fun W hm => (get3 (HQ.out.2.2.1.mod hm (fun e => by omega))).2.2
        have F2 : ∀ W, Mod (fun b => b = g1 ∨ b = g2) wq W → W.cell? ⟨b2, o2 + k, none⟩ = some (.slice (A2 k) (R (8 + k)).length (k2 k)) := fun W hm => (hss6 W hm).cell (HR2.out k hlt).1
        have hal6 : Blw wq (wq.drew.alloc (.cells #[] 39)) := hbd6.alloc _
        have hlit6 : LB (fun b => b = wq.heap.size) (wq.drew.alloc (.cells #[] 39)) (some ⟨wq.heap.size, 0, none⟩) 0 [] := Buf.litE (heap_alloc_new wq.drew (.cells #[] 39)) 2 _
        obtain ⟨a6, c6, v6, hrun6, hB6, hm6⟩ := LB.app hlit6 (k2 k) ((HR2.out k hlt).2.blw (hbw6.trans hal6)) (by have h5 := HL.out (8 + k) (by omega); simp only [List.length_nil]; omega) 31
        rw [List.nil_append] at hrun6 hB6
        simp only [List.length_nil] at hrun6
        have hbv6 : Blw wq v6 := Mod.blw hal6 hm6 (fun i e => by simp [Value.ownBlock] at e; omega)
        have hup6 := OW.upd2 HQ.out.1 hlt hlo6 hbv6 (hB6.mono (fun b hb => by rcases hb.1 with h6 | h6; (have h7 : b = wq.heap.size := h6; omega); (have h7 : b = wq.heap.size + 1 := by rw [h6, World.size_alloc]; rfl); omega))
        have hfz6 := HQ.out.1.f.blw hbv6
        have hfc6 := hfz6.cell hlt
        have hff6 := hfz6.frozen k
        have ms6 : Mod (fun b => b = g1 ∨ b = g2) v6 (v6.setCell ⟨g2, k, none⟩ (.slice a6 (R (8 + k)).length c6)) := Mod.setCell (X := (fun b => b = g1 ∨ b = g2)) _ (p := ⟨g2, k, none⟩) (Or.inr rfl) _
        have mt6 : Mod (fun b => b = g1 ∨ b = g2) wq (v6.setCell ⟨g2, k, none⟩ (.slice a6 (R (8 + k)).length c6)) := (hbv6.mod _).trans ms6
        have HF : Hid ((fun W => OW (w.heap.size + 1 + 1) g1 g2 (updN (updN (cutR R k) k (R k)) (8 + k) (R (8 + k))) (updN (updN P k a5) (8 + k) a6) (updN (updN C k c5) (8 + k) c6) W ∧ Row W zb 3 (t3 (.int .i64 now) (.slice (some ⟨g1, 0, none⟩) 8 8) (.slice (some ⟨g2, 0, none⟩) 8 8)) ∧ Row W w.heap.size 3 (t3 (.int .i64 now) (.slice (some ⟨b1, o1, none⟩) 8 vc1) (.slice (some ⟨b2, o2, none⟩) 8 vc2)) ∧ Row W (w.heap.size + 1) 3 (t3 (.int .i64 0) (.slice none 0 0) (.slice none 0 0)) ∧ Blw w W) (v6.setCell ⟨g2, k, none⟩ (.slice a6 (R (8 + k)).length c6))) := ⟨hup6, HQ.out.2.1.mod mt6 (fun e => by omega), HQ.out.2.2.1.mod mt6 (fun e => by omega), HQ.out.2.2.2.1.mod mt6 (fun e => by omega), hss6 _ mt6⟩
        have hS0 : Mod (fun b => b = g1 ∨ b = g2) wq wq.drew := hbd6.mod _
        clear hup6 hfz6 mt6 hB6 hm6 hlit6 hal6 hbd6 hss6
        refine wp_region_noPanic ?_
        refine wp_region_held_drew (S := (Mod (fun b => b = g1 ∨ b = g2) wq)) (by kernel_rfl) hS0 (fun hB => ?_)
        clear hB
        refine wpAnyH_take (i := 0) (oi := { dst := some 27, op := Op.fieldAddr 25 (Operand.tmp 3) 2, type := 0, pos := _, after := #[], guard := none }) (v := (.pointer (some ⟨zb, 2, none⟩))) rfl (by kernel_rfl) (by kernel_rfl) (by kernel_rfl) (fun _ _ _ h => h) (Or.inl ⟨by rfl, fun w' hS => by (try dsimp only at hS); go_simp⟩) hS0 ?_
        simp only [Act.put, List.setIfInBounds_toArray, List.set_cons_zero, List.set_cons_succ]
        refine wpAnyH_take (i := 2) (oi := { dst := some 29, op := Op.move (Operand.tmp 4), type := 3, pos := _, after := #[], guard := none }) (v := (.int .i64 (k : Nat))) rfl (by kernel_rfl) (by kernel_rfl) (by kernel_rfl) (fun _ _ _ h => h) (Or.inl ⟨by rfl, fun w' hS => by (try dsimp only at hS); go_simp⟩) hS0 ?_
        simp only [Act.put, List.setIfInBounds_toArray, List.set_cons_zero, List.set_cons_succ]
        refine wpAnyH_take (i := 4) (oi := { dst := some 31, op := Op.fieldAddr 25 (Operand.tmp 1) 2, type := 0, pos := _, after := #[], guard := none }) (v := (.pointer (some ⟨w.heap.size, 2, none⟩))) rfl (by kernel_rfl) (by kernel_rfl) (by kernel_rfl) (fun _ _ _ h => h) (Or.inl ⟨by rfl, fun w' hS => by (try dsimp only at hS); go_simp⟩) hS0 ?_
        simp only [Act.put, List.setIfInBounds_toArray, List.set_cons_zero, List.set_cons_succ]
        refine wpAnyH_take (i := 6) (oi := { dst := some 33, op := Op.move (Operand.tmp 4), type := 3, pos := _, after := #[], guard := none }) (v := (.int .i64 (k : Nat))) rfl (by kernel_rfl) (by kernel_rfl) (by kernel_rfl) (fun _ _ _ h => h) (Or.inl ⟨by rfl, fun w' hS => by (try dsimp only at hS); go_simp⟩) hS0 ?_
        simp only [Act.put, List.setIfInBounds_toArray, List.set_cons_zero, List.set_cons_succ]
        refine wpAnyH_take (i := 1) (oi := { dst := some 28, op := Op.load 23 (Operand.tmp 27), type := 23, pos := _, after := #[{ on := 0, ground := Ground.data }], guard := none }) (v := (.slice (some ⟨g2, 0, none⟩) 8 8)) rfl (by kernel_rfl) (by kernel_rfl) (by kernel_rfl) (fun _ _ _ h => h) (Or.inl ⟨by rfl, fun w' hS => by (try dsimp only at hS); go_simp⟩) hS0 ?_
        simp only [Act.put, List.setIfInBounds_toArray, List.set_cons_zero, List.set_cons_succ]
        refine wpAnyH_take (i := 5) (oi := { dst := some 32, op := Op.load 23 (Operand.tmp 31), type := 23, pos := _, after := #[{ on := 4, ground := Ground.data }], guard := none }) (v := (.slice (some ⟨b2, o2, none⟩) 8 vc2)) rfl (by kernel_rfl) (by kernel_rfl) (by kernel_rfl) (fun _ _ _ h => h) (Or.inl ⟨by rfl, fun w' hS => by (try dsimp only at hS); go_simp⟩) hS0 ?_
        simp only [Act.put, List.setIfInBounds_toArray, List.set_cons_zero, List.set_cons_succ]
        refine wpAnyH_take (i := 7) (oi := { dst := some 34, op := Op.indexAddr 23 (Operand.tmp 32) (Operand.tmp 33), type := 0, pos := _, after := #[{ on := 5, ground := Ground.data }, { on := 6, ground := Ground.data }], guard := none }) (v := (.pointer (some ⟨b2, o2 + k, none⟩))) rfl (by kernel_rfl) (by kernel_rfl) (by kernel_rfl) (fun _ _ _ h => h) (Or.inl ⟨by rfl, fun w' hS => by (try dsimp only at hS); go_simp⟩) hS0 ?_
        simp only [Act.put, List.setIfInBounds_toArray, List.set_cons_zero, List.set_cons_succ]
        refine wpAnyH_take (i := 8) (oi := { dst := some 35, op := Op.load 31 (Operand.tmp 34), type := 31, pos := _, after := #[{ on := 7, ground := Ground.data }], guard := none }) (v := (.slice (A2 k) (R (8 + k)).length (k2 k))) rfl (by kernel_rfl) (by kernel_rfl) (by kernel_rfl) (fun _ _ _ h => h) (Or.inl ⟨by rfl, fun w' hS => by (try dsimp only at hS); go_simp⟩) hS0 ?_
        simp only [Act.put, List.setIfInBounds_toArray, List.set_cons_zero, List.set_cons_succ]
        refine wpAnyH_ready (rs := [3]) (by kernel_rfl) (by simp) ?_
        refine AllReadyH.cons (o := { dst := some 30, op := Op.buildSlice 31 0 #[], type := 31, pos := _, after := #[], guard := none }) rfl (fun K hK => ?_) AllReadyH.nil
        go_simp
        refine hK.out _ _ (hS0.trans (((Blw.refl _).alloc _).mod _)) (fun hB => ?_)
        clear hK K hB
        try simp only [Act.put, List.setIfInBounds_toArray, List.set_cons_zero, List.set_cons_succ]
        refine wpAnyH_ready (rs := [9]) (by kernel_rfl) (by simp) ?_
        refine AllReadyH.cons (o := { dst := some 36, op := Op.call { callee := Callee.builtin Builtin.append, args := #[Operand.tmp 30, Operand.tmp 35], argTypes := #[31, 31] }, type := 31, pos := _, after := #[{ on := 3, ground := Ground.data }, { on := 8, ground := Ground.data }], guard := none }) rfl (fun K hK => ?_) AllReadyH.nil
        refine step_append_run rfl (.tmp 30) (.tmp 35) 31 rfl _ _ rfl rfl hrun6 ?_
        refine hK.out _ _ (hbv6.mod _) (fun hB => ?_)
        clear hK K hB
        try simp only [Act.put, List.setIfInBounds_toArray, List.set_cons_zero, List.set_cons_succ]
        refine wpAnyH_take (i := 10) (oi := { dst := some 37, op := Op.indexAddr 23 (Operand.tmp 28) (Operand.tmp 29), type := 0, pos := _, after := #[{ on := 1, ground := Ground.data }, { on := 2, ground := Ground.data }, { on := 0, ground := Ground.phase }, { on := 1, ground := Ground.phase }, { on := 2, ground := Ground.phase }, { on := 3, ground := Ground.phase }, { on := 4, ground := Ground.phase }, { on := 5, ground := Ground.phase }, { on := 6, ground := Ground.phase }, { on := 7, ground := Ground.phase }, { on := 8, ground := Ground.phase }, { on := 9, ground := Ground.phase }], guard := none }) (v := (.pointer (some ⟨g2, k, none⟩))) rfl (by kernel_rfl) (by kernel_rfl) (by kernel_rfl) (fun _ _ _ h => h) (Or.inl ⟨by rfl, fun w' hS => by (try dsimp only at hS); go_simp⟩) (hbv6.mod _) ?_
        simp only [Act.put, List.setIfInBounds_toArray, List.set_cons_zero, List.set_cons_succ]
        refine wpAnyH_ready (rs := [11]) (by kernel_rfl) (by simp) ?_
        refine AllReadyH.cons (o := { dst := none, op := Op.store 31 (Operand.tmp 37) (Operand.tmp 36), type := 0, pos := _, after := #[{ on := 10, ground := Ground.data }, { on := 9, ground := Ground.data }, { on := 9, ground := Ground.chain }, { on := 0, ground := Ground.phase }, { on := 1, ground := Ground.phase }, { on := 2, ground := Ground.phase }, { on := 3, ground := Ground.phase }, { on := 4, ground := Ground.phase }, { on := 5, ground := Ground.phase }, { on := 6, ground := Ground.phase }, { on := 7, ground := Ground.phase }, { on := 8, ground := Ground.phase }, { on := 9, ground := Ground.phase }], guard := none }) rfl (fun K hK => ?_) AllReadyH.nil
        go_simp
        refine hK.out _ _ ((hbv6.mod _).trans ms6) (fun hB => ?_)
        clear hK K hB
        try simp only [Act.put, List.setIfInBounds_toArray, List.set_cons_zero, List.set_cons_succ]
        refine wpAnyH_done (by kernel_rfl) ?_ _
        refine NoPanic.normal ?_
        skip
        rw [cutR_succ R hlt] at HF
        clear HQ F0 F1 F2 hS0 hrun6 hbv6 hfc6 hff6 ms6
        generalize v6.setCell ⟨g2, k, none⟩ (.slice a6 (R (8 + k)).length c6) = wp at *
        go_wp2
        go_roundw
        case rel => exact ⟨k + 1, _, _, by omega, by go_num, HF.out⟩
        case measure => simp [intOf]; omega
      · obtain rfl : k = 8 := by omega
        rw [cutR_all R HZ.out] at hI
        obtain ⟨ho, hz9, -, hr9, hbw⟩ := hI.out
        obtain ⟨z0, z1, z2⟩ := get3 hz9
        obtain ⟨t0, t1, t2⟩ := get3 hr9
        have f0 := hr9.frozen 0
        have f1 := hr9.frozen 1
        have f2 := hr9.frozen 2
        go_wp2
        have r9 := set3_2 (set3_1 (set3_0 hr9 (.int .i64 now)) (.slice (some ⟨g1, 0, none⟩) 8 8)) (.slice (some ⟨g2, 0, none⟩) 8 8)
        obtain ⟨u0, u1, u2⟩ := get3 r9
        have mS := set3_mod (X := fun b => b = w.heap.size + 1) wr rfl (.int .i64 now) (.slice (some ⟨g1, 0, none⟩) 8 8) (.slice (some ⟨g2, 0, none⟩) 8 8)
        have hne := HNE.out
        refine bodyPost_ret (v := .agg #[.int .i64 now, .slice (some ⟨g1, 0, none⟩) 8 8, .slice (some ⟨g2, 0, none⟩) 8 8]) (by simp [results, Try.results53, go_sem, u0, u1, u2]) rfl ?_
        have hO9 := (ho.mod mS (fun b hb e => by omega)).lower (lo' := w.heap.size) (by omega)
        first | exact ⟨g1, g2, P, C, rfl, hO9, Mod.blw hbw mS (fun i e => by omega)⟩ | exact ⟨g1, g2, rfl, P, C, hO9, Mod.blw hbw mS (fun i e => by omega)⟩
end Go.Proofs.Ytkmkidahaagbpaa
