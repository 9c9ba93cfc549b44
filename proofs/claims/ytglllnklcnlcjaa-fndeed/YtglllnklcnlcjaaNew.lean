/- 'giveLines', 'giveOut', 'NewMemory' -/
import Derived.Test.YtglllnklcnlcjaaMark
import Derived.Test.YtglllnklcnlcjaaCopy
import Derived.Deep.RegionHeld3
import Derived.Deep.CutRange
namespace Go.Proofs.Ytglllnklcnlcjaa
open Go.RowKit
set_option linter.unusedSimpArgs false
theorem info3 : (Try.prog.info? 3).map (fun i => (i.zero, i.size, i.bytes)) = some (some (.int .i64 0), 1, 8) := by kernel_rfl
theorem info37 : (Try.prog.info? 126).map (fun i => (i.zero, i.size, i.bytes)) = some (some (.agg #[.slice none 0 0]), 1, 24) := by kernel_rfl
theorem info4 : (Try.prog.info? 4).map (fun i => (i.zero, i.size, i.bytes)) = some (some (.bool false), 1, 1) := by kernel_rfl
theorem mk4 (w : World) : (Instr.makeSlice 28 (.int .i64 4) (.int .i64 4)).run Try.prog w = .ok (.slice (some ⟨w.heap.size, 0, none⟩) 4 4) (w.alloc (.cells (madeCells #[.int .i64 0] 4) 3)) :=
  run_make_row' (P := Try.prog) 28 3 (.int .i64 0) 8 Try.underlying28 info3 rfl .i64 .i64 4 (by omega) (by omega) w
theorem mk12 (w : World) : (Instr.makeSlice 23 (.int .i64 12) (.int .i64 12)).run Try.prog w = .ok (.slice (some ⟨w.heap.size, 0, none⟩) 12 12) (w.alloc (.cells (madeCells #[.slice none 0 0] 12) 126)) := by kernel_rfl
theorem mkb12 (w : World) : (Instr.makeSlice 24 (.int .i64 12) (.int .i64 12)).run Try.prog w = .ok (.slice (some ⟨w.heap.size, 0, none⟩) 12 12) (w.alloc (.cells (madeCells #[.bool false] 12) 4)) := by kernel_rfl

structure Giving (w wr : World) (cs : Array Value) (g : Nat → Nat → Int) (k : Nat) : Prop where
  blw : Blw w wr
  size : wr.heap.size = w.heap.size + 2 + k
  src : wr.heap[w.heap.size]? = some (.cells cs 88 (0, 0))
  top : Row wr (w.heap.size + 1) 12 (fun i => if i < k then .slice (some ⟨w.heap.size + 2 + i, 0, none⟩) 4 4 else .slice none 0 0)
  done : ∀ i, i < k → Row wr (w.heap.size + 2 + i) 4 (fun t => .int .i64 (g i t))

theorem info3s : (Try.prog.info? 3).map (·.size) = some 1 := by kernel_rfl
theorem giving_start (w : World) (cs : Array Value) (g : Nat → Nat → Int) : Giving w ((w.alloc (.cells cs 88)).alloc (.cells (madeCells #[.slice none 0 0] 12) 126)) cs g 0 := by
  refine ⟨((Blw.refl _).alloc _).alloc _, by simp, ?_, ?_, fun i hi => absurd hi (Nat.not_lt_zero _)⟩
  · exact heap_alloc2_old _ _ _
  · have := Row.made (w.alloc (.cells cs 88)) (.slice none 0 0) 12 126
    rw [World.size_alloc] at this
    exact this.congr fun i hi => by simp

/-- Behind 'l[k].Words = make([]int, LineWords)'. -/
structure Made (w w1 : World) (cs : Array Value) (g : Nat → Nat → Int) (k : Nat) : Prop where
  blw : Blw w w1
  size : w1.heap.size = w.heap.size + 2 + (k + 1)
  src : w1.heap[w.heap.size]? = some (.cells cs 88 (0, 0))
  top : Row w1 (w.heap.size + 1) 12 (fun i => if i < k + 1 then .slice (some ⟨w.heap.size + 2 + i, 0, none⟩) 4 4 else .slice none 0 0)
  done : ∀ i, i < k → Row w1 (w.heap.size + 2 + i) 4 (fun t => .int .i64 (g i t))
  new : Row w1 (w.heap.size + 2 + k) 4 (fun _ => .int .i64 0)

theorem giving_made {w wr : World} {cs : Array Value} {g : Nat → Nat → Int} {k : Nat} (G : Giving w wr cs g k) :
    Made w ((wr.alloc (.cells (madeCells #[.int .i64 0] 4) 3)).setCell ⟨w.heap.size + 1, k, none⟩ (.slice (some ⟨w.heap.size + 2 + k, 0, none⟩) 4 4)) cs g k := by
  have hnew := Row.made wr (.int .i64 0) 4 3
  rw [G.size] at hnew
  have ha : Blw wr (wr.alloc (.cells (madeCells #[.int .i64 0] 4) 3)) := (Blw.refl _).alloc _
  have hlt : w.heap.size < wr.heap.size := by rw [G.size]; omega
  refine ⟨(G.blw.alloc _).setCell (by simp) _, by simp [G.size]; omega, ?_, (((G.top.blw ha).set k _).congr fun i hi => ?_), fun i hi => ((G.done i hi).blw ha).setOther (by simp; omega) _, hnew.setOther (by simp; omega) _⟩
  · rw [Below.heap_setCell _ _ _ _ (by simp), Below.heap_alloc _ _ _ hlt]
    exact G.src
  · by_cases e : i = k
    · subst e; simp
    · by_cases h2 : i < k
      · simp [e, h2, Nat.lt_succ_of_lt h2]
      · have h3 : ¬ i < k + 1 := by omega
        simp [e, h2, h3]

theorem made_next {w w1 w2 : World} {cs : Array Value} {g : Nat → Nat → Int} {k : Nat} (G : Made w w1 cs g k) (hr : Row w2 (w.heap.size + 2 + k) 4 (fun i => if 0 ≤ i ∧ i < 0 + 4 then .int .i64 (g k (i - 0)) else .int .i64 0))
    (hm : Mod (fun x => x = w.heap.size + 2 + k) w1 w2) (hz : w2.heap.size = w1.heap.size) : Giving w w2 cs g (k + 1) := by
  refine ⟨Mod.blw G.blw hm (fun i hi => by omega), by rw [hz, G.size], ?_, G.top.mod hm (by omega), fun i hi => ?_⟩
  · rw [hm.block _ (by rw [G.size]; omega) (by omega)]
    exact G.src
  · by_cases e : i = k
    · subst e
      exact hr.congr fun t ht => by simp [ht]
    · exact (G.done i (by omega)).mod hm (by omega)

theorem giving_done {w wr : World} {cs : Array Value} {g : Nat → Nat → Int} (G : Giving w wr cs g 12) : LinesOwn (fun b => w.heap.size ≤ b ∧ b < wr.heap.size) wr (some ⟨w.heap.size + 1, 0, none⟩) 12 (fun _ => 4) g := by
  have hz := G.size
  refine ⟨by omega, fun _ => ⟨w.heap.size + 1, fun i => w.heap.size + 2 + i, fun _ => 4, ⟨by omega, by omega⟩, rfl, G.top.congr fun i hi => by simp [hi], fun i hi => ?_, fun i j _ _ _ => by dsimp only; omega⟩⟩
  dsimp only
  exact ⟨by omega, ⟨by omega, by omega⟩, by omega, G.done i hi⟩

theorem cell_src {w1 : World} {b : Nat} {cs : Array Value} {g : Nat → Nat → Int} {k : Nat} (hsrc : w1.heap[b]? = some (.cells cs 88 (0, 0))) (hk : k < 12) (hg : ∀ i j, i < 12 → j < 4 → cs[i * 4 + j]? = some (.int .i64 (g i j))) (j : Nat) (hj : j < 4) :
    w1.cell? ((⟨b, k * 4, none⟩ : Addr).add j) = some (.int .i64 (g k j)) := by
  have : (⟨b, k * 4, none⟩ : Addr).add j = ⟨b, k * 4 + j, none⟩ := by unfold Addr.add; split <;> simp_all
  rw [this]
  simp [World.cell?, hsrc, hg k j hk hj]

set_option maxHeartbeats 800000 in
theorem giveLines_any (cs : Array Value) (g : Nat → Nat → Int) (w : World) (hg : ∀ i j, i < 12 → j < 4 → cs[i * 4 + j]? = some (.int .i64 (g i j))) :
    Calls Try.prog 106 #[.agg cs] w fun e w' => ∃ ao, e = .returned (.slice ao 12 12) ∧ LinesOwn (fun b => w.heap.size ≤ b ∧ b < w'.heap.size) w' ao 12 (fun _ => 4) g ∧ Blw w w' := by
  have m1 := mk12
  have m2 := mk4
  go_enter Try.func106, Try.ntmps106
  go_wp2
  go_loopw [8] (fun i wr => ∃ k : Nat, k ≤ 12 ∧ i = .int .i64 k ∧ Giving w wr cs g k) (fun i _ => 12 - (intOf i).toNat)
  case atStart => exact ⟨0, by omega, rfl, giving_start w cs g⟩
  case round =>
    obtain ⟨k, hk, rfl, G⟩ := hrel
    by_cases hlt : k < 12
    · have g1 : ∀ o, (wr.alloc o).cell? ⟨w.heap.size + 1, k, none⟩ = some (.slice none 0 0) := fun o => by simpa using (G.top.blw ((Blw.refl wr).alloc o)).cell hlt
      have g2 : ∀ o, (wr.alloc o).frozen? ⟨w.heap.size + 1, k, none⟩ = false := fun o => (G.top.blw ((Blw.refl wr).alloc o)).frozen k
      have hsz := G.size
      have GM := giving_made G
      clear G
      go_wp2
      clear hsz g1 g2
      revert GM
      generalize (wr.alloc (.cells (madeCells #[.int .i64 0] 4) 3)).setCell ⟨w.heap.size + 1, k, none⟩ (.slice (some ⟨w.heap.size + 2 + k, 0, none⟩) 4 4) = w1
      intro GM
      have g1 : w1.cell? ⟨w.heap.size + 1, k, none⟩ = some (.slice (some ⟨w.heap.size + 2 + k, 0, none⟩) 4 4) := by simpa using GM.top.cell hlt
      go_region_law (refine step_copy_fn rfl (.tmp 20) (.tmp 23) 28 28 rfl 3 Try.underlying28 info3s (w.heap.size + 2 + k) 0 4 4 ⟨w.heap.size, k * 4, none⟩ 4 4 rfl rfl 4 (fun t => .int .i64 (g k t)) 4 (fun _ => .int .i64 0) rfl (cell_src GM.src hlt hg) (fun _ _ => rfl) GM.new (by omega) ?_; intro w2 hr2 hm2 hz2)
      have G2 := made_next GM hr2 (Mod.trans ((Blw.refl w1).drew.mod _) hm2) (by simpa using hz2)
      clear GM g1 hr2 hm2 hz2
      go_wp2
      go_roundw
      case rel => exact ⟨k + 1, by omega, by go_num, G2⟩
      case measure => simp [intOf]; omega
    · go_wp2
      go_ret
      obtain rfl : k = 12 := by omega
      exact ⟨_, rfl, giving_done G, G.blw⟩
theorem MemOwn.mono {X Y : Nat → Prop} {w : World} {m : MV} {M : MD} (h : MemOwn X w m M) (hxy : ∀ b, X b → Y b) : MemOwn Y w m M := by
  obtain ⟨X1, X2, X3, h1, h2, h3, r⟩ := h.ex
  exact ⟨X1, X2, X3, fun b hb => ⟨hxy b (h1 b hb).1, (h1 b hb).2⟩, fun b hb => ⟨hxy b (h2 b hb).1, (h2 b hb).2⟩, fun b hb => hxy b (h3 b hb), r⟩
/-- What the cells of a held memory hold. -/
def hcell (s c : Nat → Nat → Int) (d : Nat → Bool) (i : Nat) : Value :=
  if i < 48 then .int .i64 (s (i / 4) (i % 4)) else if i < 96 then .int .i64 (c ((i - 48) / 4) ((i - 48) % 4)) else .bool (d (i - 96))
/-- A memory of twelve lines of four words. -/
def MD.full (s c : Nat → Nat → Int) (d : Nat → Bool) : MD := ⟨12, 12, 12, fun _ => 4, fun _ => 4, s, c, d⟩

theorem range_at {w : World} {b n o m : Nat} {f : Nat → Value} (h : Row w b n f) (hn : o + m ≤ n) : w.rangeAt b o ((List.range m).map fun i => f (o + i)) := by
  intro j v hv
  have hj : j < m := by
    have := (List.getElem?_eq_some_iff.1 hv).1
    simpa using this
  rw [h.cell (by omega)]
  simpa [hj] using hv
/-- A row's part as a list of cells: one list, in every later world. -/
theorem part_of {w : World} {b n o m : Nat} {f : Nat → Value} (ty : TypeId) (h : Row w b n f) (hn : o + m ≤ n) (hi : (Try.prog.info? ty).map (·.size) = some m) :
    ∃ cs : List Value, (Try.prog.info? ty).map (·.size) = some cs.length ∧ (∀ j, j < m → cs.toArray[j]? = some (f (o + j))) ∧ ∀ w', Blw w w' → w'.rangeAt b o cs :=
  ⟨(List.range m).map fun i => f (o + i), by simpa using hi, fun j hj => by simp [hj], fun _ hb => range_at (h.blw hb) hn⟩

theorem hcell_s {s c : Nat → Nat → Int} {d : Nat → Bool} {i j : Nat} (hi : i < 12) (hj : j < 4) : hcell s c d (i * 4 + j) = .int .i64 (s i j) := by
  have h1 : i * 4 + j < 48 := by omega
  have h2 : (i * 4 + j) / 4 = i := by omega
  have h3 : (i * 4 + j) % 4 = j := by omega
  simp [hcell, h1, h2, h3]
theorem hcell_c {s c : Nat → Nat → Int} {d : Nat → Bool} {i j : Nat} (hi : i < 12) (hj : j < 4) : hcell s c d (48 + (i * 4 + j)) = .int .i64 (c i j) := by
  have h0 : ¬ 48 + (i * 4 + j) < 48 := by omega
  have h1 : 48 + (i * 4 + j) < 96 := by omega
  have h2 : (48 + (i * 4 + j) - 48) / 4 = i := by omega
  have h3 : (48 + (i * 4 + j) - 48) % 4 = j := by omega
  simp only [hcell, if_neg h0, if_pos h1, h2, h3]
theorem hcell_d {s c : Nat → Nat → Int} {d : Nat → Bool} {i : Nat} : hcell s c d (96 + i) = .bool (d i) := by
  have h0 : ¬ 96 + i < 48 := by omega
  have h1 : ¬ 96 + i < 96 := by omega
  simp only [hcell, if_neg h0, if_neg h1, Nat.add_sub_cancel_left]

theorem info76 : (Try.prog.info? 88).map (·.size) = some 48 := by kernel_rfl
theorem row_three (w : World) (t : TypeId) : Row (w.alloc (.cells #[.slice none 0 0, .slice none 0 0, .slice none 0 0] t)) w.heap.size 3 (fun _ => .slice none 0 0) :=
  ⟨_, t, heap_alloc_new _ _, by simp, fun i hi => by
    match i, hi with
    | 0, _ => rfl
    | 1, _ => rfl
    | 2, _ => rfl⟩
theorem info4s : (Try.prog.info? 4).map (·.size) = some 1 := by kernel_rfl
/-- What stands behind giveOut's first statement. -/
structure Gave (w0 wc : World) (B0 B3 : Nat) (ao1 ao2 : Option Addr) (X1 X2 : Nat → Prop) (s c : Nat → Nat → Int) : Prop where
  blw : Blw w0 wc
  c0 : wc.cell? ⟨B0, 0, none⟩ = some (.slice ao1 12 12)
  c1 : wc.cell? ⟨B0, 1, none⟩ = some (.slice ao2 12 12)
  c2 : wc.cell? ⟨B0, 2, none⟩ = some (.slice (some ⟨B3, 0, none⟩) 12 12)
  r3 : Row wc B3 12 (fun _ => .bool false)
  o1 : LinesOwn X1 wc ao1 12 (fun _ => 4) s
  o2 : LinesOwn X2 wc ao2 12 (fun _ => 4) c
  x1 : ∀ b, X1 b → w0.heap.size ≤ b ∧ b < wc.heap.size ∧ b ≠ B0 ∧ b ≠ B3 ∧ ¬ X2 b
  x2 : ∀ b, X2 b → w0.heap.size ≤ b ∧ b < wc.heap.size ∧ b ≠ B0 ∧ b ≠ B3
  b03 : B0 ≠ B3
  b0 : w0.heap.size ≤ B0
  b3 : w0.heap.size ≤ B3
  l3 : B3 < wc.heap.size
theorem gave_end {w0 w1 : World} {B0 B3 : Nat} {ao1 ao2 : Option Addr} {X1 X2 : Nat → Prop} {s c : Nat → Nat → Int} (r0 : Row w1 B0 3 (fun _ => .slice none 0 0)) (r3 : Row w1 B3 12 (fun _ => .bool false))
    (o1 : LinesOwn X1 w1 ao1 12 (fun _ => 4) s) (o2 : LinesOwn X2 w1 ao2 12 (fun _ => 4) c)
    (hB : Blw w0 (((w1.setCell ⟨B0, 0, none⟩ (.slice ao1 12 12)).setCell ⟨B0, 1, none⟩ (.slice ao2 12 12)).setCell ⟨B0, 2, none⟩ (.slice (some ⟨B3, 0, none⟩) 12 12)))
    (x1 : ∀ b, X1 b → w0.heap.size ≤ b ∧ b < w1.heap.size ∧ b ≠ B0 ∧ b ≠ B3 ∧ ¬ X2 b) (x2 : ∀ b, X2 b → w0.heap.size ≤ b ∧ b < w1.heap.size ∧ b ≠ B0 ∧ b ≠ B3) (h03 : B0 ≠ B3) (h0 : w0.heap.size ≤ B0) (h3 : w0.heap.size ≤ B3) (hl : B3 < w1.heap.size) :
    Gave w0 (((w1.setCell ⟨B0, 0, none⟩ (.slice ao1 12 12)).setCell ⟨B0, 1, none⟩ (.slice ao2 12 12)).setCell ⟨B0, 2, none⟩ (.slice (some ⟨B3, 0, none⟩) 12 12)) B0 B3 ao1 ao2 X1 X2 s c := by
  have hr := ((r0.set 0 (.slice ao1 12 12)).set 1 (.slice ao2 12 12)).set 2 (.slice (some ⟨B3, 0, none⟩) 12 12)
  have hm : Mod (fun x => x = B0) w1 (((w1.setCell ⟨B0, 0, none⟩ (.slice ao1 12 12)).setCell ⟨B0, 1, none⟩ (.slice ao2 12 12)).setCell ⟨B0, 2, none⟩ (.slice (some ⟨B3, 0, none⟩) 12 12)) :=
    ((Mod.setCell (X := fun x => x = B0) w1 (p := ⟨B0, 0, none⟩) rfl _).trans (Mod.setCell (X := fun x => x = B0) _ (p := ⟨B0, 1, none⟩) rfl _)).trans (Mod.setCell (X := fun x => x = B0) _ (p := ⟨B0, 2, none⟩) rfl _)
  have hz : (((w1.setCell ⟨B0, 0, none⟩ (.slice ao1 12 12)).setCell ⟨B0, 1, none⟩ (.slice ao2 12 12)).setCell ⟨B0, 2, none⟩ (.slice (some ⟨B3, 0, none⟩) 12 12)).heap.size = w1.heap.size := by simp
  refine ⟨hB, by simpa using hr.cell (i := 0) (by omega), by simpa using hr.cell (i := 1) (by omega), by simpa using hr.cell (i := 2) (by omega), r3.mod hm (fun e => h03 e.symm), o1.mod hm (fun b hb => (x1 b hb).2.2.1), o2.mod hm (fun b hb => (x2 b hb).2.2.1), ?_, ?_, h03, h0, h3, by rw [hz]; exact hl⟩
  · rw [hz]; exact x1
  · rw [hz]; exact x2
theorem gave_copied {w0 wc w2 : World} {B0 B3 : Nat} {ao1 ao2 : Option Addr} {X1 X2 : Nat → Prop} {s c : Nat → Nat → Int} {d : Nat → Bool} (G : Gave w0 wc B0 B3 ao1 ao2 X1 X2 s c)
    (hr : Row w2 B3 12 (fun i => if 0 ≤ i ∧ i < 0 + 12 then .bool (d (i - 0)) else .bool false)) (hm : Mod (fun x => x = B3) wc w2) (hz : w2.heap.size = wc.heap.size) :
    w2.cell? ⟨B0, 0, none⟩ = some (.slice ao1 12 12) ∧ w2.cell? ⟨B0, 1, none⟩ = some (.slice ao2 12 12) ∧ w2.cell? ⟨B0, 2, none⟩ = some (.slice (some ⟨B3, 0, none⟩) 12 12) ∧
    MemOwn (fun b => w0.heap.size ≤ b ∧ b < w2.heap.size) w2 ⟨ao1, ao2, some ⟨B3, 0, none⟩, 12, 12, 12⟩ (MD.full s c d) ∧ Blw w0 w2 := by
  refine ⟨hm.cell G.c0 G.b03, hm.cell G.c1 G.b03, hm.cell G.c2 G.b03, ⟨X1, X2, fun x => x = B3, fun b hb => ?_, fun b hb => ?_, fun b hb => ?_, G.o1.mod hm (fun b hb => (G.x1 b hb).2.2.2.1), G.o2.mod hm (fun b hb => (G.x2 b hb).2.2.2), ⟨by show 12 ≤ _; omega, fun _ => ⟨B3, rfl, rfl, hr.congr fun i hi => ?_⟩⟩⟩, Mod.blw G.blw hm (fun i hi => by rw [hi]; exact G.b3)⟩
  · have := G.x1 b hb
    exact ⟨⟨this.1, by omega⟩, this.2.2.2.2, this.2.2.2.1⟩
  · have := G.x2 b hb
    exact ⟨⟨this.1, by omega⟩, this.2.2.2⟩
  · have := G.b3; have := G.l3
    subst hb
    exact ⟨by omega, by omega⟩
  · have : i < 12 := hi
    simp [this, MD.full]
set_option maxRecDepth 100000 in
set_option maxHeartbeats 4000000 in
theorem giveOut_any (b : Nat) (s c : Nat → Nat → Int) (d : Nat → Bool) (w : World) (h : Row w b 108 (hcell s c d)) :
    Calls Try.prog 68 #[.pointer (some ⟨b, 0, none⟩)] w fun e w' => ∃ m : MV, e = .returned (m.val (MD.full s c d)) ∧ MemOwn (fun b => w.heap.size ≤ b ∧ b < w'.heap.size) w' m (MD.full s c d) ∧ Blw w w' := by
  have m1 := mkb12
  go_enter Try.func68, Try.ntmps68
  go_wp2
  have hbA : Blw w (w.alloc (.cells #[.slice none 0 0, .slice none 0 0, .slice none 0 0] 26)) := (Blw.refl _).alloc _
  have rA := row_three w 26
  have hzA : (w.alloc (.cells #[.slice none 0 0, .slice none 0 0, .slice none 0 0] 26)).heap.size = w.heap.size + 1 := by simp
  revert hbA rA hzA
  generalize w.alloc (.cells #[.slice none 0 0, .slice none 0 0, .slice none 0 0] 26) = w0
  intro hbA rA hzA
  replace h := h.blw hbA
  go_cut [3] from 4 to 23 (fun p wc => ∃ B0 B3 ao1 ao2 X1 X2, p = .pointer (some ⟨B0, 0, none⟩) ∧ Gave w0 wc B0 B3 ao1 ao2 X1 X2 s c)
  case first =>
    obtain ⟨cs1, z1, e1, L1⟩ := part_of (o := 0) (m := 48) 88 h (by omega) info76
    obtain ⟨cs2, z2, e2, L2⟩ := part_of (o := 48) (m := 48) 88 h (by omega) info76
    have HG1 : Hid (∀ W, _) := fun W => giveLines_any cs1.toArray s W (fun i j hi hj => by rw [e1 _ (by omega), Nat.zero_add, hcell_s hi hj])
    have HG2 : Hid (∀ W, _) := fun W => giveLines_any cs2.toArray c W (fun i j hi hj => by rw [e2 _ (by omega), hcell_c hi hj])
    replace L1 : Hid (∀ w', Blw w0 w' → w'.rangeAt b 0 cs1) := L1
    replace L2 : Hid (∀ w', Blw w0 w' → w'.rangeAt b 48 cs2) := L2
    clear e1 e2
    refine wp_region_noPanic ?_
    refine wp_region_held_drew (S := fun w' => Blw w0 w') (by kernel_rfl) (Blw.refl _).drew (fun hB1 => ?_)
    have hz1 : w0.heap.size ≤ w0.drew.heap.size := Nat.le_refl _
    revert hB1 hz1
    generalize w0.drew = w1
    intro hB1 hz1
    refine wpAnyH_take (i := 0) (v := .pointer (some ⟨b, 0, none⟩)) rfl (by kernel_rfl) (by kernel_rfl) (by kernel_rfl) (fun _ _ _ h => h) (Or.inl ⟨by rfl, fun w' _ => by go_simp⟩) hB1 ?_
    simp only [Act.put, List.setIfInBounds_toArray, List.set_cons_zero, List.set_cons_succ]
    refine wpAnyH_take (i := 1) (v := .pointer (some ⟨b, 0, none⟩)) rfl (by kernel_rfl) (by kernel_rfl) (by kernel_rfl) (fun _ _ _ h => h) (Or.inl ⟨by rfl, fun w' _ => by go_simp⟩) hB1 ?_
    simp only [Act.put, List.setIfInBounds_toArray, List.set_cons_zero, List.set_cons_succ]
    refine wpAnyH_take (i := 2) (v := .pointer (some ⟨b, 0, none⟩)) rfl (by kernel_rfl) (by kernel_rfl) (by kernel_rfl) (fun _ _ _ h => h) (Or.inl ⟨by rfl, fun w' _ => by go_simp⟩) hB1 ?_
    simp only [Act.put, List.setIfInBounds_toArray, List.set_cons_zero, List.set_cons_succ]
    refine wpAnyH_take (i := 3) (v := .agg cs1.toArray) rfl (by kernel_rfl) (by kernel_rfl) (by kernel_rfl) (fun _ _ _ h => h) (yieldsIf_load_mid (by rfl) 88 (.tmp 6) rfl b 0 rfl cs1 _ (fun w' hb => L1.out w' hb) Try.underlying88 rfl z1) hB1 ?_
    simp only [Act.put, List.setIfInBounds_toArray, List.set_cons_zero, List.set_cons_succ]
    refine wpAnyH_take (i := 5) (v := .pointer (some ⟨b, 0, none⟩)) rfl (by kernel_rfl) (by kernel_rfl) (by kernel_rfl) (fun _ _ _ h => h) (Or.inl ⟨by rfl, fun w' _ => by go_simp⟩) hB1 ?_
    simp only [Act.put, List.setIfInBounds_toArray, List.set_cons_zero, List.set_cons_succ]
    refine wpAnyH_take (i := 6) (v := .pointer (some ⟨b, 0, none⟩)) rfl (by kernel_rfl) (by kernel_rfl) (by kernel_rfl) (fun _ _ _ h => h) (Or.inl ⟨by rfl, fun w' _ => by go_simp⟩) hB1 ?_
    simp only [Act.put, List.setIfInBounds_toArray, List.set_cons_zero, List.set_cons_succ]
    refine wpAnyH_take (i := 7) (v := .pointer (some ⟨b, 48, none⟩)) rfl (by kernel_rfl) (by kernel_rfl) (by kernel_rfl) (fun _ _ _ h => h) (Or.inl ⟨by rfl, fun w' _ => by go_simp⟩) hB1 ?_
    simp only [Act.put, List.setIfInBounds_toArray, List.set_cons_zero, List.set_cons_succ]
    refine wpAnyH_take (i := 8) (v := .agg cs2.toArray) rfl (by kernel_rfl) (by kernel_rfl) (by kernel_rfl) (fun _ _ _ h => h) (yieldsIf_load_mid (by rfl) 88 (.tmp 11) rfl b 48 rfl cs2 _ (fun w' hb => L2.out w' hb) Try.underlying88 rfl z2) hB1 ?_
    simp only [Act.put, List.setIfInBounds_toArray, List.set_cons_zero, List.set_cons_succ]
    refine wpAnyH_ready (rs := [4, 10, 12]) (by kernel_rfl) (by simp) ?_
    refine AllReadyH.cons rfl (fun K hK => ?_) (AllReadyH.cons rfl (fun K hK => ?_) (AllReadyH.cons rfl (fun K hK => ?_) AllReadyH.nil))
    · -- operation 4
      go_simp
      refine (HG1.out _).mono ?_
      rintro e w2 ⟨ao1, rfl, o1, hb2⟩
      have hz2 := hb2.size
      refine hK.out _ _ (hB1.trans hb2) (fun hB2 => ?_)
      clear hK K
      try simp only [Act.put, List.setIfInBounds_toArray, List.set_cons_zero, List.set_cons_succ]
      refine wpAnyH_ready (rs := [9, 10, 12]) (by kernel_rfl) (by simp) ?_
      refine AllReadyH.cons rfl (fun K hK => ?_) (AllReadyH.cons rfl (fun K hK => ?_) (AllReadyH.cons rfl (fun K hK => ?_) AllReadyH.nil))
      · -- operation 9
        go_simp
        refine (HG2.out _).mono ?_
        rintro e w3 ⟨ao2, rfl, o2, hb3⟩
        have hz3 := hb3.size
        refine hK.out _ _ (hB2.trans hb3) (fun hB3 => ?_)
        clear hK K
        try simp only [Act.put, List.setIfInBounds_toArray, List.set_cons_zero, List.set_cons_succ]
        replace o1 := o1.blw hb3
        refine wpAnyH_ready (rs := [10, 12]) (by kernel_rfl) (by simp) ?_
        refine AllReadyH.cons rfl (fun K hK => ?_) (AllReadyH.cons rfl (fun K hK => ?_) AllReadyH.nil)
        · -- operation 10
          go_simp
          refine hK.out _ _ (hB3.alloc _) (fun hB4 => ?_)
          clear hK K
          try simp only [Act.put, List.setIfInBounds_toArray, List.set_cons_zero, List.set_cons_succ]
          have r3 := Row.made w3 (.bool false) 12 4
          have hb4 : Blw w3 (w3.alloc (.cells (madeCells #[.bool false] 12) 4)) := (Blw.refl _).alloc _
          have hz4 : w3.heap.size < (w3.alloc (.cells (madeCells #[.bool false] 12) 4)).heap.size := by simp
          revert r3 hb4 hz4 hB4
          generalize w3.alloc (.cells (madeCells #[.bool false] 12) 4) = w4
          intro hB4 r3 hb4 hz4
          obtain ⟨B3, eqB3⟩ : ∃ B, B = w3.heap.size := ⟨_, rfl⟩
          rw [← eqB3] at r3 ⊢
          have leB3 : B3 ≤ w3.heap.size := by omega
          have geB3 : w3.heap.size ≤ B3 := by omega
          clear eqB3
          replace o1 := o1.blw hb4
          replace o2 := o2.blw hb4
          refine wpAnyH_take (i := 11) (v := .agg #[.slice ao1 12 12, .slice ao2 12 12, .slice (some ⟨B3, 0, none⟩) 12 12]) rfl (by kernel_rfl) (by kernel_rfl) (by kernel_rfl) (fun _ _ _ h => h) (Or.inl ⟨by rfl, fun w' _ => by go_simp⟩) hB4 ?_
          simp only [Act.put, List.setIfInBounds_toArray, List.set_cons_zero, List.set_cons_succ]
          refine wpAnyH_ready (rs := [12]) (by kernel_rfl) (by simp) ?_
          refine AllReadyH.cons rfl (fun K hK => ?_) AllReadyH.nil
          · -- operation 12
            go_simp
            refine hK.out _ _ (hB4.alloc _) (fun hB5 => ?_)
            clear hK K
            try simp only [Act.put, List.setIfInBounds_toArray, List.set_cons_zero, List.set_cons_succ]
            have r0 := row_three w4 26
            have hb5 : Blw w4 (w4.alloc (.cells #[.slice none 0 0, .slice none 0 0, .slice none 0 0] 26)) := (Blw.refl _).alloc _
            have hz5 : w4.heap.size < (w4.alloc (.cells #[.slice none 0 0, .slice none 0 0, .slice none 0 0] 26)).heap.size := by simp
            revert r0 hb5 hz5 hB5
            generalize w4.alloc (.cells #[.slice none 0 0, .slice none 0 0, .slice none 0 0] 26) = w5
            intro hB5 r0 hb5 hz5
            obtain ⟨B0, eqB0⟩ : ∃ B, B = w4.heap.size := ⟨_, rfl⟩
            rw [← eqB0] at r0 ⊢
            have leB0 : B0 ≤ w4.heap.size := by omega
            have geB0 : w4.heap.size ≤ B0 := by omega
            clear eqB0
            replace o1 := o1.blw hb5
            replace o2 := o2.blw hb5
            replace r3 := r3.blw hb5
            have c0 : w5.cell? ⟨B0, 0, none⟩ = some (.slice none 0 0) := r0.cell (by omega)
            have f0 : w5.frozen? ⟨B0, 0, none⟩ = false := r0.frozen 0
            have c1 : w5.cell? ⟨B0, 1, none⟩ = some (.slice none 0 0) := r0.cell (by omega)
            have f1 : w5.frozen? ⟨B0, 1, none⟩ = false := r0.frozen 1
            have c2 : w5.cell? ⟨B0, 2, none⟩ = some (.slice none 0 0) := r0.cell (by omega)
            have f2 : w5.frozen? ⟨B0, 2, none⟩ = false := r0.frozen 2
            refine wpAnyH_ready (rs := [13]) (by kernel_rfl) (by simp) ?_
            refine AllReadyH.cons rfl (fun K hK => ?_) AllReadyH.nil
            go_simp
            refine hK.out _ _ (((hB5.setCell (by show w0.heap.size ≤ B0; omega) _).setCell (by show w0.heap.size ≤ B0; omega) _).setCell (by show w0.heap.size ≤ B0; omega) _) (fun hBe => ?_)
            clear hK K c0 c1 c2 f0 f1 f2
            refine wpAnyH_done (by kernel_rfl) ?_ _
            refine NoPanic.normal ?_
            go_wp2
            go_meet
            case rel => exact ⟨B0, B3, ao1, ao2, _, _, rfl, gave_end r0 r3 o1 o2 hBe (fun b hb => by obtain ⟨x, y⟩ := hb; refine ⟨by omega, by omega, by omega, by omega, fun hh => by obtain ⟨u, v⟩ := hh; omega⟩) (fun b hb => by obtain ⟨x, y⟩ := hb; refine ⟨by omega, by omega, by omega, by omega⟩) (by omega) (by omega) (by omega) (by omega)⟩
        · -- operation 12
          go_simp
          refine hK.out _ _ (hB3.alloc _) (fun hB4 => ?_)
          clear hK K
          try simp only [Act.put, List.setIfInBounds_toArray, List.set_cons_zero, List.set_cons_succ]
          have r0 := row_three w3 26
          have hb4 : Blw w3 (w3.alloc (.cells #[.slice none 0 0, .slice none 0 0, .slice none 0 0] 26)) := (Blw.refl _).alloc _
          have hz4 : w3.heap.size < (w3.alloc (.cells #[.slice none 0 0, .slice none 0 0, .slice none 0 0] 26)).heap.size := by simp
          revert r0 hb4 hz4 hB4
          generalize w3.alloc (.cells #[.slice none 0 0, .slice none 0 0, .slice none 0 0] 26) = w4
          intro hB4 r0 hb4 hz4
          obtain ⟨B0, eqB0⟩ : ∃ B, B = w3.heap.size := ⟨_, rfl⟩
          rw [← eqB0] at r0 ⊢
          have leB0 : B0 ≤ w3.heap.size := by omega
          have geB0 : w3.heap.size ≤ B0 := by omega
          clear eqB0
          replace o1 := o1.blw hb4
          replace o2 := o2.blw hb4
          refine wpAnyH_ready (rs := [10]) (by kernel_rfl) (by simp) ?_
          refine AllReadyH.cons rfl (fun K hK => ?_) AllReadyH.nil
          · -- operation 10
            go_simp
            refine hK.out _ _ (hB4.alloc _) (fun hB5 => ?_)
            clear hK K
            try simp only [Act.put, List.setIfInBounds_toArray, List.set_cons_zero, List.set_cons_succ]
            have r3 := Row.made w4 (.bool false) 12 4
            have hb5 : Blw w4 (w4.alloc (.cells (madeCells #[.bool false] 12) 4)) := (Blw.refl _).alloc _
            have hz5 : w4.heap.size < (w4.alloc (.cells (madeCells #[.bool false] 12) 4)).heap.size := by simp
            revert r3 hb5 hz5 hB5
            generalize w4.alloc (.cells (madeCells #[.bool false] 12) 4) = w5
            intro hB5 r3 hb5 hz5
            obtain ⟨B3, eqB3⟩ : ∃ B, B = w4.heap.size := ⟨_, rfl⟩
            rw [← eqB3] at r3 ⊢
            have leB3 : B3 ≤ w4.heap.size := by omega
            have geB3 : w4.heap.size ≤ B3 := by omega
            clear eqB3
            replace o1 := o1.blw hb5
            replace o2 := o2.blw hb5
            replace r0 := r0.blw hb5
            refine wpAnyH_take (i := 11) (v := .agg #[.slice ao1 12 12, .slice ao2 12 12, .slice (some ⟨B3, 0, none⟩) 12 12]) rfl (by kernel_rfl) (by kernel_rfl) (by kernel_rfl) (fun _ _ _ h => h) (Or.inl ⟨by rfl, fun w' _ => by go_simp⟩) hB5 ?_
            simp only [Act.put, List.setIfInBounds_toArray, List.set_cons_zero, List.set_cons_succ]
            have c0 : w5.cell? ⟨B0, 0, none⟩ = some (.slice none 0 0) := r0.cell (by omega)
            have f0 : w5.frozen? ⟨B0, 0, none⟩ = false := r0.frozen 0
            have c1 : w5.cell? ⟨B0, 1, none⟩ = some (.slice none 0 0) := r0.cell (by omega)
            have f1 : w5.frozen? ⟨B0, 1, none⟩ = false := r0.frozen 1
            have c2 : w5.cell? ⟨B0, 2, none⟩ = some (.slice none 0 0) := r0.cell (by omega)
            have f2 : w5.frozen? ⟨B0, 2, none⟩ = false := r0.frozen 2
            refine wpAnyH_ready (rs := [13]) (by kernel_rfl) (by simp) ?_
            refine AllReadyH.cons rfl (fun K hK => ?_) AllReadyH.nil
            go_simp
            refine hK.out _ _ (((hB5.setCell (by show w0.heap.size ≤ B0; omega) _).setCell (by show w0.heap.size ≤ B0; omega) _).setCell (by show w0.heap.size ≤ B0; omega) _) (fun hBe => ?_)
            clear hK K c0 c1 c2 f0 f1 f2
            refine wpAnyH_done (by kernel_rfl) ?_ _
            refine NoPanic.normal ?_
            go_wp2
            go_meet
            case rel => exact ⟨B0, B3, ao1, ao2, _, _, rfl, gave_end r0 r3 o1 o2 hBe (fun b hb => by obtain ⟨x, y⟩ := hb; refine ⟨by omega, by omega, by omega, by omega, fun hh => by obtain ⟨u, v⟩ := hh; omega⟩) (fun b hb => by obtain ⟨x, y⟩ := hb; refine ⟨by omega, by omega, by omega, by omega⟩) (by omega) (by omega) (by omega) (by omega)⟩
      · -- operation 10
        go_simp
        refine hK.out _ _ (hB2.alloc _) (fun hB3 => ?_)
        clear hK K
        try simp only [Act.put, List.setIfInBounds_toArray, List.set_cons_zero, List.set_cons_succ]
        have r3 := Row.made w2 (.bool false) 12 4
        have hb3 : Blw w2 (w2.alloc (.cells (madeCells #[.bool false] 12) 4)) := (Blw.refl _).alloc _
        have hz3 : w2.heap.size < (w2.alloc (.cells (madeCells #[.bool false] 12) 4)).heap.size := by simp
        revert r3 hb3 hz3 hB3
        generalize w2.alloc (.cells (madeCells #[.bool false] 12) 4) = w3
        intro hB3 r3 hb3 hz3
        obtain ⟨B3, eqB3⟩ : ∃ B, B = w2.heap.size := ⟨_, rfl⟩
        rw [← eqB3] at r3 ⊢
        have leB3 : B3 ≤ w2.heap.size := by omega
        have geB3 : w2.heap.size ≤ B3 := by omega
        clear eqB3
        replace o1 := o1.blw hb3
        refine wpAnyH_ready (rs := [9, 12]) (by kernel_rfl) (by simp) ?_
        refine AllReadyH.cons rfl (fun K hK => ?_) (AllReadyH.cons rfl (fun K hK => ?_) AllReadyH.nil)
        · -- operation 9
          go_simp
          refine (HG2.out _).mono ?_
          rintro e w4 ⟨ao2, rfl, o2, hb4⟩
          have hz4 := hb4.size
          refine hK.out _ _ (hB3.trans hb4) (fun hB4 => ?_)
          clear hK K
          try simp only [Act.put, List.setIfInBounds_toArray, List.set_cons_zero, List.set_cons_succ]
          replace o1 := o1.blw hb4
          replace r3 := r3.blw hb4
          refine wpAnyH_take (i := 11) (v := .agg #[.slice ao1 12 12, .slice ao2 12 12, .slice (some ⟨B3, 0, none⟩) 12 12]) rfl (by kernel_rfl) (by kernel_rfl) (by kernel_rfl) (fun _ _ _ h => h) (Or.inl ⟨by rfl, fun w' _ => by go_simp⟩) hB4 ?_
          simp only [Act.put, List.setIfInBounds_toArray, List.set_cons_zero, List.set_cons_succ]
          refine wpAnyH_ready (rs := [12]) (by kernel_rfl) (by simp) ?_
          refine AllReadyH.cons rfl (fun K hK => ?_) AllReadyH.nil
          · -- operation 12
            go_simp
            refine hK.out _ _ (hB4.alloc _) (fun hB5 => ?_)
            clear hK K
            try simp only [Act.put, List.setIfInBounds_toArray, List.set_cons_zero, List.set_cons_succ]
            have r0 := row_three w4 26
            have hb5 : Blw w4 (w4.alloc (.cells #[.slice none 0 0, .slice none 0 0, .slice none 0 0] 26)) := (Blw.refl _).alloc _
            have hz5 : w4.heap.size < (w4.alloc (.cells #[.slice none 0 0, .slice none 0 0, .slice none 0 0] 26)).heap.size := by simp
            revert r0 hb5 hz5 hB5
            generalize w4.alloc (.cells #[.slice none 0 0, .slice none 0 0, .slice none 0 0] 26) = w5
            intro hB5 r0 hb5 hz5
            obtain ⟨B0, eqB0⟩ : ∃ B, B = w4.heap.size := ⟨_, rfl⟩
            rw [← eqB0] at r0 ⊢
            have leB0 : B0 ≤ w4.heap.size := by omega
            have geB0 : w4.heap.size ≤ B0 := by omega
            clear eqB0
            replace o1 := o1.blw hb5
            replace o2 := o2.blw hb5
            replace r3 := r3.blw hb5
            have c0 : w5.cell? ⟨B0, 0, none⟩ = some (.slice none 0 0) := r0.cell (by omega)
            have f0 : w5.frozen? ⟨B0, 0, none⟩ = false := r0.frozen 0
            have c1 : w5.cell? ⟨B0, 1, none⟩ = some (.slice none 0 0) := r0.cell (by omega)
            have f1 : w5.frozen? ⟨B0, 1, none⟩ = false := r0.frozen 1
            have c2 : w5.cell? ⟨B0, 2, none⟩ = some (.slice none 0 0) := r0.cell (by omega)
            have f2 : w5.frozen? ⟨B0, 2, none⟩ = false := r0.frozen 2
            refine wpAnyH_ready (rs := [13]) (by kernel_rfl) (by simp) ?_
            refine AllReadyH.cons rfl (fun K hK => ?_) AllReadyH.nil
            go_simp
            refine hK.out _ _ (((hB5.setCell (by show w0.heap.size ≤ B0; omega) _).setCell (by show w0.heap.size ≤ B0; omega) _).setCell (by show w0.heap.size ≤ B0; omega) _) (fun hBe => ?_)
            clear hK K c0 c1 c2 f0 f1 f2
            refine wpAnyH_done (by kernel_rfl) ?_ _
            refine NoPanic.normal ?_
            go_wp2
            go_meet
            case rel => exact ⟨B0, B3, ao1, ao2, _, _, rfl, gave_end r0 r3 o1 o2 hBe (fun b hb => by obtain ⟨x, y⟩ := hb; refine ⟨by omega, by omega, by omega, by omega, fun hh => by obtain ⟨u, v⟩ := hh; omega⟩) (fun b hb => by obtain ⟨x, y⟩ := hb; refine ⟨by omega, by omega, by omega, by omega⟩) (by omega) (by omega) (by omega) (by omega)⟩
        · -- operation 12
          go_simp
          refine hK.out _ _ (hB3.alloc _) (fun hB4 => ?_)
          clear hK K
          try simp only [Act.put, List.setIfInBounds_toArray, List.set_cons_zero, List.set_cons_succ]
          have r0 := row_three w3 26
          have hb4 : Blw w3 (w3.alloc (.cells #[.slice none 0 0, .slice none 0 0, .slice none 0 0] 26)) := (Blw.refl _).alloc _
          have hz4 : w3.heap.size < (w3.alloc (.cells #[.slice none 0 0, .slice none 0 0, .slice none 0 0] 26)).heap.size := by simp
          revert r0 hb4 hz4 hB4
          generalize w3.alloc (.cells #[.slice none 0 0, .slice none 0 0, .slice none 0 0] 26) = w4
          intro hB4 r0 hb4 hz4
          obtain ⟨B0, eqB0⟩ : ∃ B, B = w3.heap.size := ⟨_, rfl⟩
          rw [← eqB0] at r0 ⊢
          have leB0 : B0 ≤ w3.heap.size := by omega
          have geB0 : w3.heap.size ≤ B0 := by omega
          clear eqB0
          replace o1 := o1.blw hb4
          replace r3 := r3.blw hb4
          refine wpAnyH_ready (rs := [9]) (by kernel_rfl) (by simp) ?_
          refine AllReadyH.cons rfl (fun K hK => ?_) AllReadyH.nil
          · -- operation 9
            go_simp
            refine (HG2.out _).mono ?_
            rintro e w5 ⟨ao2, rfl, o2, hb5⟩
            have hz5 := hb5.size
            refine hK.out _ _ (hB4.trans hb5) (fun hB5 => ?_)
            clear hK K
            try simp only [Act.put, List.setIfInBounds_toArray, List.set_cons_zero, List.set_cons_succ]
            replace o1 := o1.blw hb5
            replace r3 := r3.blw hb5
            replace r0 := r0.blw hb5
            refine wpAnyH_take (i := 11) (v := .agg #[.slice ao1 12 12, .slice ao2 12 12, .slice (some ⟨B3, 0, none⟩) 12 12]) rfl (by kernel_rfl) (by kernel_rfl) (by kernel_rfl) (fun _ _ _ h => h) (Or.inl ⟨by rfl, fun w' _ => by go_simp⟩) hB5 ?_
            simp only [Act.put, List.setIfInBounds_toArray, List.set_cons_zero, List.set_cons_succ]
            have c0 : w5.cell? ⟨B0, 0, none⟩ = some (.slice none 0 0) := r0.cell (by omega)
            have f0 : w5.frozen? ⟨B0, 0, none⟩ = false := r0.frozen 0
            have c1 : w5.cell? ⟨B0, 1, none⟩ = some (.slice none 0 0) := r0.cell (by omega)
            have f1 : w5.frozen? ⟨B0, 1, none⟩ = false := r0.frozen 1
            have c2 : w5.cell? ⟨B0, 2, none⟩ = some (.slice none 0 0) := r0.cell (by omega)
            have f2 : w5.frozen? ⟨B0, 2, none⟩ = false := r0.frozen 2
            refine wpAnyH_ready (rs := [13]) (by kernel_rfl) (by simp) ?_
            refine AllReadyH.cons rfl (fun K hK => ?_) AllReadyH.nil
            go_simp
            refine hK.out _ _ (((hB5.setCell (by show w0.heap.size ≤ B0; omega) _).setCell (by show w0.heap.size ≤ B0; omega) _).setCell (by show w0.heap.size ≤ B0; omega) _) (fun hBe => ?_)
            clear hK K c0 c1 c2 f0 f1 f2
            refine wpAnyH_done (by kernel_rfl) ?_ _
            refine NoPanic.normal ?_
            go_wp2
            go_meet
            case rel => exact ⟨B0, B3, ao1, ao2, _, _, rfl, gave_end r0 r3 o1 o2 hBe (fun b hb => by obtain ⟨x, y⟩ := hb; refine ⟨by omega, by omega, by omega, by omega, fun hh => by obtain ⟨u, v⟩ := hh; omega⟩) (fun b hb => by obtain ⟨x, y⟩ := hb; refine ⟨by omega, by omega, by omega, by omega⟩) (by omega) (by omega) (by omega) (by omega)⟩
      · -- operation 12
        go_simp
        refine hK.out _ _ (hB2.alloc _) (fun hB3 => ?_)
        clear hK K
        try simp only [Act.put, List.setIfInBounds_toArray, List.set_cons_zero, List.set_cons_succ]
        have r0 := row_three w2 26
        have hb3 : Blw w2 (w2.alloc (.cells #[.slice none 0 0, .slice none 0 0, .slice none 0 0] 26)) := (Blw.refl _).alloc _
        have hz3 : w2.heap.size < (w2.alloc (.cells #[.slice none 0 0, .slice none 0 0, .slice none 0 0] 26)).heap.size := by simp
        revert r0 hb3 hz3 hB3
        generalize w2.alloc (.cells #[.slice none 0 0, .slice none 0 0, .slice none 0 0] 26) = w3
        intro hB3 r0 hb3 hz3
        obtain ⟨B0, eqB0⟩ : ∃ B, B = w2.heap.size := ⟨_, rfl⟩
        rw [← eqB0] at r0 ⊢
        have leB0 : B0 ≤ w2.heap.size := by omega
        have geB0 : w2.heap.size ≤ B0 := by omega
        clear eqB0
        replace o1 := o1.blw hb3
        refine wpAnyH_ready (rs := [9, 10]) (by kernel_rfl) (by simp) ?_
        refine AllReadyH.cons rfl (fun K hK => ?_) (AllReadyH.cons rfl (fun K hK => ?_) AllReadyH.nil)
        · -- operation 9
          go_simp
          refine (HG2.out _).mono ?_
          rintro e w4 ⟨ao2, rfl, o2, hb4⟩
          have hz4 := hb4.size
          refine hK.out _ _ (hB3.trans hb4) (fun hB4 => ?_)
          clear hK K
          try simp only [Act.put, List.setIfInBounds_toArray, List.set_cons_zero, List.set_cons_succ]
          replace o1 := o1.blw hb4
          replace r0 := r0.blw hb4
          refine wpAnyH_ready (rs := [10]) (by kernel_rfl) (by simp) ?_
          refine AllReadyH.cons rfl (fun K hK => ?_) AllReadyH.nil
          · -- operation 10
            go_simp
            refine hK.out _ _ (hB4.alloc _) (fun hB5 => ?_)
            clear hK K
            try simp only [Act.put, List.setIfInBounds_toArray, List.set_cons_zero, List.set_cons_succ]
            have r3 := Row.made w4 (.bool false) 12 4
            have hb5 : Blw w4 (w4.alloc (.cells (madeCells #[.bool false] 12) 4)) := (Blw.refl _).alloc _
            have hz5 : w4.heap.size < (w4.alloc (.cells (madeCells #[.bool false] 12) 4)).heap.size := by simp
            revert r3 hb5 hz5 hB5
            generalize w4.alloc (.cells (madeCells #[.bool false] 12) 4) = w5
            intro hB5 r3 hb5 hz5
            obtain ⟨B3, eqB3⟩ : ∃ B, B = w4.heap.size := ⟨_, rfl⟩
            rw [← eqB3] at r3 ⊢
            have leB3 : B3 ≤ w4.heap.size := by omega
            have geB3 : w4.heap.size ≤ B3 := by omega
            clear eqB3
            replace o1 := o1.blw hb5
            replace o2 := o2.blw hb5
            replace r0 := r0.blw hb5
            refine wpAnyH_take (i := 11) (v := .agg #[.slice ao1 12 12, .slice ao2 12 12, .slice (some ⟨B3, 0, none⟩) 12 12]) rfl (by kernel_rfl) (by kernel_rfl) (by kernel_rfl) (fun _ _ _ h => h) (Or.inl ⟨by rfl, fun w' _ => by go_simp⟩) hB5 ?_
            simp only [Act.put, List.setIfInBounds_toArray, List.set_cons_zero, List.set_cons_succ]
            have c0 : w5.cell? ⟨B0, 0, none⟩ = some (.slice none 0 0) := r0.cell (by omega)
            have f0 : w5.frozen? ⟨B0, 0, none⟩ = false := r0.frozen 0
            have c1 : w5.cell? ⟨B0, 1, none⟩ = some (.slice none 0 0) := r0.cell (by omega)
            have f1 : w5.frozen? ⟨B0, 1, none⟩ = false := r0.frozen 1
            have c2 : w5.cell? ⟨B0, 2, none⟩ = some (.slice none 0 0) := r0.cell (by omega)
            have f2 : w5.frozen? ⟨B0, 2, none⟩ = false := r0.frozen 2
            refine wpAnyH_ready (rs := [13]) (by kernel_rfl) (by simp) ?_
            refine AllReadyH.cons rfl (fun K hK => ?_) AllReadyH.nil
            go_simp
            refine hK.out _ _ (((hB5.setCell (by show w0.heap.size ≤ B0; omega) _).setCell (by show w0.heap.size ≤ B0; omega) _).setCell (by show w0.heap.size ≤ B0; omega) _) (fun hBe => ?_)
            clear hK K c0 c1 c2 f0 f1 f2
            refine wpAnyH_done (by kernel_rfl) ?_ _
            refine NoPanic.normal ?_
            go_wp2
            go_meet
            case rel => exact ⟨B0, B3, ao1, ao2, _, _, rfl, gave_end r0 r3 o1 o2 hBe (fun b hb => by obtain ⟨x, y⟩ := hb; refine ⟨by omega, by omega, by omega, by omega, fun hh => by obtain ⟨u, v⟩ := hh; omega⟩) (fun b hb => by obtain ⟨x, y⟩ := hb; refine ⟨by omega, by omega, by omega, by omega⟩) (by omega) (by omega) (by omega) (by omega)⟩
        · -- operation 10
          go_simp
          refine hK.out _ _ (hB3.alloc _) (fun hB4 => ?_)
          clear hK K
          try simp only [Act.put, List.setIfInBounds_toArray, List.set_cons_zero, List.set_cons_succ]
          have r3 := Row.made w3 (.bool false) 12 4
          have hb4 : Blw w3 (w3.alloc (.cells (madeCells #[.bool false] 12) 4)) := (Blw.refl _).alloc _
          have hz4 : w3.heap.size < (w3.alloc (.cells (madeCells #[.bool false] 12) 4)).heap.size := by simp
          revert r3 hb4 hz4 hB4
          generalize w3.alloc (.cells (madeCells #[.bool false] 12) 4) = w4
          intro hB4 r3 hb4 hz4
          obtain ⟨B3, eqB3⟩ : ∃ B, B = w3.heap.size := ⟨_, rfl⟩
          rw [← eqB3] at r3 ⊢
          have leB3 : B3 ≤ w3.heap.size := by omega
          have geB3 : w3.heap.size ≤ B3 := by omega
          clear eqB3
          replace o1 := o1.blw hb4
          replace r0 := r0.blw hb4
          refine wpAnyH_ready (rs := [9]) (by kernel_rfl) (by simp) ?_
          refine AllReadyH.cons rfl (fun K hK => ?_) AllReadyH.nil
          · -- operation 9
            go_simp
            refine (HG2.out _).mono ?_
            rintro e w5 ⟨ao2, rfl, o2, hb5⟩
            have hz5 := hb5.size
            refine hK.out _ _ (hB4.trans hb5) (fun hB5 => ?_)
            clear hK K
            try simp only [Act.put, List.setIfInBounds_toArray, List.set_cons_zero, List.set_cons_succ]
            replace o1 := o1.blw hb5
            replace r3 := r3.blw hb5
            replace r0 := r0.blw hb5
            refine wpAnyH_take (i := 11) (v := .agg #[.slice ao1 12 12, .slice ao2 12 12, .slice (some ⟨B3, 0, none⟩) 12 12]) rfl (by kernel_rfl) (by kernel_rfl) (by kernel_rfl) (fun _ _ _ h => h) (Or.inl ⟨by rfl, fun w' _ => by go_simp⟩) hB5 ?_
            simp only [Act.put, List.setIfInBounds_toArray, List.set_cons_zero, List.set_cons_succ]
            have c0 : w5.cell? ⟨B0, 0, none⟩ = some (.slice none 0 0) := r0.cell (by omega)
            have f0 : w5.frozen? ⟨B0, 0, none⟩ = false := r0.frozen 0
            have c1 : w5.cell? ⟨B0, 1, none⟩ = some (.slice none 0 0) := r0.cell (by omega)
            have f1 : w5.frozen? ⟨B0, 1, none⟩ = false := r0.frozen 1
            have c2 : w5.cell? ⟨B0, 2, none⟩ = some (.slice none 0 0) := r0.cell (by omega)
            have f2 : w5.frozen? ⟨B0, 2, none⟩ = false := r0.frozen 2
            refine wpAnyH_ready (rs := [13]) (by kernel_rfl) (by simp) ?_
            refine AllReadyH.cons rfl (fun K hK => ?_) AllReadyH.nil
            go_simp
            refine hK.out _ _ (((hB5.setCell (by show w0.heap.size ≤ B0; omega) _).setCell (by show w0.heap.size ≤ B0; omega) _).setCell (by show w0.heap.size ≤ B0; omega) _) (fun hBe => ?_)
            clear hK K c0 c1 c2 f0 f1 f2
            refine wpAnyH_done (by kernel_rfl) ?_ _
            refine NoPanic.normal ?_
            go_wp2
            go_meet
            case rel => exact ⟨B0, B3, ao1, ao2, _, _, rfl, gave_end r0 r3 o1 o2 hBe (fun b hb => by obtain ⟨x, y⟩ := hb; refine ⟨by omega, by omega, by omega, by omega, fun hh => by obtain ⟨u, v⟩ := hh; omega⟩) (fun b hb => by obtain ⟨x, y⟩ := hb; refine ⟨by omega, by omega, by omega, by omega⟩) (by omega) (by omega) (by omega) (by omega)⟩
    · -- operation 10
      go_simp
      refine hK.out _ _ (hB1.alloc _) (fun hB2 => ?_)
      clear hK K
      try simp only [Act.put, List.setIfInBounds_toArray, List.set_cons_zero, List.set_cons_succ]
      have r3 := Row.made w1 (.bool false) 12 4
      have hb2 : Blw w1 (w1.alloc (.cells (madeCells #[.bool false] 12) 4)) := (Blw.refl _).alloc _
      have hz2 : w1.heap.size < (w1.alloc (.cells (madeCells #[.bool false] 12) 4)).heap.size := by simp
      revert r3 hb2 hz2 hB2
      generalize w1.alloc (.cells (madeCells #[.bool false] 12) 4) = w2
      intro hB2 r3 hb2 hz2
      obtain ⟨B3, eqB3⟩ : ∃ B, B = w1.heap.size := ⟨_, rfl⟩
      rw [← eqB3] at r3 ⊢
      have leB3 : B3 ≤ w1.heap.size := by omega
      have geB3 : w1.heap.size ≤ B3 := by omega
      clear eqB3
      refine wpAnyH_ready (rs := [4, 12]) (by kernel_rfl) (by simp) ?_
      refine AllReadyH.cons rfl (fun K hK => ?_) (AllReadyH.cons rfl (fun K hK => ?_) AllReadyH.nil)
      · -- operation 4
        go_simp
        refine (HG1.out _).mono ?_
        rintro e w3 ⟨ao1, rfl, o1, hb3⟩
        have hz3 := hb3.size
        refine hK.out _ _ (hB2.trans hb3) (fun hB3 => ?_)
        clear hK K
        try simp only [Act.put, List.setIfInBounds_toArray, List.set_cons_zero, List.set_cons_succ]
        replace r3 := r3.blw hb3
        refine wpAnyH_ready (rs := [9, 12]) (by kernel_rfl) (by simp) ?_
        refine AllReadyH.cons rfl (fun K hK => ?_) (AllReadyH.cons rfl (fun K hK => ?_) AllReadyH.nil)
        · -- operation 9
          go_simp
          refine (HG2.out _).mono ?_
          rintro e w4 ⟨ao2, rfl, o2, hb4⟩
          have hz4 := hb4.size
          refine hK.out _ _ (hB3.trans hb4) (fun hB4 => ?_)
          clear hK K
          try simp only [Act.put, List.setIfInBounds_toArray, List.set_cons_zero, List.set_cons_succ]
          replace o1 := o1.blw hb4
          replace r3 := r3.blw hb4
          refine wpAnyH_take (i := 11) (v := .agg #[.slice ao1 12 12, .slice ao2 12 12, .slice (some ⟨B3, 0, none⟩) 12 12]) rfl (by kernel_rfl) (by kernel_rfl) (by kernel_rfl) (fun _ _ _ h => h) (Or.inl ⟨by rfl, fun w' _ => by go_simp⟩) hB4 ?_
          simp only [Act.put, List.setIfInBounds_toArray, List.set_cons_zero, List.set_cons_succ]
          refine wpAnyH_ready (rs := [12]) (by kernel_rfl) (by simp) ?_
          refine AllReadyH.cons rfl (fun K hK => ?_) AllReadyH.nil
          · -- operation 12
            go_simp
            refine hK.out _ _ (hB4.alloc _) (fun hB5 => ?_)
            clear hK K
            try simp only [Act.put, List.setIfInBounds_toArray, List.set_cons_zero, List.set_cons_succ]
            have r0 := row_three w4 26
            have hb5 : Blw w4 (w4.alloc (.cells #[.slice none 0 0, .slice none 0 0, .slice none 0 0] 26)) := (Blw.refl _).alloc _
            have hz5 : w4.heap.size < (w4.alloc (.cells #[.slice none 0 0, .slice none 0 0, .slice none 0 0] 26)).heap.size := by simp
            revert r0 hb5 hz5 hB5
            generalize w4.alloc (.cells #[.slice none 0 0, .slice none 0 0, .slice none 0 0] 26) = w5
            intro hB5 r0 hb5 hz5
            obtain ⟨B0, eqB0⟩ : ∃ B, B = w4.heap.size := ⟨_, rfl⟩
            rw [← eqB0] at r0 ⊢
            have leB0 : B0 ≤ w4.heap.size := by omega
            have geB0 : w4.heap.size ≤ B0 := by omega
            clear eqB0
            replace o1 := o1.blw hb5
            replace o2 := o2.blw hb5
            replace r3 := r3.blw hb5
            have c0 : w5.cell? ⟨B0, 0, none⟩ = some (.slice none 0 0) := r0.cell (by omega)
            have f0 : w5.frozen? ⟨B0, 0, none⟩ = false := r0.frozen 0
            have c1 : w5.cell? ⟨B0, 1, none⟩ = some (.slice none 0 0) := r0.cell (by omega)
            have f1 : w5.frozen? ⟨B0, 1, none⟩ = false := r0.frozen 1
            have c2 : w5.cell? ⟨B0, 2, none⟩ = some (.slice none 0 0) := r0.cell (by omega)
            have f2 : w5.frozen? ⟨B0, 2, none⟩ = false := r0.frozen 2
            refine wpAnyH_ready (rs := [13]) (by kernel_rfl) (by simp) ?_
            refine AllReadyH.cons rfl (fun K hK => ?_) AllReadyH.nil
            go_simp
            refine hK.out _ _ (((hB5.setCell (by show w0.heap.size ≤ B0; omega) _).setCell (by show w0.heap.size ≤ B0; omega) _).setCell (by show w0.heap.size ≤ B0; omega) _) (fun hBe => ?_)
            clear hK K c0 c1 c2 f0 f1 f2
            refine wpAnyH_done (by kernel_rfl) ?_ _
            refine NoPanic.normal ?_
            go_wp2
            go_meet
            case rel => exact ⟨B0, B3, ao1, ao2, _, _, rfl, gave_end r0 r3 o1 o2 hBe (fun b hb => by obtain ⟨x, y⟩ := hb; refine ⟨by omega, by omega, by omega, by omega, fun hh => by obtain ⟨u, v⟩ := hh; omega⟩) (fun b hb => by obtain ⟨x, y⟩ := hb; refine ⟨by omega, by omega, by omega, by omega⟩) (by omega) (by omega) (by omega) (by omega)⟩
        · -- operation 12
          go_simp
          refine hK.out _ _ (hB3.alloc _) (fun hB4 => ?_)
          clear hK K
          try simp only [Act.put, List.setIfInBounds_toArray, List.set_cons_zero, List.set_cons_succ]
          have r0 := row_three w3 26
          have hb4 : Blw w3 (w3.alloc (.cells #[.slice none 0 0, .slice none 0 0, .slice none 0 0] 26)) := (Blw.refl _).alloc _
          have hz4 : w3.heap.size < (w3.alloc (.cells #[.slice none 0 0, .slice none 0 0, .slice none 0 0] 26)).heap.size := by simp
          revert r0 hb4 hz4 hB4
          generalize w3.alloc (.cells #[.slice none 0 0, .slice none 0 0, .slice none 0 0] 26) = w4
          intro hB4 r0 hb4 hz4
          obtain ⟨B0, eqB0⟩ : ∃ B, B = w3.heap.size := ⟨_, rfl⟩
          rw [← eqB0] at r0 ⊢
          have leB0 : B0 ≤ w3.heap.size := by omega
          have geB0 : w3.heap.size ≤ B0 := by omega
          clear eqB0
          replace o1 := o1.blw hb4
          replace r3 := r3.blw hb4
          refine wpAnyH_ready (rs := [9]) (by kernel_rfl) (by simp) ?_
          refine AllReadyH.cons rfl (fun K hK => ?_) AllReadyH.nil
          · -- operation 9
            go_simp
            refine (HG2.out _).mono ?_
            rintro e w5 ⟨ao2, rfl, o2, hb5⟩
            have hz5 := hb5.size
            refine hK.out _ _ (hB4.trans hb5) (fun hB5 => ?_)
            clear hK K
            try simp only [Act.put, List.setIfInBounds_toArray, List.set_cons_zero, List.set_cons_succ]
            replace o1 := o1.blw hb5
            replace r3 := r3.blw hb5
            replace r0 := r0.blw hb5
            refine wpAnyH_take (i := 11) (v := .agg #[.slice ao1 12 12, .slice ao2 12 12, .slice (some ⟨B3, 0, none⟩) 12 12]) rfl (by kernel_rfl) (by kernel_rfl) (by kernel_rfl) (fun _ _ _ h => h) (Or.inl ⟨by rfl, fun w' _ => by go_simp⟩) hB5 ?_
            simp only [Act.put, List.setIfInBounds_toArray, List.set_cons_zero, List.set_cons_succ]
            have c0 : w5.cell? ⟨B0, 0, none⟩ = some (.slice none 0 0) := r0.cell (by omega)
            have f0 : w5.frozen? ⟨B0, 0, none⟩ = false := r0.frozen 0
            have c1 : w5.cell? ⟨B0, 1, none⟩ = some (.slice none 0 0) := r0.cell (by omega)
            have f1 : w5.frozen? ⟨B0, 1, none⟩ = false := r0.frozen 1
            have c2 : w5.cell? ⟨B0, 2, none⟩ = some (.slice none 0 0) := r0.cell (by omega)
            have f2 : w5.frozen? ⟨B0, 2, none⟩ = false := r0.frozen 2
            refine wpAnyH_ready (rs := [13]) (by kernel_rfl) (by simp) ?_
            refine AllReadyH.cons rfl (fun K hK => ?_) AllReadyH.nil
            go_simp
            refine hK.out _ _ (((hB5.setCell (by show w0.heap.size ≤ B0; omega) _).setCell (by show w0.heap.size ≤ B0; omega) _).setCell (by show w0.heap.size ≤ B0; omega) _) (fun hBe => ?_)
            clear hK K c0 c1 c2 f0 f1 f2
            refine wpAnyH_done (by kernel_rfl) ?_ _
            refine NoPanic.normal ?_
            go_wp2
            go_meet
            case rel => exact ⟨B0, B3, ao1, ao2, _, _, rfl, gave_end r0 r3 o1 o2 hBe (fun b hb => by obtain ⟨x, y⟩ := hb; refine ⟨by omega, by omega, by omega, by omega, fun hh => by obtain ⟨u, v⟩ := hh; omega⟩) (fun b hb => by obtain ⟨x, y⟩ := hb; refine ⟨by omega, by omega, by omega, by omega⟩) (by omega) (by omega) (by omega) (by omega)⟩
      · -- operation 12
        go_simp
        refine hK.out _ _ (hB2.alloc _) (fun hB3 => ?_)
        clear hK K
        try simp only [Act.put, List.setIfInBounds_toArray, List.set_cons_zero, List.set_cons_succ]
        have r0 := row_three w2 26
        have hb3 : Blw w2 (w2.alloc (.cells #[.slice none 0 0, .slice none 0 0, .slice none 0 0] 26)) := (Blw.refl _).alloc _
        have hz3 : w2.heap.size < (w2.alloc (.cells #[.slice none 0 0, .slice none 0 0, .slice none 0 0] 26)).heap.size := by simp
        revert r0 hb3 hz3 hB3
        generalize w2.alloc (.cells #[.slice none 0 0, .slice none 0 0, .slice none 0 0] 26) = w3
        intro hB3 r0 hb3 hz3
        obtain ⟨B0, eqB0⟩ : ∃ B, B = w2.heap.size := ⟨_, rfl⟩
        rw [← eqB0] at r0 ⊢
        have leB0 : B0 ≤ w2.heap.size := by omega
        have geB0 : w2.heap.size ≤ B0 := by omega
        clear eqB0
        replace r3 := r3.blw hb3
        refine wpAnyH_ready (rs := [4]) (by kernel_rfl) (by simp) ?_
        refine AllReadyH.cons rfl (fun K hK => ?_) AllReadyH.nil
        · -- operation 4
          go_simp
          refine (HG1.out _).mono ?_
          rintro e w4 ⟨ao1, rfl, o1, hb4⟩
          have hz4 := hb4.size
          refine hK.out _ _ (hB3.trans hb4) (fun hB4 => ?_)
          clear hK K
          try simp only [Act.put, List.setIfInBounds_toArray, List.set_cons_zero, List.set_cons_succ]
          replace r3 := r3.blw hb4
          replace r0 := r0.blw hb4
          refine wpAnyH_ready (rs := [9]) (by kernel_rfl) (by simp) ?_
          refine AllReadyH.cons rfl (fun K hK => ?_) AllReadyH.nil
          · -- operation 9
            go_simp
            refine (HG2.out _).mono ?_
            rintro e w5 ⟨ao2, rfl, o2, hb5⟩
            have hz5 := hb5.size
            refine hK.out _ _ (hB4.trans hb5) (fun hB5 => ?_)
            clear hK K
            try simp only [Act.put, List.setIfInBounds_toArray, List.set_cons_zero, List.set_cons_succ]
            replace o1 := o1.blw hb5
            replace r3 := r3.blw hb5
            replace r0 := r0.blw hb5
            refine wpAnyH_take (i := 11) (v := .agg #[.slice ao1 12 12, .slice ao2 12 12, .slice (some ⟨B3, 0, none⟩) 12 12]) rfl (by kernel_rfl) (by kernel_rfl) (by kernel_rfl) (fun _ _ _ h => h) (Or.inl ⟨by rfl, fun w' _ => by go_simp⟩) hB5 ?_
            simp only [Act.put, List.setIfInBounds_toArray, List.set_cons_zero, List.set_cons_succ]
            have c0 : w5.cell? ⟨B0, 0, none⟩ = some (.slice none 0 0) := r0.cell (by omega)
            have f0 : w5.frozen? ⟨B0, 0, none⟩ = false := r0.frozen 0
            have c1 : w5.cell? ⟨B0, 1, none⟩ = some (.slice none 0 0) := r0.cell (by omega)
            have f1 : w5.frozen? ⟨B0, 1, none⟩ = false := r0.frozen 1
            have c2 : w5.cell? ⟨B0, 2, none⟩ = some (.slice none 0 0) := r0.cell (by omega)
            have f2 : w5.frozen? ⟨B0, 2, none⟩ = false := r0.frozen 2
            refine wpAnyH_ready (rs := [13]) (by kernel_rfl) (by simp) ?_
            refine AllReadyH.cons rfl (fun K hK => ?_) AllReadyH.nil
            go_simp
            refine hK.out _ _ (((hB5.setCell (by show w0.heap.size ≤ B0; omega) _).setCell (by show w0.heap.size ≤ B0; omega) _).setCell (by show w0.heap.size ≤ B0; omega) _) (fun hBe => ?_)
            clear hK K c0 c1 c2 f0 f1 f2
            refine wpAnyH_done (by kernel_rfl) ?_ _
            refine NoPanic.normal ?_
            go_wp2
            go_meet
            case rel => exact ⟨B0, B3, ao1, ao2, _, _, rfl, gave_end r0 r3 o1 o2 hBe (fun b hb => by obtain ⟨x, y⟩ := hb; refine ⟨by omega, by omega, by omega, by omega, fun hh => by obtain ⟨u, v⟩ := hh; omega⟩) (fun b hb => by obtain ⟨x, y⟩ := hb; refine ⟨by omega, by omega, by omega, by omega⟩) (by omega) (by omega) (by omega) (by omega)⟩
    · -- operation 12
      go_simp
      refine hK.out _ _ (hB1.alloc _) (fun hB2 => ?_)
      clear hK K
      try simp only [Act.put, List.setIfInBounds_toArray, List.set_cons_zero, List.set_cons_succ]
      have r0 := row_three w1 26
      have hb2 : Blw w1 (w1.alloc (.cells #[.slice none 0 0, .slice none 0 0, .slice none 0 0] 26)) := (Blw.refl _).alloc _
      have hz2 : w1.heap.size < (w1.alloc (.cells #[.slice none 0 0, .slice none 0 0, .slice none 0 0] 26)).heap.size := by simp
      revert r0 hb2 hz2 hB2
      generalize w1.alloc (.cells #[.slice none 0 0, .slice none 0 0, .slice none 0 0] 26) = w2
      intro hB2 r0 hb2 hz2
      obtain ⟨B0, eqB0⟩ : ∃ B, B = w1.heap.size := ⟨_, rfl⟩
      rw [← eqB0] at r0 ⊢
      have leB0 : B0 ≤ w1.heap.size := by omega
      have geB0 : w1.heap.size ≤ B0 := by omega
      clear eqB0
      refine wpAnyH_ready (rs := [4, 10]) (by kernel_rfl) (by simp) ?_
      refine AllReadyH.cons rfl (fun K hK => ?_) (AllReadyH.cons rfl (fun K hK => ?_) AllReadyH.nil)
      · -- operation 4
        go_simp
        refine (HG1.out _).mono ?_
        rintro e w3 ⟨ao1, rfl, o1, hb3⟩
        have hz3 := hb3.size
        refine hK.out _ _ (hB2.trans hb3) (fun hB3 => ?_)
        clear hK K
        try simp only [Act.put, List.setIfInBounds_toArray, List.set_cons_zero, List.set_cons_succ]
        replace r0 := r0.blw hb3
        refine wpAnyH_ready (rs := [9, 10]) (by kernel_rfl) (by simp) ?_
        refine AllReadyH.cons rfl (fun K hK => ?_) (AllReadyH.cons rfl (fun K hK => ?_) AllReadyH.nil)
        · -- operation 9
          go_simp
          refine (HG2.out _).mono ?_
          rintro e w4 ⟨ao2, rfl, o2, hb4⟩
          have hz4 := hb4.size
          refine hK.out _ _ (hB3.trans hb4) (fun hB4 => ?_)
          clear hK K
          try simp only [Act.put, List.setIfInBounds_toArray, List.set_cons_zero, List.set_cons_succ]
          replace o1 := o1.blw hb4
          replace r0 := r0.blw hb4
          refine wpAnyH_ready (rs := [10]) (by kernel_rfl) (by simp) ?_
          refine AllReadyH.cons rfl (fun K hK => ?_) AllReadyH.nil
          · -- operation 10
            go_simp
            refine hK.out _ _ (hB4.alloc _) (fun hB5 => ?_)
            clear hK K
            try simp only [Act.put, List.setIfInBounds_toArray, List.set_cons_zero, List.set_cons_succ]
            have r3 := Row.made w4 (.bool false) 12 4
            have hb5 : Blw w4 (w4.alloc (.cells (madeCells #[.bool false] 12) 4)) := (Blw.refl _).alloc _
            have hz5 : w4.heap.size < (w4.alloc (.cells (madeCells #[.bool false] 12) 4)).heap.size := by simp
            revert r3 hb5 hz5 hB5
            generalize w4.alloc (.cells (madeCells #[.bool false] 12) 4) = w5
            intro hB5 r3 hb5 hz5
            obtain ⟨B3, eqB3⟩ : ∃ B, B = w4.heap.size := ⟨_, rfl⟩
            rw [← eqB3] at r3 ⊢
            have leB3 : B3 ≤ w4.heap.size := by omega
            have geB3 : w4.heap.size ≤ B3 := by omega
            clear eqB3
            replace o1 := o1.blw hb5
            replace o2 := o2.blw hb5
            replace r0 := r0.blw hb5
            refine wpAnyH_take (i := 11) (v := .agg #[.slice ao1 12 12, .slice ao2 12 12, .slice (some ⟨B3, 0, none⟩) 12 12]) rfl (by kernel_rfl) (by kernel_rfl) (by kernel_rfl) (fun _ _ _ h => h) (Or.inl ⟨by rfl, fun w' _ => by go_simp⟩) hB5 ?_
            simp only [Act.put, List.setIfInBounds_toArray, List.set_cons_zero, List.set_cons_succ]
            have c0 : w5.cell? ⟨B0, 0, none⟩ = some (.slice none 0 0) := r0.cell (by omega)
            have f0 : w5.frozen? ⟨B0, 0, none⟩ = false := r0.frozen 0
            have c1 : w5.cell? ⟨B0, 1, none⟩ = some (.slice none 0 0) := r0.cell (by omega)
            have f1 : w5.frozen? ⟨B0, 1, none⟩ = false := r0.frozen 1
            have c2 : w5.cell? ⟨B0, 2, none⟩ = some (.slice none 0 0) := r0.cell (by omega)
            have f2 : w5.frozen? ⟨B0, 2, none⟩ = false := r0.frozen 2
            refine wpAnyH_ready (rs := [13]) (by kernel_rfl) (by simp) ?_
            refine AllReadyH.cons rfl (fun K hK => ?_) AllReadyH.nil
            go_simp
            refine hK.out _ _ (((hB5.setCell (by show w0.heap.size ≤ B0; omega) _).setCell (by show w0.heap.size ≤ B0; omega) _).setCell (by show w0.heap.size ≤ B0; omega) _) (fun hBe => ?_)
            clear hK K c0 c1 c2 f0 f1 f2
            refine wpAnyH_done (by kernel_rfl) ?_ _
            refine NoPanic.normal ?_
            go_wp2
            go_meet
            case rel => exact ⟨B0, B3, ao1, ao2, _, _, rfl, gave_end r0 r3 o1 o2 hBe (fun b hb => by obtain ⟨x, y⟩ := hb; refine ⟨by omega, by omega, by omega, by omega, fun hh => by obtain ⟨u, v⟩ := hh; omega⟩) (fun b hb => by obtain ⟨x, y⟩ := hb; refine ⟨by omega, by omega, by omega, by omega⟩) (by omega) (by omega) (by omega) (by omega)⟩
        · -- operation 10
          go_simp
          refine hK.out _ _ (hB3.alloc _) (fun hB4 => ?_)
          clear hK K
          try simp only [Act.put, List.setIfInBounds_toArray, List.set_cons_zero, List.set_cons_succ]
          have r3 := Row.made w3 (.bool false) 12 4
          have hb4 : Blw w3 (w3.alloc (.cells (madeCells #[.bool false] 12) 4)) := (Blw.refl _).alloc _
          have hz4 : w3.heap.size < (w3.alloc (.cells (madeCells #[.bool false] 12) 4)).heap.size := by simp
          revert r3 hb4 hz4 hB4
          generalize w3.alloc (.cells (madeCells #[.bool false] 12) 4) = w4
          intro hB4 r3 hb4 hz4
          obtain ⟨B3, eqB3⟩ : ∃ B, B = w3.heap.size := ⟨_, rfl⟩
          rw [← eqB3] at r3 ⊢
          have leB3 : B3 ≤ w3.heap.size := by omega
          have geB3 : w3.heap.size ≤ B3 := by omega
          clear eqB3
          replace o1 := o1.blw hb4
          replace r0 := r0.blw hb4
          refine wpAnyH_ready (rs := [9]) (by kernel_rfl) (by simp) ?_
          refine AllReadyH.cons rfl (fun K hK => ?_) AllReadyH.nil
          · -- operation 9
            go_simp
            refine (HG2.out _).mono ?_
            rintro e w5 ⟨ao2, rfl, o2, hb5⟩
            have hz5 := hb5.size
            refine hK.out _ _ (hB4.trans hb5) (fun hB5 => ?_)
            clear hK K
            try simp only [Act.put, List.setIfInBounds_toArray, List.set_cons_zero, List.set_cons_succ]
            replace o1 := o1.blw hb5
            replace r3 := r3.blw hb5
            replace r0 := r0.blw hb5
            refine wpAnyH_take (i := 11) (v := .agg #[.slice ao1 12 12, .slice ao2 12 12, .slice (some ⟨B3, 0, none⟩) 12 12]) rfl (by kernel_rfl) (by kernel_rfl) (by kernel_rfl) (fun _ _ _ h => h) (Or.inl ⟨by rfl, fun w' _ => by go_simp⟩) hB5 ?_
            simp only [Act.put, List.setIfInBounds_toArray, List.set_cons_zero, List.set_cons_succ]
            have c0 : w5.cell? ⟨B0, 0, none⟩ = some (.slice none 0 0) := r0.cell (by omega)
            have f0 : w5.frozen? ⟨B0, 0, none⟩ = false := r0.frozen 0
            have c1 : w5.cell? ⟨B0, 1, none⟩ = some (.slice none 0 0) := r0.cell (by omega)
            have f1 : w5.frozen? ⟨B0, 1, none⟩ = false := r0.frozen 1
            have c2 : w5.cell? ⟨B0, 2, none⟩ = some (.slice none 0 0) := r0.cell (by omega)
            have f2 : w5.frozen? ⟨B0, 2, none⟩ = false := r0.frozen 2
            refine wpAnyH_ready (rs := [13]) (by kernel_rfl) (by simp) ?_
            refine AllReadyH.cons rfl (fun K hK => ?_) AllReadyH.nil
            go_simp
            refine hK.out _ _ (((hB5.setCell (by show w0.heap.size ≤ B0; omega) _).setCell (by show w0.heap.size ≤ B0; omega) _).setCell (by show w0.heap.size ≤ B0; omega) _) (fun hBe => ?_)
            clear hK K c0 c1 c2 f0 f1 f2
            refine wpAnyH_done (by kernel_rfl) ?_ _
            refine NoPanic.normal ?_
            go_wp2
            go_meet
            case rel => exact ⟨B0, B3, ao1, ao2, _, _, rfl, gave_end r0 r3 o1 o2 hBe (fun b hb => by obtain ⟨x, y⟩ := hb; refine ⟨by omega, by omega, by omega, by omega, fun hh => by obtain ⟨u, v⟩ := hh; omega⟩) (fun b hb => by obtain ⟨x, y⟩ := hb; refine ⟨by omega, by omega, by omega, by omega⟩) (by omega) (by omega) (by omega) (by omega)⟩
      · -- operation 10
        go_simp
        refine hK.out _ _ (hB2.alloc _) (fun hB3 => ?_)
        clear hK K
        try simp only [Act.put, List.setIfInBounds_toArray, List.set_cons_zero, List.set_cons_succ]
        have r3 := Row.made w2 (.bool false) 12 4
        have hb3 : Blw w2 (w2.alloc (.cells (madeCells #[.bool false] 12) 4)) := (Blw.refl _).alloc _
        have hz3 : w2.heap.size < (w2.alloc (.cells (madeCells #[.bool false] 12) 4)).heap.size := by simp
        revert r3 hb3 hz3 hB3
        generalize w2.alloc (.cells (madeCells #[.bool false] 12) 4) = w3
        intro hB3 r3 hb3 hz3
        obtain ⟨B3, eqB3⟩ : ∃ B, B = w2.heap.size := ⟨_, rfl⟩
        rw [← eqB3] at r3 ⊢
        have leB3 : B3 ≤ w2.heap.size := by omega
        have geB3 : w2.heap.size ≤ B3 := by omega
        clear eqB3
        replace r0 := r0.blw hb3
        refine wpAnyH_ready (rs := [4]) (by kernel_rfl) (by simp) ?_
        refine AllReadyH.cons rfl (fun K hK => ?_) AllReadyH.nil
        · -- operation 4
          go_simp
          refine (HG1.out _).mono ?_
          rintro e w4 ⟨ao1, rfl, o1, hb4⟩
          have hz4 := hb4.size
          refine hK.out _ _ (hB3.trans hb4) (fun hB4 => ?_)
          clear hK K
          try simp only [Act.put, List.setIfInBounds_toArray, List.set_cons_zero, List.set_cons_succ]
          replace r3 := r3.blw hb4
          replace r0 := r0.blw hb4
          refine wpAnyH_ready (rs := [9]) (by kernel_rfl) (by simp) ?_
          refine AllReadyH.cons rfl (fun K hK => ?_) AllReadyH.nil
          · -- operation 9
            go_simp
            refine (HG2.out _).mono ?_
            rintro e w5 ⟨ao2, rfl, o2, hb5⟩
            have hz5 := hb5.size
            refine hK.out _ _ (hB4.trans hb5) (fun hB5 => ?_)
            clear hK K
            try simp only [Act.put, List.setIfInBounds_toArray, List.set_cons_zero, List.set_cons_succ]
            replace o1 := o1.blw hb5
            replace r3 := r3.blw hb5
            replace r0 := r0.blw hb5
            refine wpAnyH_take (i := 11) (v := .agg #[.slice ao1 12 12, .slice ao2 12 12, .slice (some ⟨B3, 0, none⟩) 12 12]) rfl (by kernel_rfl) (by kernel_rfl) (by kernel_rfl) (fun _ _ _ h => h) (Or.inl ⟨by rfl, fun w' _ => by go_simp⟩) hB5 ?_
            simp only [Act.put, List.setIfInBounds_toArray, List.set_cons_zero, List.set_cons_succ]
            have c0 : w5.cell? ⟨B0, 0, none⟩ = some (.slice none 0 0) := r0.cell (by omega)
            have f0 : w5.frozen? ⟨B0, 0, none⟩ = false := r0.frozen 0
            have c1 : w5.cell? ⟨B0, 1, none⟩ = some (.slice none 0 0) := r0.cell (by omega)
            have f1 : w5.frozen? ⟨B0, 1, none⟩ = false := r0.frozen 1
            have c2 : w5.cell? ⟨B0, 2, none⟩ = some (.slice none 0 0) := r0.cell (by omega)
            have f2 : w5.frozen? ⟨B0, 2, none⟩ = false := r0.frozen 2
            refine wpAnyH_ready (rs := [13]) (by kernel_rfl) (by simp) ?_
            refine AllReadyH.cons rfl (fun K hK => ?_) AllReadyH.nil
            go_simp
            refine hK.out _ _ (((hB5.setCell (by show w0.heap.size ≤ B0; omega) _).setCell (by show w0.heap.size ≤ B0; omega) _).setCell (by show w0.heap.size ≤ B0; omega) _) (fun hBe => ?_)
            clear hK K c0 c1 c2 f0 f1 f2
            refine wpAnyH_done (by kernel_rfl) ?_ _
            refine NoPanic.normal ?_
            go_wp2
            go_meet
            case rel => exact ⟨B0, B3, ao1, ao2, _, _, rfl, gave_end r0 r3 o1 o2 hBe (fun b hb => by obtain ⟨x, y⟩ := hb; refine ⟨by omega, by omega, by omega, by omega, fun hh => by obtain ⟨u, v⟩ := hh; omega⟩) (fun b hb => by obtain ⟨x, y⟩ := hb; refine ⟨by omega, by omega, by omega, by omega⟩) (by omega) (by omega) (by omega) (by omega)⟩
  case rest =>
    obtain ⟨B0, B3, ao1, ao2, X1, X2, rfl, G⟩ := hcut
    have g2 := G.c2
    have r108 := h.blw G.blw
    have hbW := hbA.trans G.blw
    have rA' := rA.blw G.blw
    have hzB : w.heap.size ≠ B0 := by have := G.b0; omega
    have hzC : w.heap.size ≠ B3 := by have := G.b3; omega
    clear h m1
    go_wp2
    go_region_law (refine step_copy_fn rfl (.tmp 17) (.tmp 21) 24 24 rfl 4 Try.underlying24 info4s B3 0 12 12 ⟨b, 96, none⟩ 12 12 rfl rfl 12 (fun t => .bool (d t)) 12 (fun _ => .bool false) rfl (fun j hj => by rw [Addr.add_mid]; exact (r108.cell (i := 96 + j) (by omega)).trans (by rw [hcell_d])) (fun _ _ => rfl) G.r3 (by omega) ?_; intro w2 hr2 hm2 hz2)
    have G2 := gave_copied G hr2 (Mod.trans ((Blw.refl wc).drew.mod _) hm2) (by simpa using hz2)
    have k0 := G2.1
    have k1 := G2.2.1
    have k2 := G2.2.2.1
    have M2 : Mod (fun x => x = B3) wc w2 := Mod.trans ((Blw.refl wc).drew.mod _) hm2
    have q0 : w2.cell? ⟨w.heap.size, 0, none⟩ = some (.slice none 0 0) := M2.cell (rA'.cell (by omega)) hzC
    have q1 : w2.cell? ⟨w.heap.size, 1, none⟩ = some (.slice none 0 0) := M2.cell (rA'.cell (by omega)) hzC
    have q2 : w2.cell? ⟨w.heap.size, 2, none⟩ = some (.slice none 0 0) := M2.cell (rA'.cell (by omega)) hzC
    have f0 : w2.frozen? ⟨w.heap.size, 0, none⟩ = false := (rA'.mod M2 hzC).frozen 0
    have f1 : w2.frozen? ⟨w.heap.size, 1, none⟩ = false := (rA'.mod M2 hzC).frozen 1
    have f2 : w2.frozen? ⟨w.heap.size, 2, none⟩ = false := (rA'.mod M2 hzC).frozen 2
    have own := G2.2.2.2.1
    have hbE := hbA.trans G2.2.2.2.2
    have hzE := G2.2.2.2.2.size
    clear hr2 hm2 hz2 g2 r108 G2 G M2 rA rA'
    go_wp2
    have hm3 : Mod (fun x => x = w.heap.size) w2 (((w2.setCell ⟨w.heap.size, 0, none⟩ (.slice ao1 12 12)).setCell ⟨w.heap.size, 1, none⟩ (.slice ao2 12 12)).setCell ⟨w.heap.size, 2, none⟩ (.slice (some ⟨B3, 0, none⟩) 12 12)) :=
      ((Mod.setCell (X := fun x => x = w.heap.size) w2 (p := ⟨w.heap.size, 0, none⟩) rfl _).trans (Mod.setCell (X := fun x => x = w.heap.size) _ (p := ⟨w.heap.size, 1, none⟩) rfl _)).trans (Mod.setCell (X := fun x => x = w.heap.size) _ (p := ⟨w.heap.size, 2, none⟩) rfl _)
    refine bodyPost_ret (v := .agg #[.slice ao1 12 12, .slice ao2 12 12, .slice (some ⟨B3, 0, none⟩) 12 12]) (by simp [results, Try.results68, go_sem, q0, q1, q2]) rfl ⟨⟨ao1, ao2, some ⟨B3, 0, none⟩, 12, 12, 12⟩, rfl, (own.mod hm3 (fun b hb => by have := hb.1; omega)).mono (fun b hb => ⟨by omega, by simpa using hb.2⟩), Mod.blw hbE hm3 (fun i hi => by omega)⟩
end Go.Proofs.Ytglllnklcnlcjaa
