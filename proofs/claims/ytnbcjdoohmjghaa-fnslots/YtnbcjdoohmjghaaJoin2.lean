/- Merged by program, in this order: New, Bld, SpecNew, Eq, XNew, NewO, GoodL. -/
import Derived.Deep.RegionHeld3
import Derived.Deep.CutRange
import Derived.Deep.AppendLies
import Derived.Test.YtnbcjdoohmjghaaJoin1
/- 'giveLines', 'giveOut', 'NewMemory' -/
namespace Go.Proofs.Ytnbcjdoohmjghaa
open Go.RowKit
set_option linter.unusedSimpArgs false
theorem info3 : (Try.prog.info? 3).map (fun i => (i.zero, i.size, i.bytes)) = some (some (.int .i64 0), 1, 8) := by kernel_rfl
theorem info37 : (Try.prog.info? 37).map (fun i => (i.zero, i.size, i.bytes)) = some (some (.agg #[.slice none 0 0]), 1, 24) := by kernel_rfl
theorem info4 : (Try.prog.info? 4).map (fun i => (i.zero, i.size, i.bytes)) = some (some (.bool false), 1, 1) := by kernel_rfl
theorem mk4 (w : World) : (Instr.makeSlice 27 (.int .i64 4) (.int .i64 4)).run Try.prog w = .ok (.slice (some ⟨w.heap.size, 0, none⟩) 4 4) (w.alloc (.cells (madeCells #[.int .i64 0] 4) 3)) :=
  run_make_row' (P := Try.prog) 27 3 (.int .i64 0) 8 Try.underlying27 info3 rfl .i64 .i64 4 (by omega) (by omega) w
theorem mk12 (w : World) : (Instr.makeSlice 23 (.int .i64 12) (.int .i64 12)).run Try.prog w = .ok (.slice (some ⟨w.heap.size, 0, none⟩) 12 12) (w.alloc (.cells (madeCells #[.slice none 0 0] 12) 37)) := by kernel_rfl
theorem mkb12 (w : World) : (Instr.makeSlice 24 (.int .i64 12) (.int .i64 12)).run Try.prog w = .ok (.slice (some ⟨w.heap.size, 0, none⟩) 12 12) (w.alloc (.cells (madeCells #[.bool false] 12) 4)) := by kernel_rfl

structure Giving (w wr : World) (cs : Array Value) (g : Nat → Nat → Int) (k : Nat) : Prop where
  blw : Blw w wr
  size : wr.heap.size = w.heap.size + 2 + k
  src : wr.heap[w.heap.size]? = some (.cells cs 95 (0, 0))
  top : Row wr (w.heap.size + 1) 12 (fun i => if i < k then .slice (some ⟨w.heap.size + 2 + i, 0, none⟩) 4 4 else .slice none 0 0)
  done : ∀ i, i < k → Row wr (w.heap.size + 2 + i) 4 (fun t => .int .i64 (g i t))

theorem info3s : (Try.prog.info? 3).map (·.size) = some 1 := by kernel_rfl
theorem giving_start (w : World) (cs : Array Value) (g : Nat → Nat → Int) : Giving w ((w.alloc (.cells cs 95)).alloc (.cells (madeCells #[.slice none 0 0] 12) 37)) cs g 0 := by
  refine ⟨((Blw.refl _).alloc _).alloc _, by simp, ?_, ?_, fun i hi => absurd hi (Nat.not_lt_zero _)⟩
  · exact heap_alloc2_old _ _ _
  · have := Row.made (w.alloc (.cells cs 95)) (.slice none 0 0) 12 37
    rw [World.size_alloc] at this
    exact this.congr fun i hi => by simp

/-- Behind 'l[k].Words = make([]int, LineWords)'. -/
structure Made (w w1 : World) (cs : Array Value) (g : Nat → Nat → Int) (k : Nat) : Prop where
  blw : Blw w w1
  size : w1.heap.size = w.heap.size + 2 + (k + 1)
  src : w1.heap[w.heap.size]? = some (.cells cs 95 (0, 0))
  top : Row w1 (w.heap.size + 1) 12 (fun i => if i < k + 1 then .slice (some ⟨w.heap.size + 2 + i, 0, none⟩) 4 4 else .slice none 0 0)
  done : ∀ i, i < k → Row w1 (w.heap.size + 2 + i) 4 (fun t => .int .i64 (g i t))
  new : Row w1 (w.heap.size + 2 + k) 4 (fun _ => .int .i64 0)

theorem giving_made {w wr : World} {cs : Array Value} {g : Nat → Nat → Int} {k : Nat} (G : Giving w wr cs g k) :
    Made w ((wr.alloc (.cells (madeCells #[.int .i64 0] 4) 3)).setCell ⟨w.heap.size + 1, k, none⟩ (.slice (some ⟨w.heap.size + 2 + k, 0, none⟩) 4 4)) cs g k := by
  have hnew := Row.made wr (.int .i64 0) 4 3
  rw [G.size] at hnew
  have ha : Blw wr (wr.alloc (.cells (madeCells #[.int .i64 0] 4) 3)) := (Blw.refl _).alloc _
  have hlt : w.heap.size < wr.heap.size := by rw [G.size]; omega
  refine ⟨(G.blw.alloc _).setCell (by simp) _, by simp [G.size]; omega, ?_, (((G.top.blw ha).set k _).congr fun i hi => ?_), fun i hi => ((G.done i hi).blw ha).setOther (by simp; omega) _, hnew.setOther (by simp; omega) _⟩
  · rw [Below.heap_setCell _ _ _ _ (by simp), Below.heap_alloc _ _ _ hlt]
    exact G.src
  · by_cases e : i = k
    · subst e; simp
    · by_cases h2 : i < k
      · simp [e, h2, Nat.lt_succ_of_lt h2]
      · have h3 : ¬ i < k + 1 := by omega
        simp [e, h2, h3]

theorem made_next {w w1 w2 : World} {cs : Array Value} {g : Nat → Nat → Int} {k : Nat} (G : Made w w1 cs g k) (hr : Row w2 (w.heap.size + 2 + k) 4 (fun i => if 0 ≤ i ∧ i < 0 + 4 then .int .i64 (g k (i - 0)) else .int .i64 0))
    (hm : Mod (fun x => x = w.heap.size + 2 + k) w1 w2) (hz : w2.heap.size = w1.heap.size) : Giving w w2 cs g (k + 1) := by
  refine ⟨Mod.blw G.blw hm (fun i hi => by omega), by rw [hz, G.size], ?_, G.top.mod hm (by omega), fun i hi => ?_⟩
  · rw [hm.block _ (by rw [G.size]; omega) (by omega)]
    exact G.src
  · by_cases e : i = k
    · subst e
      exact hr.congr fun t ht => by simp [ht]
    · exact (G.done i (by omega)).mod hm (by omega)

theorem giving_done {w wr : World} {cs : Array Value} {g : Nat → Nat → Int} (G : Giving w wr cs g 12) : LinesOwn (fun b => w.heap.size ≤ b ∧ b < wr.heap.size) wr (some ⟨w.heap.size + 1, 0, none⟩) 12 (fun _ => 4) g := by
  have hz := G.size
  refine ⟨by omega, fun _ => ⟨w.heap.size + 1, fun i => w.heap.size + 2 + i, fun _ => 4, ⟨by omega, by omega⟩, rfl, G.top.congr fun i hi => by simp [hi], fun i hi => ?_, fun i j _ _ _ => by dsimp only; omega⟩⟩
  dsimp only
  exact ⟨by omega, ⟨by omega, by omega⟩, by omega, G.done i hi⟩

theorem cell_src {w1 : World} {b : Nat} {cs : Array Value} {g : Nat → Nat → Int} {k : Nat} (hsrc : w1.heap[b]? = some (.cells cs 95 (0, 0))) (hk : k < 12) (hg : ∀ i j, i < 12 → j < 4 → cs[i * 4 + j]? = some (.int .i64 (g i j))) (j : Nat) (hj : j < 4) :
    w1.cell? ((⟨b, k * 4, none⟩ : Addr).add j) = some (.int .i64 (g k j)) := by
  have : (⟨b, k * 4, none⟩ : Addr).add j = ⟨b, k * 4 + j, none⟩ := by unfold Addr.add; split <;> simp_all
  rw [this]
  simp [World.cell?, hsrc, hg k j hk hj]

set_option maxHeartbeats 800000 in
theorem giveLines_any (cs : Array Value) (g : Nat → Nat → Int) (w : World) (hg : ∀ i j, i < 12 → j < 4 → cs[i * 4 + j]? = some (.int .i64 (g i j))) :
    Calls Try.prog 125 #[.agg cs] w fun e w' => ∃ ao, e = .returned (.slice ao 12 12) ∧ LinesOwn (fun b => w.heap.size ≤ b ∧ b < w'.heap.size) w' ao 12 (fun _ => 4) g ∧ Blw w w' := by
  have m1 := mk12
  have m2 := mk4
  go_enter Try.func125, Try.ntmps125
  go_wp2
  go_loopw [8] (fun i wr => ∃ k : Nat, k ≤ 12 ∧ i = .int .i64 k ∧ Giving w wr cs g k) (fun i _ => 12 - (intOf i).toNat)
  case atStart => exact ⟨0, by omega, rfl, giving_start w cs g⟩
  case round =>
    obtain ⟨k, hk, rfl, G⟩ := hrel
    by_cases hlt : k < 12
    · have g1 : ∀ o, (wr.alloc o).cell? ⟨w.heap.size + 1, k, none⟩ = some (.slice none 0 0) := fun o => by simpa using (G.top.blw ((Blw.refl wr).alloc o)).cell hlt
      have g2 : ∀ o, (wr.alloc o).frozen? ⟨w.heap.size + 1, k, none⟩ = false := fun o => (G.top.blw ((Blw.refl wr).alloc o)).frozen k
      have hsz := G.size
      have GM := giving_made G
      clear G
      go_wp2
      clear hsz g1 g2
      revert GM
      generalize (wr.alloc (.cells (madeCells #[.int .i64 0] 4) 3)).setCell ⟨w.heap.size + 1, k, none⟩ (.slice (some ⟨w.heap.size + 2 + k, 0, none⟩) 4 4) = w1
      intro GM
      have g1 : w1.cell? ⟨w.heap.size + 1, k, none⟩ = some (.slice (some ⟨w.heap.size + 2 + k, 0, none⟩) 4 4) := by simpa using GM.top.cell hlt
      go_region_law (refine step_copy_fn rfl (.tmp 20) (.tmp 23) 27 27 rfl 3 Try.underlying27 info3s (w.heap.size + 2 + k) 0 4 4 ⟨w.heap.size, k * 4, none⟩ 4 4 rfl rfl 4 (fun t => .int .i64 (g k t)) 4 (fun _ => .int .i64 0) rfl (cell_src GM.src hlt hg) (fun _ _ => rfl) GM.new (by omega) ?_; intro w2 hr2 hm2 hz2)
      have G2 := made_next GM hr2 (Mod.trans ((Blw.refl w1).drew.mod _) hm2) (by simpa using hz2)
      clear GM g1 hr2 hm2 hz2
      go_wp2
      go_roundw
      case rel => exact ⟨k + 1, by omega, by go_num, G2⟩
      case measure => simp [intOf]; omega
    · go_wp2
      go_ret
      obtain rfl : k = 12 := by omega
      exact ⟨_, rfl, giving_done G, G.blw⟩
theorem MemOwn.mono {X Y : Nat → Prop} {w : World} {m : MV} {M : MD} (h : MemOwn X w m M) (hxy : ∀ b, X b → Y b) : MemOwn Y w m M := by
  obtain ⟨X1, X2, X3, h1, h2, h3, r⟩ := h.ex
  exact ⟨X1, X2, X3, fun b hb => ⟨hxy b (h1 b hb).1, (h1 b hb).2⟩, fun b hb => ⟨hxy b (h2 b hb).1, (h2 b hb).2⟩, fun b hb => hxy b (h3 b hb), r⟩
/-- What the cells of a held memory hold. -/
def hcell (s c : Nat → Nat → Int) (d : Nat → Bool) (i : Nat) : Value :=
  if i < 48 then .int .i64 (s (i / 4) (i % 4)) else if i < 96 then .int .i64 (c ((i - 48) / 4) ((i - 48) % 4)) else .bool (d (i - 96))
/-- A memory of twelve lines of four words. -/
def MD.full (s c : Nat → Nat → Int) (d : Nat → Bool) : MD := ⟨12, 12, 12, fun _ => 4, fun _ => 4, s, c, d⟩

theorem range_at {w : World} {b n o m : Nat} {f : Nat → Value} (h : Row w b n f) (hn : o + m ≤ n) : w.rangeAt b o ((List.range m).map fun i => f (o + i)) := by
  intro j v hv
  have hj : j < m := by
    have := (List.getElem?_eq_some_iff.1 hv).1
    simpa using this
  rw [h.cell (by omega)]
  simpa [hj] using hv
/-- A row's part as a list of cells: one list, in every later world. -/
theorem part_of {w : World} {b n o m : Nat} {f : Nat → Value} (ty : TypeId) (h : Row w b n f) (hn : o + m ≤ n) (hi : (Try.prog.info? ty).map (·.size) = some m) :
    ∃ cs : List Value, (Try.prog.info? ty).map (·.size) = some cs.length ∧ (∀ j, j < m → cs.toArray[j]? = some (f (o + j))) ∧ ∀ w', Blw w w' → w'.rangeAt b o cs :=
  ⟨(List.range m).map fun i => f (o + i), by simpa using hi, fun j hj => by simp [hj], fun _ hb => range_at (h.blw hb) hn⟩

theorem hcell_s {s c : Nat → Nat → Int} {d : Nat → Bool} {i j : Nat} (hi : i < 12) (hj : j < 4) : hcell s c d (i * 4 + j) = .int .i64 (s i j) := by
  have h1 : i * 4 + j < 48 := by omega
  have h2 : (i * 4 + j) / 4 = i := by omega
  have h3 : (i * 4 + j) % 4 = j := by omega
  simp [hcell, h1, h2, h3]
theorem hcell_c {s c : Nat → Nat → Int} {d : Nat → Bool} {i j : Nat} (hi : i < 12) (hj : j < 4) : hcell s c d (48 + (i * 4 + j)) = .int .i64 (c i j) := by
  have h0 : ¬ 48 + (i * 4 + j) < 48 := by omega
  have h1 : 48 + (i * 4 + j) < 96 := by omega
  have h2 : (48 + (i * 4 + j) - 48) / 4 = i := by omega
  have h3 : (48 + (i * 4 + j) - 48) % 4 = j := by omega
  simp only [hcell, if_neg h0, if_pos h1, h2, h3]
theorem hcell_d {s c : Nat → Nat → Int} {d : Nat → Bool} {i : Nat} : hcell s c d (96 + i) = .bool (d i) := by
  have h0 : ¬ 96 + i < 48 := by omega
  have h1 : ¬ 96 + i < 96 := by omega
  simp only [hcell, if_neg h0, if_neg h1, Nat.add_sub_cancel_left]

theorem info76 : (Try.prog.info? 95).map (·.size) = some 48 := by kernel_rfl
theorem row_three (w : World) (t : TypeId) : Row (w.alloc (.cells #[.slice none 0 0, .slice none 0 0, .slice none 0 0] t)) w.heap.size 3 (fun _ => .slice none 0 0) :=
  ⟨_, t, heap_alloc_new _ _, by simp, fun i hi => by
    match i, hi with
    | 0, _ => rfl
    | 1, _ => rfl
    | 2, _ => rfl⟩
theorem info4s : (Try.prog.info? 4).map (·.size) = some 1 := by kernel_rfl
/-- What stands behind giveOut's first statement. -/
structure Gave (w0 wc : World) (B0 B3 : Nat) (ao1 ao2 : Option Addr) (X1 X2 : Nat → Prop) (s c : Nat → Nat → Int) : Prop where
  blw : Blw w0 wc
  c0 : wc.cell? ⟨B0, 0, none⟩ = some (.slice ao1 12 12)
  c1 : wc.cell? ⟨B0, 1, none⟩ = some (.slice ao2 12 12)
  c2 : wc.cell? ⟨B0, 2, none⟩ = some (.slice (some ⟨B3, 0, none⟩) 12 12)
  r3 : Row wc B3 12 (fun _ => .bool false)
  o1 : LinesOwn X1 wc ao1 12 (fun _ => 4) s
  o2 : LinesOwn X2 wc ao2 12 (fun _ => 4) c
  x1 : ∀ b, X1 b → w0.heap.size ≤ b ∧ b < wc.heap.size ∧ b ≠ B0 ∧ b ≠ B3 ∧ ¬ X2 b
  x2 : ∀ b, X2 b → w0.heap.size ≤ b ∧ b < wc.heap.size ∧ b ≠ B0 ∧ b ≠ B3
  b03 : B0 ≠ B3
  b0 : w0.heap.size ≤ B0
  b3 : w0.heap.size ≤ B3
  l3 : B3 < wc.heap.size
theorem gave_end {w0 w1 : World} {B0 B3 : Nat} {ao1 ao2 : Option Addr} {X1 X2 : Nat → Prop} {s c : Nat → Nat → Int} (r0 : Row w1 B0 3 (fun _ => .slice none 0 0)) (r3 : Row w1 B3 12 (fun _ => .bool false))
    (o1 : LinesOwn X1 w1 ao1 12 (fun _ => 4) s) (o2 : LinesOwn X2 w1 ao2 12 (fun _ => 4) c)
    (hB : Blw w0 (((w1.setCell ⟨B0, 0, none⟩ (.slice ao1 12 12)).setCell ⟨B0, 1, none⟩ (.slice ao2 12 12)).setCell ⟨B0, 2, none⟩ (.slice (some ⟨B3, 0, none⟩) 12 12)))
    (x1 : ∀ b, X1 b → w0.heap.size ≤ b ∧ b < w1.heap.size ∧ b ≠ B0 ∧ b ≠ B3 ∧ ¬ X2 b) (x2 : ∀ b, X2 b → w0.heap.size ≤ b ∧ b < w1.heap.size ∧ b ≠ B0 ∧ b ≠ B3) (h03 : B0 ≠ B3) (h0 : w0.heap.size ≤ B0) (h3 : w0.heap.size ≤ B3) (hl : B3 < w1.heap.size) :
    Gave w0 (((w1.setCell ⟨B0, 0, none⟩ (.slice ao1 12 12)).setCell ⟨B0, 1, none⟩ (.slice ao2 12 12)).setCell ⟨B0, 2, none⟩ (.slice (some ⟨B3, 0, none⟩) 12 12)) B0 B3 ao1 ao2 X1 X2 s c := by
  have hr := ((r0.set 0 (.slice ao1 12 12)).set 1 (.slice ao2 12 12)).set 2 (.slice (some ⟨B3, 0, none⟩) 12 12)
  have hm : Mod (fun x => x = B0) w1 (((w1.setCell ⟨B0, 0, none⟩ (.slice ao1 12 12)).setCell ⟨B0, 1, none⟩ (.slice ao2 12 12)).setCell ⟨B0, 2, none⟩ (.slice (some ⟨B3, 0, none⟩) 12 12)) :=
    ((Mod.setCell (X := fun x => x = B0) w1 (p := ⟨B0, 0, none⟩) rfl _).trans (Mod.setCell (X := fun x => x = B0) _ (p := ⟨B0, 1, none⟩) rfl _)).trans (Mod.setCell (X := fun x => x = B0) _ (p := ⟨B0, 2, none⟩) rfl _)
  have hz : (((w1.setCell ⟨B0, 0, none⟩ (.slice ao1 12 12)).setCell ⟨B0, 1, none⟩ (.slice ao2 12 12)).setCell ⟨B0, 2, none⟩ (.slice (some ⟨B3, 0, none⟩) 12 12)).heap.size = w1.heap.size := by simp
  refine ⟨hB, by simpa using hr.cell (i := 0) (by omega), by simpa using hr.cell (i := 1) (by omega), by simpa using hr.cell (i := 2) (by omega), r3.mod hm (fun e => h03 e.symm), o1.mod hm (fun b hb => (x1 b hb).2.2.1), o2.mod hm (fun b hb => (x2 b hb).2.2.1), ?_, ?_, h03, h0, h3, by rw [hz]; exact hl⟩
  · rw [hz]; exact x1
  · rw [hz]; exact x2
theorem gave_copied {w0 wc w2 : World} {B0 B3 : Nat} {ao1 ao2 : Option Addr} {X1 X2 : Nat → Prop} {s c : Nat → Nat → Int} {d : Nat → Bool} (G : Gave w0 wc B0 B3 ao1 ao2 X1 X2 s c)
    (hr : Row w2 B3 12 (fun i => if 0 ≤ i ∧ i < 0 + 12 then .bool (d (i - 0)) else .bool false)) (hm : Mod (fun x => x = B3) wc w2) (hz : w2.heap.size = wc.heap.size) :
    w2.cell? ⟨B0, 0, none⟩ = some (.slice ao1 12 12) ∧ w2.cell? ⟨B0, 1, none⟩ = some (.slice ao2 12 12) ∧ w2.cell? ⟨B0, 2, none⟩ = some (.slice (some ⟨B3, 0, none⟩) 12 12) ∧
    MemOwn (fun b => w0.heap.size ≤ b ∧ b < w2.heap.size) w2 ⟨ao1, ao2, some ⟨B3, 0, none⟩, 12, 12, 12⟩ (MD.full s c d) ∧ Blw w0 w2 := by
  refine ⟨hm.cell G.c0 G.b03, hm.cell G.c1 G.b03, hm.cell G.c2 G.b03, ⟨X1, X2, fun x => x = B3, fun b hb => ?_, fun b hb => ?_, fun b hb => ?_, G.o1.mod hm (fun b hb => (G.x1 b hb).2.2.2.1), G.o2.mod hm (fun b hb => (G.x2 b hb).2.2.2), ⟨by show 12 ≤ _; omega, fun _ => ⟨B3, rfl, rfl, hr.congr fun i hi => ?_⟩⟩⟩, Mod.blw G.blw hm (fun i hi => by rw [hi]; exact G.b3)⟩
  · have := G.x1 b hb
    exact ⟨⟨this.1, by omega⟩, this.2.2.2.2, this.2.2.2.1⟩
  · have := G.x2 b hb
    exact ⟨⟨this.1, by omega⟩, this.2.2.2⟩
  · have := G.b3; have := G.l3
    subst hb
    exact ⟨by omega, by omega⟩
  · have : i < 12 := hi
    simp [this, MD.full]
set_option maxRecDepth 100000 in
set_option maxHeartbeats 4000000 in
theorem giveOut_any (b : Nat) (s c : Nat → Nat → Int) (d : Nat → Bool) (w : World) (h : Row w b 108 (hcell s c d)) :
    Calls Try.prog 79 #[.pointer (some ⟨b, 0, none⟩)] w fun e w' => ∃ m : MV, e = .returned (m.val (MD.full s c d)) ∧ MemOwn (fun b => w.heap.size ≤ b ∧ b < w'.heap.size) w' m (MD.full s c d) ∧ Blw w w' := by
  have m1 := mkb12
  go_enter Try.func79, Try.ntmps79
  go_wp2
  have hbA : Blw w (w.alloc (.cells #[.slice none 0 0, .slice none 0 0, .slice none 0 0] 26)) := (Blw.refl _).alloc _
  have rA := row_three w 26
  have hzA : (w.alloc (.cells #[.slice none 0 0, .slice none 0 0, .slice none 0 0] 26)).heap.size = w.heap.size + 1 := by simp
  revert hbA rA hzA
  generalize w.alloc (.cells #[.slice none 0 0, .slice none 0 0, .slice none 0 0] 26) = w0
  intro hbA rA hzA
  replace h := h.blw hbA
  go_cut [3] from 4 to 23 (fun p wc => ∃ B0 B3 ao1 ao2 X1 X2, p = .pointer (some ⟨B0, 0, none⟩) ∧ Gave w0 wc B0 B3 ao1 ao2 X1 X2 s c)
  case first =>
    obtain ⟨cs1, z1, e1, L1⟩ := part_of (o := 0) (m := 48) 95 h (by omega) info76
    obtain ⟨cs2, z2, e2, L2⟩ := part_of (o := 48) (m := 48) 95 h (by omega) info76
    have HG1 : Hid (∀ W, _) := fun W => giveLines_any cs1.toArray s W (fun i j hi hj => by rw [e1 _ (by omega), Nat.zero_add, hcell_s hi hj])
    have HG2 : Hid (∀ W, _) := fun W => giveLines_any cs2.toArray c W (fun i j hi hj => by rw [e2 _ (by omega), hcell_c hi hj])
    replace L1 : Hid (∀ w', Blw w0 w' → w'.rangeAt b 0 cs1) := L1
    replace L2 : Hid (∀ w', Blw w0 w' → w'.rangeAt b 48 cs2) := L2
    clear e1 e2
    refine wp_region_noPanic ?_
    refine wp_region_held_drew (S := fun w' => Blw w0 w') (by kernel_rfl) (Blw.refl _).drew (fun hB1 => ?_)
    have hz1 : w0.heap.size ≤ w0.drew.heap.size := Nat.le_refl _
    revert hB1 hz1
    generalize w0.drew = w1
    intro hB1 hz1
    refine wpAnyH_take (i := 0) (v := .pointer (some ⟨b, 0, none⟩)) rfl (by kernel_rfl) (by kernel_rfl) (by kernel_rfl) (fun _ _ _ h => h) (Or.inl ⟨by rfl, fun w' _ => by go_simp⟩) hB1 ?_
    simp only [Act.put, List.setIfInBounds_toArray, List.set_cons_zero, List.set_cons_succ]
    refine wpAnyH_take (i := 1) (v := .pointer (some ⟨b, 0, none⟩)) rfl (by kernel_rfl) (by kernel_rfl) (by kernel_rfl) (fun _ _ _ h => h) (Or.inl ⟨by rfl, fun w' _ => by go_simp⟩) hB1 ?_
    simp only [Act.put, List.setIfInBounds_toArray, List.set_cons_zero, List.set_cons_succ]
    refine wpAnyH_take (i := 2) (v := .pointer (some ⟨b, 0, none⟩)) rfl (by kernel_rfl) (by kernel_rfl) (by kernel_rfl) (fun _ _ _ h => h) (Or.inl ⟨by rfl, fun w' _ => by go_simp⟩) hB1 ?_
    simp only [Act.put, List.setIfInBounds_toArray, List.set_cons_zero, List.set_cons_succ]
    refine wpAnyH_take (i := 3) (v := .agg cs1.toArray) rfl (by kernel_rfl) (by kernel_rfl) (by kernel_rfl) (fun _ _ _ h => h) (yieldsIf_load_mid (by rfl) 95 (.tmp 6) rfl b 0 rfl cs1 _ (fun w' hb => L1.out w' hb) Try.underlying95 rfl z1) hB1 ?_
    simp only [Act.put, List.setIfInBounds_toArray, List.set_cons_zero, List.set_cons_succ]
    refine wpAnyH_take (i := 5) (v := .pointer (some ⟨b, 0, none⟩)) rfl (by kernel_rfl) (by kernel_rfl) (by kernel_rfl) (fun _ _ _ h => h) (Or.inl ⟨by rfl, fun w' _ => by go_simp⟩) hB1 ?_
    simp only [Act.put, List.setIfInBounds_toArray, List.set_cons_zero, List.set_cons_succ]
    refine wpAnyH_take (i := 6) (v := .pointer (some ⟨b, 0, none⟩)) rfl (by kernel_rfl) (by kernel_rfl) (by kernel_rfl) (fun _ _ _ h => h) (Or.inl ⟨by rfl, fun w' _ => by go_simp⟩) hB1 ?_
    simp only [Act.put, List.setIfInBounds_toArray, List.set_cons_zero, List.set_cons_succ]
    refine wpAnyH_take (i := 7) (v := .pointer (some ⟨b, 48, none⟩)) rfl (by kernel_rfl) (by kernel_rfl) (by kernel_rfl) (fun _ _ _ h => h) (Or.inl ⟨by rfl, fun w' _ => by go_simp⟩) hB1 ?_
    simp only [Act.put, List.setIfInBounds_toArray, List.set_cons_zero, List.set_cons_succ]
    refine wpAnyH_take (i := 8) (v := .agg cs2.toArray) rfl (by kernel_rfl) (by kernel_rfl) (by kernel_rfl) (fun _ _ _ h => h) (yieldsIf_load_mid (by rfl) 95 (.tmp 11) rfl b 48 rfl cs2 _ (fun w' hb => L2.out w' hb) Try.underlying95 rfl z2) hB1 ?_
    simp only [Act.put, List.setIfInBounds_toArray, List.set_cons_zero, List.set_cons_succ]
    refine wpAnyH_ready (rs := [4, 10, 12]) (by kernel_rfl) (by simp) ?_
    refine AllReadyH.cons rfl (fun K hK => ?_) (AllReadyH.cons rfl (fun K hK => ?_) (AllReadyH.cons rfl (fun K hK => ?_) AllReadyH.nil))
    · -- operation 4
      go_simp
      refine (HG1.out _).mono ?_
      rintro e w2 ⟨ao1, rfl, o1, hb2⟩
      have hz2 := hb2.size
      refine hK.out _ _ (hB1.trans hb2) (fun hB2 => ?_)
      clear hK K
      try simp only [Act.put, List.setIfInBounds_toArray, List.set_cons_zero, List.set_cons_succ]
      refine wpAnyH_ready (rs := [9, 10, 12]) (by kernel_rfl) (by simp) ?_
      refine AllReadyH.cons rfl (fun K hK => ?_) (AllReadyH.cons rfl (fun K hK => ?_) (AllReadyH.cons rfl (fun K hK => ?_) AllReadyH.nil))
      · -- operation 9
        go_simp
        refine (HG2.out _).mono ?_
        rintro e w3 ⟨ao2, rfl, o2, hb3⟩
        have hz3 := hb3.size
        refine hK.out _ _ (hB2.trans hb3) (fun hB3 => ?_)
        clear hK K
        try simp only [Act.put, List.setIfInBounds_toArray, List.set_cons_zero, List.set_cons_succ]
        replace o1 := o1.blw hb3
        refine wpAnyH_ready (rs := [10, 12]) (by kernel_rfl) (by simp) ?_
        refine AllReadyH.cons rfl (fun K hK => ?_) (AllReadyH.cons rfl (fun K hK => ?_) AllReadyH.nil)
        · -- operation 10
          go_simp
          refine hK.out _ _ (hB3.alloc _) (fun hB4 => ?_)
          clear hK K
          try simp only [Act.put, List.setIfInBounds_toArray, List.set_cons_zero, List.set_cons_succ]
          have r3 := Row.made w3 (.bool false) 12 4
          have hb4 : Blw w3 (w3.alloc (.cells (madeCells #[.bool false] 12) 4)) := (Blw.refl _).alloc _
          have hz4 : w3.heap.size < (w3.alloc (.cells (madeCells #[.bool false] 12) 4)).heap.size := by simp
          revert r3 hb4 hz4 hB4
          generalize w3.alloc (.cells (madeCells #[.bool false] 12) 4) = w4
          intro hB4 r3 hb4 hz4
          obtain ⟨B3, eqB3⟩ : ∃ B, B = w3.heap.size := ⟨_, rfl⟩
          rw [← eqB3] at r3 ⊢
          have leB3 : B3 ≤ w3.heap.size := by omega
          have geB3 : w3.heap.size ≤ B3 := by omega
          clear eqB3
          replace o1 := o1.blw hb4
          replace o2 := o2.blw hb4
          refine wpAnyH_take (i := 11) (v := .agg #[.slice ao1 12 12, .slice ao2 12 12, .slice (some ⟨B3, 0, none⟩) 12 12]) rfl (by kernel_rfl) (by kernel_rfl) (by kernel_rfl) (fun _ _ _ h => h) (Or.inl ⟨by rfl, fun w' _ => by go_simp⟩) hB4 ?_
          simp only [Act.put, List.setIfInBounds_toArray, List.set_cons_zero, List.set_cons_succ]
          refine wpAnyH_ready (rs := [12]) (by kernel_rfl) (by simp) ?_
          refine AllReadyH.cons rfl (fun K hK => ?_) AllReadyH.nil
          · -- operation 12
            go_simp
            refine hK.out _ _ (hB4.alloc _) (fun hB5 => ?_)
            clear hK K
            try simp only [Act.put, List.setIfInBounds_toArray, List.set_cons_zero, List.set_cons_succ]
            have r0 := row_three w4 26
            have hb5 : Blw w4 (w4.alloc (.cells #[.slice none 0 0, .slice none 0 0, .slice none 0 0] 26)) := (Blw.refl _).alloc _
            have hz5 : w4.heap.size < (w4.alloc (.cells #[.slice none 0 0, .slice none 0 0, .slice none 0 0] 26)).heap.size := by simp
            revert r0 hb5 hz5 hB5
            generalize w4.alloc (.cells #[.slice none 0 0, .slice none 0 0, .slice none 0 0] 26) = w5
            intro hB5 r0 hb5 hz5
            obtain ⟨B0, eqB0⟩ : ∃ B, B = w4.heap.size := ⟨_, rfl⟩
            rw [← eqB0] at r0 ⊢
            have leB0 : B0 ≤ w4.heap.size := by omega
            have geB0 : w4.heap.size ≤ B0 := by omega
            clear eqB0
            replace o1 := o1.blw hb5
            replace o2 := o2.blw hb5
            replace r3 := r3.blw hb5
            have c0 : w5.cell? ⟨B0, 0, none⟩ = some (.slice none 0 0) := r0.cell (by omega)
            have f0 : w5.frozen? ⟨B0, 0, none⟩ = false := r0.frozen 0
            have c1 : w5.cell? ⟨B0, 1, none⟩ = some (.slice none 0 0) := r0.cell (by omega)
            have f1 : w5.frozen? ⟨B0, 1, none⟩ = false := r0.frozen 1
            have c2 : w5.cell? ⟨B0, 2, none⟩ = some (.slice none 0 0) := r0.cell (by omega)
            have f2 : w5.frozen? ⟨B0, 2, none⟩ = false := r0.frozen 2
            refine wpAnyH_ready (rs := [13]) (by kernel_rfl) (by simp) ?_
            refine AllReadyH.cons rfl (fun K hK => ?_) AllReadyH.nil
            go_simp
            refine hK.out _ _ (((hB5.setCell (by show w0.heap.size ≤ B0; omega) _).setCell (by show w0.heap.size ≤ B0; omega) _).setCell (by show w0.heap.size ≤ B0; omega) _) (fun hBe => ?_)
            clear hK K c0 c1 c2 f0 f1 f2
            refine wpAnyH_done (by kernel_rfl) ?_ _
            refine NoPanic.normal ?_
            go_wp2
            go_meet
            case rel => exact ⟨B0, B3, ao1, ao2, _, _, rfl, gave_end r0 r3 o1 o2 hBe (fun b hb => by obtain ⟨x, y⟩ := hb; refine ⟨by omega, by omega, by omega, by omega, fun hh => by obtain ⟨u, v⟩ := hh; omega⟩) (fun b hb => by obtain ⟨x, y⟩ := hb; refine ⟨by omega, by omega, by omega, by omega⟩) (by omega) (by omega) (by omega) (by omega)⟩
        · -- operation 12
          go_simp
          refine hK.out _ _ (hB3.alloc _) (fun hB4 => ?_)
          clear hK K
          try simp only [Act.put, List.setIfInBounds_toArray, List.set_cons_zero, List.set_cons_succ]
          have r0 := row_three w3 26
          have hb4 : Blw w3 (w3.alloc (.cells #[.slice none 0 0, .slice none 0 0, .slice none 0 0] 26)) := (Blw.refl _).alloc _
          have hz4 : w3.heap.size < (w3.alloc (.cells #[.slice none 0 0, .slice none 0 0, .slice none 0 0] 26)).heap.size := by simp
          revert r0 hb4 hz4 hB4
          generalize w3.alloc (.cells #[.slice none 0 0, .slice none 0 0, .slice none 0 0] 26) = w4
          intro hB4 r0 hb4 hz4
          obtain ⟨B0, eqB0⟩ : ∃ B, B = w3.heap.size := ⟨_, rfl⟩
          rw [← eqB0] at r0 ⊢
          have leB0 : B0 ≤ w3.heap.size := by omega
          have geB0 : w3.heap.size ≤ B0 := by omega
          clear eqB0
          replace o1 := o1.blw hb4
          replace o2 := o2.blw hb4
          refine wpAnyH_ready (rs := [10]) (by kernel_rfl) (by simp) ?_
          refine AllReadyH.cons rfl (fun K hK => ?_) AllReadyH.nil
          · -- operation 10
            go_simp
            refine hK.out _ _ (hB4.alloc _) (fun hB5 => ?_)
            clear hK K
            try simp only [Act.put, List.setIfInBounds_toArray, List.set_cons_zero, List.set_cons_succ]
            have r3 := Row.made w4 (.bool false) 12 4
            have hb5 : Blw w4 (w4.alloc (.cells (madeCells #[.bool false] 12) 4)) := (Blw.refl _).alloc _
            have hz5 : w4.heap.size < (w4.alloc (.cells (madeCells #[.bool false] 12) 4)).heap.size := by simp
            revert r3 hb5 hz5 hB5
            generalize w4.alloc (.cells (madeCells #[.bool false] 12) 4) = w5
            intro hB5 r3 hb5 hz5
            obtain ⟨B3, eqB3⟩ : ∃ B, B = w4.heap.size := ⟨_, rfl⟩
            rw [← eqB3] at r3 ⊢
            have leB3 : B3 ≤ w4.heap.size := by omega
            have geB3 : w4.heap.size ≤ B3 := by omega
            clear eqB3
            replace o1 := o1.blw hb5
            replace o2 := o2.blw hb5
            replace r0 := r0.blw hb5
            refine wpAnyH_take (i := 11) (v := .agg #[.slice ao1 12 12, .slice ao2 12 12, .slice (some ⟨B3, 0, none⟩) 12 12]) rfl (by kernel_rfl) (by kernel_rfl) (by kernel_rfl) (fun _ _ _ h => h) (Or.inl ⟨by rfl, fun w' _ => by go_simp⟩) hB5 ?_
            simp only [Act.put, List.setIfInBounds_toArray, List.set_cons_zero, List.set_cons_succ]
            have c0 : w5.cell? ⟨B0, 0, none⟩ = some (.slice none 0 0) := r0.cell (by omega)
            have f0 : w5.frozen? ⟨B0, 0, none⟩ = false := r0.frozen 0
            have c1 : w5.cell? ⟨B0, 1, none⟩ = some (.slice none 0 0) := r0.cell (by omega)
            have f1 : w5.frozen? ⟨B0, 1, none⟩ = false := r0.frozen 1
            have c2 : w5.cell? ⟨B0, 2, none⟩ = some (.slice none 0 0) := r0.cell (by omega)
            have f2 : w5.frozen? ⟨B0, 2, none⟩ = false := r0.frozen 2
            refine wpAnyH_ready (rs := [13]) (by kernel_rfl) (by simp) ?_
            refine AllReadyH.cons rfl (fun K hK => ?_) AllReadyH.nil
            go_simp
            refine hK.out _ _ (((hB5.setCell (by show w0.heap.size ≤ B0; omega) _).setCell (by show w0.heap.size ≤ B0; omega) _).setCell (by show w0.heap.size ≤ B0; omega) _) (fun hBe => ?_)
            clear hK K c0 c1 c2 f0 f1 f2
            refine wpAnyH_done (by kernel_rfl) ?_ _
            refine NoPanic.normal ?_
            go_wp2
            go_meet
            case rel => exact ⟨B0, B3, ao1, ao2, _, _, rfl, gave_end r0 r3 o1 o2 hBe (fun b hb => by obtain ⟨x, y⟩ := hb; refine ⟨by omega, by omega, by omega, by omega, fun hh => by obtain ⟨u, v⟩ := hh; omega⟩) (fun b hb => by obtain ⟨x, y⟩ := hb; refine ⟨by omega, by omega, by omega, by omega⟩) (by omega) (by omega) (by omega) (by omega)⟩
      · -- operation 10
        go_simp
        refine hK.out _ _ (hB2.alloc _) (fun hB3 => ?_)
        clear hK K
        try simp only [Act.put, List.setIfInBounds_toArray, List.set_cons_zero, List.set_cons_succ]
        have r3 := Row.made w2 (.bool false) 12 4
        have hb3 : Blw w2 (w2.alloc (.cells (madeCells #[.bool false] 12) 4)) := (Blw.refl _).alloc _
        have hz3 : w2.heap.size < (w2.alloc (.cells (madeCells #[.bool false] 12) 4)).heap.size := by simp
        revert r3 hb3 hz3 hB3
        generalize w2.alloc (.cells (madeCells #[.bool false] 12) 4) = w3
        intro hB3 r3 hb3 hz3
        obtain ⟨B3, eqB3⟩ : ∃ B, B = w2.heap.size := ⟨_, rfl⟩
        rw [← eqB3] at r3 ⊢
        have leB3 : B3 ≤ w2.heap.size := by omega
        have geB3 : w2.heap.size ≤ B3 := by omega
        clear eqB3
        replace o1 := o1.blw hb3
        refine wpAnyH_ready (rs := [9, 12]) (by kernel_rfl) (by simp) ?_
        refine AllReadyH.cons rfl (fun K hK => ?_) (AllReadyH.cons rfl (fun K hK => ?_) AllReadyH.nil)
        · -- operation 9
          go_simp
          refine (HG2.out _).mono ?_
          rintro e w4 ⟨ao2, rfl, o2, hb4⟩
          have hz4 := hb4.size
          refine hK.out _ _ (hB3.trans hb4) (fun hB4 => ?_)
          clear hK K
          try simp only [Act.put, List.setIfInBounds_toArray, List.set_cons_zero, List.set_cons_succ]
          replace o1 := o1.blw hb4
          replace r3 := r3.blw hb4
          refine wpAnyH_take (i := 11) (v := .agg #[.slice ao1 12 12, .slice ao2 12 12, .slice (some ⟨B3, 0, none⟩) 12 12]) rfl (by kernel_rfl) (by kernel_rfl) (by kernel_rfl) (fun _ _ _ h => h) (Or.inl ⟨by rfl, fun w' _ => by go_simp⟩) hB4 ?_
          simp only [Act.put, List.setIfInBounds_toArray, List.set_cons_zero, List.set_cons_succ]
          refine wpAnyH_ready (rs := [12]) (by kernel_rfl) (by simp) ?_
          refine AllReadyH.cons rfl (fun K hK => ?_) AllReadyH.nil
          · -- operation 12
            go_simp
            refine hK.out _ _ (hB4.alloc _) (fun hB5 => ?_)
            clear hK K
            try simp only [Act.put, List.setIfInBounds_toArray, List.set_cons_zero, List.set_cons_succ]
            have r0 := row_three w4 26
            have hb5 : Blw w4 (w4.alloc (.cells #[.slice none 0 0, .slice none 0 0, .slice none 0 0] 26)) := (Blw.refl _).alloc _
            have hz5 : w4.heap.size < (w4.alloc (.cells #[.slice none 0 0, .slice none 0 0, .slice none 0 0] 26)).heap.size := by simp
            revert r0 hb5 hz5 hB5
            generalize w4.alloc (.cells #[.slice none 0 0, .slice none 0 0, .slice none 0 0] 26) = w5
            intro hB5 r0 hb5 hz5
            obtain ⟨B0, eqB0⟩ : ∃ B, B = w4.heap.size := ⟨_, rfl⟩
            rw [← eqB0] at r0 ⊢
            have leB0 : B0 ≤ w4.heap.size := by omega
            have geB0 : w4.heap.size ≤ B0 := by omega
            clear eqB0
            replace o1 := o1.blw hb5
            replace o2 := o2.blw hb5
            replace r3 := r3.blw hb5
            have c0 : w5.cell? ⟨B0, 0, none⟩ = some (.slice none 0 0) := r0.cell (by omega)
            have f0 : w5.frozen? ⟨B0, 0, none⟩ = false := r0.frozen 0
            have c1 : w5.cell? ⟨B0, 1, none⟩ = some (.slice none 0 0) := r0.cell (by omega)
            have f1 : w5.frozen? ⟨B0, 1, none⟩ = false := r0.frozen 1
            have c2 : w5.cell? ⟨B0, 2, none⟩ = some (.slice none 0 0) := r0.cell (by omega)
            have f2 : w5.frozen? ⟨B0, 2, none⟩ = false := r0.frozen 2
            refine wpAnyH_ready (rs := [13]) (by kernel_rfl) (by simp) ?_
            refine AllReadyH.cons rfl (fun K hK => ?_) AllReadyH.nil
            go_simp
            refine hK.out _ _ (((hB5.setCell (by show w0.heap.size ≤ B0; omega) _).setCell (by show w0.heap.size ≤ B0; omega) _).setCell (by show w0.heap.size ≤ B0; omega) _) (fun hBe => ?_)
            clear hK K c0 c1 c2 f0 f1 f2
            refine wpAnyH_done (by kernel_rfl) ?_ _
            refine NoPanic.normal ?_
            go_wp2
            go_meet
            case rel => exact ⟨B0, B3, ao1, ao2, _, _, rfl, gave_end r0 r3 o1 o2 hBe (fun b hb => by obtain ⟨x, y⟩ := hb; refine ⟨by omega, by omega, by omega, by omega, fun hh => by obtain ⟨u, v⟩ := hh; omega⟩) (fun b hb => by obtain ⟨x, y⟩ := hb; refine ⟨by omega, by omega, by omega, by omega⟩) (by omega) (by omega) (by omega) (by omega)⟩
        · -- operation 12
          go_simp
          refine hK.out _ _ (hB3.alloc _) (fun hB4 => ?_)
          clear hK K
          try simp only [Act.put, List.setIfInBounds_toArray, List.set_cons_zero, List.set_cons_succ]
          have r0 := row_three w3 26
          have hb4 : Blw w3 (w3.alloc (.cells #[.slice none 0 0, .slice none 0 0, .slice none 0 0] 26)) := (Blw.refl _).alloc _
          have hz4 : w3.heap.size < (w3.alloc (.cells #[.slice none 0 0, .slice none 0 0, .slice none 0 0] 26)).heap.size := by simp
          revert r0 hb4 hz4 hB4
          generalize w3.alloc (.cells #[.slice none 0 0, .slice none 0 0, .slice none 0 0] 26) = w4
          intro hB4 r0 hb4 hz4
          obtain ⟨B0, eqB0⟩ : ∃ B, B = w3.heap.size := ⟨_, rfl⟩
          rw [← eqB0] at r0 ⊢
          have leB0 : B0 ≤ w3.heap.size := by omega
          have geB0 : w3.heap.size ≤ B0 := by omega
          clear eqB0
          replace o1 := o1.blw hb4
          replace r3 := r3.blw hb4
          refine wpAnyH_ready (rs := [9]) (by kernel_rfl) (by simp) ?_
          refine AllReadyH.cons rfl (fun K hK => ?_) AllReadyH.nil
          · -- operation 9
            go_simp
            refine (HG2.out _).mono ?_
            rintro e w5 ⟨ao2, rfl, o2, hb5⟩
            have hz5 := hb5.size
            refine hK.out _ _ (hB4.trans hb5) (fun hB5 => ?_)
            clear hK K
            try simp only [Act.put, List.setIfInBounds_toArray, List.set_cons_zero, List.set_cons_succ]
            replace o1 := o1.blw hb5
            replace r3 := r3.blw hb5
            replace r0 := r0.blw hb5
            refine wpAnyH_take (i := 11) (v := .agg #[.slice ao1 12 12, .slice ao2 12 12, .slice (some ⟨B3, 0, none⟩) 12 12]) rfl (by kernel_rfl) (by kernel_rfl) (by kernel_rfl) (fun _ _ _ h => h) (Or.inl ⟨by rfl, fun w' _ => by go_simp⟩) hB5 ?_
            simp only [Act.put, List.setIfInBounds_toArray, List.set_cons_zero, List.set_cons_succ]
            have c0 : w5.cell? ⟨B0, 0, none⟩ = some (.slice none 0 0) := r0.cell (by omega)
            have f0 : w5.frozen? ⟨B0, 0, none⟩ = false := r0.frozen 0
            have c1 : w5.cell? ⟨B0, 1, none⟩ = some (.slice none 0 0) := r0.cell (by omega)
            have f1 : w5.frozen? ⟨B0, 1, none⟩ = false := r0.frozen 1
            have c2 : w5.cell? ⟨B0, 2, none⟩ = some (.slice none 0 0) := r0.cell (by omega)
            have f2 : w5.frozen? ⟨B0, 2, none⟩ = false := r0.frozen 2
            refine wpAnyH_ready (rs := [13]) (by kernel_rfl) (by simp) ?_
            refine AllReadyH.cons rfl (fun K hK => ?_) AllReadyH.nil
            go_simp
            refine hK.out _ _ (((hB5.setCell (by show w0.heap.size ≤ B0; omega) _).setCell (by show w0.heap.size ≤ B0; omega) _).setCell (by show w0.heap.size ≤ B0; omega) _) (fun hBe => ?_)
            clear hK K c0 c1 c2 f0 f1 f2
            refine wpAnyH_done (by kernel_rfl) ?_ _
            refine NoPanic.normal ?_
            go_wp2
            go_meet
            case rel => exact ⟨B0, B3, ao1, ao2, _, _, rfl, gave_end r0 r3 o1 o2 hBe (fun b hb => by obtain ⟨x, y⟩ := hb; refine ⟨by omega, by omega, by omega, by omega, fun hh => by obtain ⟨u, v⟩ := hh; omega⟩) (fun b hb => by obtain ⟨x, y⟩ := hb; refine ⟨by omega, by omega, by omega, by omega⟩) (by omega) (by omega) (by omega) (by omega)⟩
      · -- operation 12
        go_simp
        refine hK.out _ _ (hB2.alloc _) (fun hB3 => ?_)
        clear hK K
        try simp only [Act.put, List.setIfInBounds_toArray, List.set_cons_zero, List.set_cons_succ]
        have r0 := row_three w2 26
        have hb3 : Blw w2 (w2.alloc (.cells #[.slice none 0 0, .slice none 0 0, .slice none 0 0] 26)) := (Blw.refl _).alloc _
        have hz3 : w2.heap.size < (w2.alloc (.cells #[.slice none 0 0, .slice none 0 0, .slice none 0 0] 26)).heap.size := by simp
        revert r0 hb3 hz3 hB3
        generalize w2.alloc (.cells #[.slice none 0 0, .slice none 0 0, .slice none 0 0] 26) = w3
        intro hB3 r0 hb3 hz3
        obtain ⟨B0, eqB0⟩ : ∃ B, B = w2.heap.size := ⟨_, rfl⟩
        rw [← eqB0] at r0 ⊢
        have leB0 : B0 ≤ w2.heap.size := by omega
        have geB0 : w2.heap.size ≤ B0 := by omega
        clear eqB0
        replace o1 := o1.blw hb3
        refine wpAnyH_ready (rs := [9, 10]) (by kernel_rfl) (by simp) ?_
        refine AllReadyH.cons rfl (fun K hK => ?_) (AllReadyH.cons rfl (fun K hK => ?_) AllReadyH.nil)
        · -- operation 9
          go_simp
          refine (HG2.out _).mono ?_
          rintro e w4 ⟨ao2, rfl, o2, hb4⟩
          have hz4 := hb4.size
          refine hK.out _ _ (hB3.trans hb4) (fun hB4 => ?_)
          clear hK K
          try simp only [Act.put, List.setIfInBounds_toArray, List.set_cons_zero, List.set_cons_succ]
          replace o1 := o1.blw hb4
          replace r0 := r0.blw hb4
          refine wpAnyH_ready (rs := [10]) (by kernel_rfl) (by simp) ?_
          refine AllReadyH.cons rfl (fun K hK => ?_) AllReadyH.nil
          · -- operation 10
            go_simp
            refine hK.out _ _ (hB4.alloc _) (fun hB5 => ?_)
            clear hK K
            try simp only [Act.put, List.setIfInBounds_toArray, List.set_cons_zero, List.set_cons_succ]
            have r3 := Row.made w4 (.bool false) 12 4
            have hb5 : Blw w4 (w4.alloc (.cells (madeCells #[.bool false] 12) 4)) := (Blw.refl _).alloc _
            have hz5 : w4.heap.size < (w4.alloc (.cells (madeCells #[.bool false] 12) 4)).heap.size := by simp
            revert r3 hb5 hz5 hB5
            generalize w4.alloc (.cells (madeCells #[.bool false] 12) 4) = w5
            intro hB5 r3 hb5 hz5
            obtain ⟨B3, eqB3⟩ : ∃ B, B = w4.heap.size := ⟨_, rfl⟩
            rw [← eqB3] at r3 ⊢
            have leB3 : B3 ≤ w4.heap.size := by omega
            have geB3 : w4.heap.size ≤ B3 := by omega
            clear eqB3
            replace o1 := o1.blw hb5
            replace o2 := o2.blw hb5
            replace r0 := r0.blw hb5
            refine wpAnyH_take (i := 11) (v := .agg #[.slice ao1 12 12, .slice ao2 12 12, .slice (some ⟨B3, 0, none⟩) 12 12]) rfl (by kernel_rfl) (by kernel_rfl) (by kernel_rfl) (fun _ _ _ h => h) (Or.inl ⟨by rfl, fun w' _ => by go_simp⟩) hB5 ?_
            simp only [Act.put, List.setIfInBounds_toArray, List.set_cons_zero, List.set_cons_succ]
            have c0 : w5.cell? ⟨B0, 0, none⟩ = some (.slice none 0 0) := r0.cell (by omega)
            have f0 : w5.frozen? ⟨B0, 0, none⟩ = false := r0.frozen 0
            have c1 : w5.cell? ⟨B0, 1, none⟩ = some (.slice none 0 0) := r0.cell (by omega)
            have f1 : w5.frozen? ⟨B0, 1, none⟩ = false := r0.frozen 1
            have c2 : w5.cell? ⟨B0, 2, none⟩ = some (.slice none 0 0) := r0.cell (by omega)
            have f2 : w5.frozen? ⟨B0, 2, none⟩ = false := r0.frozen 2
            refine wpAnyH_ready (rs := [13]) (by kernel_rfl) (by simp) ?_
            refine AllReadyH.cons rfl (fun K hK => ?_) AllReadyH.nil
            go_simp
            refine hK.out _ _ (((hB5.setCell (by show w0.heap.size ≤ B0; omega) _).setCell (by show w0.heap.size ≤ B0; omega) _).setCell (by show w0.heap.size ≤ B0; omega) _) (fun hBe => ?_)
            clear hK K c0 c1 c2 f0 f1 f2
            refine wpAnyH_done (by kernel_rfl) ?_ _
            refine NoPanic.normal ?_
            go_wp2
            go_meet
            case rel => exact ⟨B0, B3, ao1, ao2, _, _, rfl, gave_end r0 r3 o1 o2 hBe (fun b hb => by obtain ⟨x, y⟩ := hb; refine ⟨by omega, by omega, by omega, by omega, fun hh => by obtain ⟨u, v⟩ := hh; omega⟩) (fun b hb => by obtain ⟨x, y⟩ := hb; refine ⟨by omega, by omega, by omega, by omega⟩) (by omega) (by omega) (by omega) (by omega)⟩
        · -- operation 10
          go_simp
          refine hK.out _ _ (hB3.alloc _) (fun hB4 => ?_)
          clear hK K
          try simp only [Act.put, List.setIfInBounds_toArray, List.set_cons_zero, List.set_cons_succ]
          have r3 := Row.made w3 (.bool false) 12 4
          have hb4 : Blw w3 (w3.alloc (.cells (madeCells #[.bool false] 12) 4)) := (Blw.refl _).alloc _
          have hz4 : w3.heap.size < (w3.alloc (.cells (madeCells #[.bool false] 12) 4)).heap.size := by simp
          revert r3 hb4 hz4 hB4
          generalize w3.alloc (.cells (madeCells #[.bool false] 12) 4) = w4
          intro hB4 r3 hb4 hz4
          obtain ⟨B3, eqB3⟩ : ∃ B, B = w3.heap.size := ⟨_, rfl⟩
          rw [← eqB3] at r3 ⊢
          have leB3 : B3 ≤ w3.heap.size := by omega
          have geB3 : w3.heap.size ≤ B3 := by omega
          clear eqB3
          replace o1 := o1.blw hb4
          replace r0 := r0.blw hb4
          refine wpAnyH_ready (rs := [9]) (by kernel_rfl) (by simp) ?_
          refine AllReadyH.cons rfl (fun K hK => ?_) AllReadyH.nil
          · -- operation 9
            go_simp
            refine (HG2.out _).mono ?_
            rintro e w5 ⟨ao2, rfl, o2, hb5⟩
            have hz5 := hb5.size
            refine hK.out _ _ (hB4.trans hb5) (fun hB5 => ?_)
            clear hK K
            try simp only [Act.put, List.setIfInBounds_toArray, List.set_cons_zero, List.set_cons_succ]
            replace o1 := o1.blw hb5
            replace r3 := r3.blw hb5
            replace r0 := r0.blw hb5
            refine wpAnyH_take (i := 11) (v := .agg #[.slice ao1 12 12, .slice ao2 12 12, .slice (some ⟨B3, 0, none⟩) 12 12]) rfl (by kernel_rfl) (by kernel_rfl) (by kernel_rfl) (fun _ _ _ h => h) (Or.inl ⟨by rfl, fun w' _ => by go_simp⟩) hB5 ?_
            simp only [Act.put, List.setIfInBounds_toArray, List.set_cons_zero, List.set_cons_succ]
            have c0 : w5.cell? ⟨B0, 0, none⟩ = some (.slice none 0 0) := r0.cell (by omega)
            have f0 : w5.frozen? ⟨B0, 0, none⟩ = false := r0.frozen 0
            have c1 : w5.cell? ⟨B0, 1, none⟩ = some (.slice none 0 0) := r0.cell (by omega)
            have f1 : w5.frozen? ⟨B0, 1, none⟩ = false := r0.frozen 1
            have c2 : w5.cell? ⟨B0, 2, none⟩ = some (.slice none 0 0) := r0.cell (by omega)
            have f2 : w5.frozen? ⟨B0, 2, none⟩ = false := r0.frozen 2
            refine wpAnyH_ready (rs := [13]) (by kernel_rfl) (by simp) ?_
            refine AllReadyH.cons rfl (fun K hK => ?_) AllReadyH.nil
            go_simp
            refine hK.out _ _ (((hB5.setCell (by show w0.heap.size ≤ B0; omega) _).setCell (by show w0.heap.size ≤ B0; omega) _).setCell (by show w0.heap.size ≤ B0; omega) _) (fun hBe => ?_)
            clear hK K c0 c1 c2 f0 f1 f2
            refine wpAnyH_done (by kernel_rfl) ?_ _
            refine NoPanic.normal ?_
            go_wp2
            go_meet
            case rel => exact ⟨B0, B3, ao1, ao2, _, _, rfl, gave_end r0 r3 o1 o2 hBe (fun b hb => by obtain ⟨x, y⟩ := hb; refine ⟨by omega, by omega, by omega, by omega, fun hh => by obtain ⟨u, v⟩ := hh; omega⟩) (fun b hb => by obtain ⟨x, y⟩ := hb; refine ⟨by omega, by omega, by omega, by omega⟩) (by omega) (by omega) (by omega) (by omega)⟩
    · -- operation 10
      go_simp
      refine hK.out _ _ (hB1.alloc _) (fun hB2 => ?_)
      clear hK K
      try simp only [Act.put, List.setIfInBounds_toArray, List.set_cons_zero, List.set_cons_succ]
      have r3 := Row.made w1 (.bool false) 12 4
      have hb2 : Blw w1 (w1.alloc (.cells (madeCells #[.bool false] 12) 4)) := (Blw.refl _).alloc _
      have hz2 : w1.heap.size < (w1.alloc (.cells (madeCells #[.bool false] 12) 4)).heap.size := by simp
      revert r3 hb2 hz2 hB2
      generalize w1.alloc (.cells (madeCells #[.bool false] 12) 4) = w2
      intro hB2 r3 hb2 hz2
      obtain ⟨B3, eqB3⟩ : ∃ B, B = w1.heap.size := ⟨_, rfl⟩
      rw [← eqB3] at r3 ⊢
      have leB3 : B3 ≤ w1.heap.size := by omega
      have geB3 : w1.heap.size ≤ B3 := by omega
      clear eqB3
      refine wpAnyH_ready (rs := [4, 12]) (by kernel_rfl) (by simp) ?_
      refine AllReadyH.cons rfl (fun K hK => ?_) (AllReadyH.cons rfl (fun K hK => ?_) AllReadyH.nil)
      · -- operation 4
        go_simp
        refine (HG1.out _).mono ?_
        rintro e w3 ⟨ao1, rfl, o1, hb3⟩
        have hz3 := hb3.size
        refine hK.out _ _ (hB2.trans hb3) (fun hB3 => ?_)
        clear hK K
        try simp only [Act.put, List.setIfInBounds_toArray, List.set_cons_zero, List.set_cons_succ]
        replace r3 := r3.blw hb3
        refine wpAnyH_ready (rs := [9, 12]) (by kernel_rfl) (by simp) ?_
        refine AllReadyH.cons rfl (fun K hK => ?_) (AllReadyH.cons rfl (fun K hK => ?_) AllReadyH.nil)
        · -- operation 9
          go_simp
          refine (HG2.out _).mono ?_
          rintro e w4 ⟨ao2, rfl, o2, hb4⟩
          have hz4 := hb4.size
          refine hK.out _ _ (hB3.trans hb4) (fun hB4 => ?_)
          clear hK K
          try simp only [Act.put, List.setIfInBounds_toArray, List.set_cons_zero, List.set_cons_succ]
          replace o1 := o1.blw hb4
          replace r3 := r3.blw hb4
          refine wpAnyH_take (i := 11) (v := .agg #[.slice ao1 12 12, .slice ao2 12 12, .slice (some ⟨B3, 0, none⟩) 12 12]) rfl (by kernel_rfl) (by kernel_rfl) (by kernel_rfl) (fun _ _ _ h => h) (Or.inl ⟨by rfl, fun w' _ => by go_simp⟩) hB4 ?_
          simp only [Act.put, List.setIfInBounds_toArray, List.set_cons_zero, List.set_cons_succ]
          refine wpAnyH_ready (rs := [12]) (by kernel_rfl) (by simp) ?_
          refine AllReadyH.cons rfl (fun K hK => ?_) AllReadyH.nil
          · -- operation 12
            go_simp
            refine hK.out _ _ (hB4.alloc _) (fun hB5 => ?_)
            clear hK K
            try simp only [Act.put, List.setIfInBounds_toArray, List.set_cons_zero, List.set_cons_succ]
            have r0 := row_three w4 26
            have hb5 : Blw w4 (w4.alloc (.cells #[.slice none 0 0, .slice none 0 0, .slice none 0 0] 26)) := (Blw.refl _).alloc _
            have hz5 : w4.heap.size < (w4.alloc (.cells #[.slice none 0 0, .slice none 0 0, .slice none 0 0] 26)).heap.size := by simp
            revert r0 hb5 hz5 hB5
            generalize w4.alloc (.cells #[.slice none 0 0, .slice none 0 0, .slice none 0 0] 26) = w5
            intro hB5 r0 hb5 hz5
            obtain ⟨B0, eqB0⟩ : ∃ B, B = w4.heap.size := ⟨_, rfl⟩
            rw [← eqB0] at r0 ⊢
            have leB0 : B0 ≤ w4.heap.size := by omega
            have geB0 : w4.heap.size ≤ B0 := by omega
            clear eqB0
            replace o1 := o1.blw hb5
            replace o2 := o2.blw hb5
            replace r3 := r3.blw hb5
            have c0 : w5.cell? ⟨B0, 0, none⟩ = some (.slice none 0 0) := r0.cell (by omega)
            have f0 : w5.frozen? ⟨B0, 0, none⟩ = false := r0.frozen 0
            have c1 : w5.cell? ⟨B0, 1, none⟩ = some (.slice none 0 0) := r0.cell (by omega)
            have f1 : w5.frozen? ⟨B0, 1, none⟩ = false := r0.frozen 1
            have c2 : w5.cell? ⟨B0, 2, none⟩ = some (.slice none 0 0) := r0.cell (by omega)
            have f2 : w5.frozen? ⟨B0, 2, none⟩ = false := r0.frozen 2
            refine wpAnyH_ready (rs := [13]) (by kernel_rfl) (by simp) ?_
            refine AllReadyH.cons rfl (fun K hK => ?_) AllReadyH.nil
            go_simp
            refine hK.out _ _ (((hB5.setCell (by show w0.heap.size ≤ B0; omega) _).setCell (by show w0.heap.size ≤ B0; omega) _).setCell (by show w0.heap.size ≤ B0; omega) _) (fun hBe => ?_)
            clear hK K c0 c1 c2 f0 f1 f2
            refine wpAnyH_done (by kernel_rfl) ?_ _
            refine NoPanic.normal ?_
            go_wp2
            go_meet
            case rel => exact ⟨B0, B3, ao1, ao2, _, _, rfl, gave_end r0 r3 o1 o2 hBe (fun b hb => by obtain ⟨x, y⟩ := hb; refine ⟨by omega, by omega, by omega, by omega, fun hh => by obtain ⟨u, v⟩ := hh; omega⟩) (fun b hb => by obtain ⟨x, y⟩ := hb; refine ⟨by omega, by omega, by omega, by omega⟩) (by omega) (by omega) (by omega) (by omega)⟩
        · -- operation 12
          go_simp
          refine hK.out _ _ (hB3.alloc _) (fun hB4 => ?_)
          clear hK K
          try simp only [Act.put, List.setIfInBounds_toArray, List.set_cons_zero, List.set_cons_succ]
          have r0 := row_three w3 26
          have hb4 : Blw w3 (w3.alloc (.cells #[.slice none 0 0, .slice none 0 0, .slice none 0 0] 26)) := (Blw.refl _).alloc _
          have hz4 : w3.heap.size < (w3.alloc (.cells #[.slice none 0 0, .slice none 0 0, .slice none 0 0] 26)).heap.size := by simp
          revert r0 hb4 hz4 hB4
          generalize w3.alloc (.cells #[.slice none 0 0, .slice none 0 0, .slice none 0 0] 26) = w4
          intro hB4 r0 hb4 hz4
          obtain ⟨B0, eqB0⟩ : ∃ B, B = w3.heap.size := ⟨_, rfl⟩
          rw [← eqB0] at r0 ⊢
          have leB0 : B0 ≤ w3.heap.size := by omega
          have geB0 : w3.heap.size ≤ B0 := by omega
          clear eqB0
          replace o1 := o1.blw hb4
          replace r3 := r3.blw hb4
          refine wpAnyH_ready (rs := [9]) (by kernel_rfl) (by simp) ?_
          refine AllReadyH.cons rfl (fun K hK => ?_) AllReadyH.nil
          · -- operation 9
            go_simp
            refine (HG2.out _).mono ?_
            rintro e w5 ⟨ao2, rfl, o2, hb5⟩
            have hz5 := hb5.size
            refine hK.out _ _ (hB4.trans hb5) (fun hB5 => ?_)
            clear hK K
            try simp only [Act.put, List.setIfInBounds_toArray, List.set_cons_zero, List.set_cons_succ]
            replace o1 := o1.blw hb5
            replace r3 := r3.blw hb5
            replace r0 := r0.blw hb5
            refine wpAnyH_take (i := 11) (v := .agg #[.slice ao1 12 12, .slice ao2 12 12, .slice (some ⟨B3, 0, none⟩) 12 12]) rfl (by kernel_rfl) (by kernel_rfl) (by kernel_rfl) (fun _ _ _ h => h) (Or.inl ⟨by rfl, fun w' _ => by go_simp⟩) hB5 ?_
            simp only [Act.put, List.setIfInBounds_toArray, List.set_cons_zero, List.set_cons_succ]
            have c0 : w5.cell? ⟨B0, 0, none⟩ = some (.slice none 0 0) := r0.cell (by omega)
            have f0 : w5.frozen? ⟨B0, 0, none⟩ = false := r0.frozen 0
            have c1 : w5.cell? ⟨B0, 1, none⟩ = some (.slice none 0 0) := r0.cell (by omega)
            have f1 : w5.frozen? ⟨B0, 1, none⟩ = false := r0.frozen 1
            have c2 : w5.cell? ⟨B0, 2, none⟩ = some (.slice none 0 0) := r0.cell (by omega)
            have f2 : w5.frozen? ⟨B0, 2, none⟩ = false := r0.frozen 2
            refine wpAnyH_ready (rs := [13]) (by kernel_rfl) (by simp) ?_
            refine AllReadyH.cons rfl (fun K hK => ?_) AllReadyH.nil
            go_simp
            refine hK.out _ _ (((hB5.setCell (by show w0.heap.size ≤ B0; omega) _).setCell (by show w0.heap.size ≤ B0; omega) _).setCell (by show w0.heap.size ≤ B0; omega) _) (fun hBe => ?_)
            clear hK K c0 c1 c2 f0 f1 f2
            refine wpAnyH_done (by kernel_rfl) ?_ _
            refine NoPanic.normal ?_
            go_wp2
            go_meet
            case rel => exact ⟨B0, B3, ao1, ao2, _, _, rfl, gave_end r0 r3 o1 o2 hBe (fun b hb => by obtain ⟨x, y⟩ := hb; refine ⟨by omega, by omega, by omega, by omega, fun hh => by obtain ⟨u, v⟩ := hh; omega⟩) (fun b hb => by obtain ⟨x, y⟩ := hb; refine ⟨by omega, by omega, by omega, by omega⟩) (by omega) (by omega) (by omega) (by omega)⟩
      · -- operation 12
        go_simp
        refine hK.out _ _ (hB2.alloc _) (fun hB3 => ?_)
        clear hK K
        try simp only [Act.put, List.setIfInBounds_toArray, List.set_cons_zero, List.set_cons_succ]
        have r0 := row_three w2 26
        have hb3 : Blw w2 (w2.alloc (.cells #[.slice none 0 0, .slice none 0 0, .slice none 0 0] 26)) := (Blw.refl _).alloc _
        have hz3 : w2.heap.size < (w2.alloc (.cells #[.slice none 0 0, .slice none 0 0, .slice none 0 0] 26)).heap.size := by simp
        revert r0 hb3 hz3 hB3
        generalize w2.alloc (.cells #[.slice none 0 0, .slice none 0 0, .slice none 0 0] 26) = w3
        intro hB3 r0 hb3 hz3
        obtain ⟨B0, eqB0⟩ : ∃ B, B = w2.heap.size := ⟨_, rfl⟩
        rw [← eqB0] at r0 ⊢
        have leB0 : B0 ≤ w2.heap.size := by omega
        have geB0 : w2.heap.size ≤ B0 := by omega
        clear eqB0
        replace r3 := r3.blw hb3
        refine wpAnyH_ready (rs := [4]) (by kernel_rfl) (by simp) ?_
        refine AllReadyH.cons rfl (fun K hK => ?_) AllReadyH.nil
        · -- operation 4
          go_simp
          refine (HG1.out _).mono ?_
          rintro e w4 ⟨ao1, rfl, o1, hb4⟩
          have hz4 := hb4.size
          refine hK.out _ _ (hB3.trans hb4) (fun hB4 => ?_)
          clear hK K
          try simp only [Act.put, List.setIfInBounds_toArray, List.set_cons_zero, List.set_cons_succ]
          replace r3 := r3.blw hb4
          replace r0 := r0.blw hb4
          refine wpAnyH_ready (rs := [9]) (by kernel_rfl) (by simp) ?_
          refine AllReadyH.cons rfl (fun K hK => ?_) AllReadyH.nil
          · -- operation 9
            go_simp
            refine (HG2.out _).mono ?_
            rintro e w5 ⟨ao2, rfl, o2, hb5⟩
            have hz5 := hb5.size
            refine hK.out _ _ (hB4.trans hb5) (fun hB5 => ?_)
            clear hK K
            try simp only [Act.put, List.setIfInBounds_toArray, List.set_cons_zero, List.set_cons_succ]
            replace o1 := o1.blw hb5
            replace r3 := r3.blw hb5
            replace r0 := r0.blw hb5
            refine wpAnyH_take (i := 11) (v := .agg #[.slice ao1 12 12, .slice ao2 12 12, .slice (some ⟨B3, 0, none⟩) 12 12]) rfl (by kernel_rfl) (by kernel_rfl) (by kernel_rfl) (fun _ _ _ h => h) (Or.inl ⟨by rfl, fun w' _ => by go_simp⟩) hB5 ?_
            simp only [Act.put, List.setIfInBounds_toArray, List.set_cons_zero, List.set_cons_succ]
            have c0 : w5.cell? ⟨B0, 0, none⟩ = some (.slice none 0 0) := r0.cell (by omega)
            have f0 : w5.frozen? ⟨B0, 0, none⟩ = false := r0.frozen 0
            have c1 : w5.cell? ⟨B0, 1, none⟩ = some (.slice none 0 0) := r0.cell (by omega)
            have f1 : w5.frozen? ⟨B0, 1, none⟩ = false := r0.frozen 1
            have c2 : w5.cell? ⟨B0, 2, none⟩ = some (.slice none 0 0) := r0.cell (by omega)
            have f2 : w5.frozen? ⟨B0, 2, none⟩ = false := r0.frozen 2
            refine wpAnyH_ready (rs := [13]) (by kernel_rfl) (by simp) ?_
            refine AllReadyH.cons rfl (fun K hK => ?_) AllReadyH.nil
            go_simp
            refine hK.out _ _ (((hB5.setCell (by show w0.heap.size ≤ B0; omega) _).setCell (by show w0.heap.size ≤ B0; omega) _).setCell (by show w0.heap.size ≤ B0; omega) _) (fun hBe => ?_)
            clear hK K c0 c1 c2 f0 f1 f2
            refine wpAnyH_done (by kernel_rfl) ?_ _
            refine NoPanic.normal ?_
            go_wp2
            go_meet
            case rel => exact ⟨B0, B3, ao1, ao2, _, _, rfl, gave_end r0 r3 o1 o2 hBe (fun b hb => by obtain ⟨x, y⟩ := hb; refine ⟨by omega, by omega, by omega, by omega, fun hh => by obtain ⟨u, v⟩ := hh; omega⟩) (fun b hb => by obtain ⟨x, y⟩ := hb; refine ⟨by omega, by omega, by omega, by omega⟩) (by omega) (by omega) (by omega) (by omega)⟩
    · -- operation 12
      go_simp
      refine hK.out _ _ (hB1.alloc _) (fun hB2 => ?_)
      clear hK K
      try simp only [Act.put, List.setIfInBounds_toArray, List.set_cons_zero, List.set_cons_succ]
      have r0 := row_three w1 26
      have hb2 : Blw w1 (w1.alloc (.cells #[.slice none 0 0, .slice none 0 0, .slice none 0 0] 26)) := (Blw.refl _).alloc _
      have hz2 : w1.heap.size < (w1.alloc (.cells #[.slice none 0 0, .slice none 0 0, .slice none 0 0] 26)).heap.size := by simp
      revert r0 hb2 hz2 hB2
      generalize w1.alloc (.cells #[.slice none 0 0, .slice none 0 0, .slice none 0 0] 26) = w2
      intro hB2 r0 hb2 hz2
      obtain ⟨B0, eqB0⟩ : ∃ B, B = w1.heap.size := ⟨_, rfl⟩
      rw [← eqB0] at r0 ⊢
      have leB0 : B0 ≤ w1.heap.size := by omega
      have geB0 : w1.heap.size ≤ B0 := by omega
      clear eqB0
      refine wpAnyH_ready (rs := [4, 10]) (by kernel_rfl) (by simp) ?_
      refine AllReadyH.cons rfl (fun K hK => ?_) (AllReadyH.cons rfl (fun K hK => ?_) AllReadyH.nil)
      · -- operation 4
        go_simp
        refine (HG1.out _).mono ?_
        rintro e w3 ⟨ao1, rfl, o1, hb3⟩
        have hz3 := hb3.size
        refine hK.out _ _ (hB2.trans hb3) (fun hB3 => ?_)
        clear hK K
        try simp only [Act.put, List.setIfInBounds_toArray, List.set_cons_zero, List.set_cons_succ]
        replace r0 := r0.blw hb3
        refine wpAnyH_ready (rs := [9, 10]) (by kernel_rfl) (by simp) ?_
        refine AllReadyH.cons rfl (fun K hK => ?_) (AllReadyH.cons rfl (fun K hK => ?_) AllReadyH.nil)
        · -- operation 9
          go_simp
          refine (HG2.out _).mono ?_
          rintro e w4 ⟨ao2, rfl, o2, hb4⟩
          have hz4 := hb4.size
          refine hK.out _ _ (hB3.trans hb4) (fun hB4 => ?_)
          clear hK K
          try simp only [Act.put, List.setIfInBounds_toArray, List.set_cons_zero, List.set_cons_succ]
          replace o1 := o1.blw hb4
          replace r0 := r0.blw hb4
          refine wpAnyH_ready (rs := [10]) (by kernel_rfl) (by simp) ?_
          refine AllReadyH.cons rfl (fun K hK => ?_) AllReadyH.nil
          · -- operation 10
            go_simp
            refine hK.out _ _ (hB4.alloc _) (fun hB5 => ?_)
            clear hK K
            try simp only [Act.put, List.setIfInBounds_toArray, List.set_cons_zero, List.set_cons_succ]
            have r3 := Row.made w4 (.bool false) 12 4
            have hb5 : Blw w4 (w4.alloc (.cells (madeCells #[.bool false] 12) 4)) := (Blw.refl _).alloc _
            have hz5 : w4.heap.size < (w4.alloc (.cells (madeCells #[.bool false] 12) 4)).heap.size := by simp
            revert r3 hb5 hz5 hB5
            generalize w4.alloc (.cells (madeCells #[.bool false] 12) 4) = w5
            intro hB5 r3 hb5 hz5
            obtain ⟨B3, eqB3⟩ : ∃ B, B = w4.heap.size := ⟨_, rfl⟩
            rw [← eqB3] at r3 ⊢
            have leB3 : B3 ≤ w4.heap.size := by omega
            have geB3 : w4.heap.size ≤ B3 := by omega
            clear eqB3
            replace o1 := o1.blw hb5
            replace o2 := o2.blw hb5
            replace r0 := r0.blw hb5
            refine wpAnyH_take (i := 11) (v := .agg #[.slice ao1 12 12, .slice ao2 12 12, .slice (some ⟨B3, 0, none⟩) 12 12]) rfl (by kernel_rfl) (by kernel_rfl) (by kernel_rfl) (fun _ _ _ h => h) (Or.inl ⟨by rfl, fun w' _ => by go_simp⟩) hB5 ?_
            simp only [Act.put, List.setIfInBounds_toArray, List.set_cons_zero, List.set_cons_succ]
            have c0 : w5.cell? ⟨B0, 0, none⟩ = some (.slice none 0 0) := r0.cell (by omega)
            have f0 : w5.frozen? ⟨B0, 0, none⟩ = false := r0.frozen 0
            have c1 : w5.cell? ⟨B0, 1, none⟩ = some (.slice none 0 0) := r0.cell (by omega)
            have f1 : w5.frozen? ⟨B0, 1, none⟩ = false := r0.frozen 1
            have c2 : w5.cell? ⟨B0, 2, none⟩ = some (.slice none 0 0) := r0.cell (by omega)
            have f2 : w5.frozen? ⟨B0, 2, none⟩ = false := r0.frozen 2
            refine wpAnyH_ready (rs := [13]) (by kernel_rfl) (by simp) ?_
            refine AllReadyH.cons rfl (fun K hK => ?_) AllReadyH.nil
            go_simp
            refine hK.out _ _ (((hB5.setCell (by show w0.heap.size ≤ B0; omega) _).setCell (by show w0.heap.size ≤ B0; omega) _).setCell (by show w0.heap.size ≤ B0; omega) _) (fun hBe => ?_)
            clear hK K c0 c1 c2 f0 f1 f2
            refine wpAnyH_done (by kernel_rfl) ?_ _
            refine NoPanic.normal ?_
            go_wp2
            go_meet
            case rel => exact ⟨B0, B3, ao1, ao2, _, _, rfl, gave_end r0 r3 o1 o2 hBe (fun b hb => by obtain ⟨x, y⟩ := hb; refine ⟨by omega, by omega, by omega, by omega, fun hh => by obtain ⟨u, v⟩ := hh; omega⟩) (fun b hb => by obtain ⟨x, y⟩ := hb; refine ⟨by omega, by omega, by omega, by omega⟩) (by omega) (by omega) (by omega) (by omega)⟩
        · -- operation 10
          go_simp
          refine hK.out _ _ (hB3.alloc _) (fun hB4 => ?_)
          clear hK K
          try simp only [Act.put, List.setIfInBounds_toArray, List.set_cons_zero, List.set_cons_succ]
          have r3 := Row.made w3 (.bool false) 12 4
          have hb4 : Blw w3 (w3.alloc (.cells (madeCells #[.bool false] 12) 4)) := (Blw.refl _).alloc _
          have hz4 : w3.heap.size < (w3.alloc (.cells (madeCells #[.bool false] 12) 4)).heap.size := by simp
          revert r3 hb4 hz4 hB4
          generalize w3.alloc (.cells (madeCells #[.bool false] 12) 4) = w4
          intro hB4 r3 hb4 hz4
          obtain ⟨B3, eqB3⟩ : ∃ B, B = w3.heap.size := ⟨_, rfl⟩
          rw [← eqB3] at r3 ⊢
          have leB3 : B3 ≤ w3.heap.size := by omega
          have geB3 : w3.heap.size ≤ B3 := by omega
          clear eqB3
          replace o1 := o1.blw hb4
          replace r0 := r0.blw hb4
          refine wpAnyH_ready (rs := [9]) (by kernel_rfl) (by simp) ?_
          refine AllReadyH.cons rfl (fun K hK => ?_) AllReadyH.nil
          · -- operation 9
            go_simp
            refine (HG2.out _).mono ?_
            rintro e w5 ⟨ao2, rfl, o2, hb5⟩
            have hz5 := hb5.size
            refine hK.out _ _ (hB4.trans hb5) (fun hB5 => ?_)
            clear hK K
            try simp only [Act.put, List.setIfInBounds_toArray, List.set_cons_zero, List.set_cons_succ]
            replace o1 := o1.blw hb5
            replace r3 := r3.blw hb5
            replace r0 := r0.blw hb5
            refine wpAnyH_take (i := 11) (v := .agg #[.slice ao1 12 12, .slice ao2 12 12, .slice (some ⟨B3, 0, none⟩) 12 12]) rfl (by kernel_rfl) (by kernel_rfl) (by kernel_rfl) (fun _ _ _ h => h) (Or.inl ⟨by rfl, fun w' _ => by go_simp⟩) hB5 ?_
            simp only [Act.put, List.setIfInBounds_toArray, List.set_cons_zero, List.set_cons_succ]
            have c0 : w5.cell? ⟨B0, 0, none⟩ = some (.slice none 0 0) := r0.cell (by omega)
            have f0 : w5.frozen? ⟨B0, 0, none⟩ = false := r0.frozen 0
            have c1 : w5.cell? ⟨B0, 1, none⟩ = some (.slice none 0 0) := r0.cell (by omega)
            have f1 : w5.frozen? ⟨B0, 1, none⟩ = false := r0.frozen 1
            have c2 : w5.cell? ⟨B0, 2, none⟩ = some (.slice none 0 0) := r0.cell (by omega)
            have f2 : w5.frozen? ⟨B0, 2, none⟩ = false := r0.frozen 2
            refine wpAnyH_ready (rs := [13]) (by kernel_rfl) (by simp) ?_
            refine AllReadyH.cons rfl (fun K hK => ?_) AllReadyH.nil
            go_simp
            refine hK.out _ _ (((hB5.setCell (by show w0.heap.size ≤ B0; omega) _).setCell (by show w0.heap.size ≤ B0; omega) _).setCell (by show w0.heap.size ≤ B0; omega) _) (fun hBe => ?_)
            clear hK K c0 c1 c2 f0 f1 f2
            refine wpAnyH_done (by kernel_rfl) ?_ _
            refine NoPanic.normal ?_
            go_wp2
            go_meet
            case rel => exact ⟨B0, B3, ao1, ao2, _, _, rfl, gave_end r0 r3 o1 o2 hBe (fun b hb => by obtain ⟨x, y⟩ := hb; refine ⟨by omega, by omega, by omega, by omega, fun hh => by obtain ⟨u, v⟩ := hh; omega⟩) (fun b hb => by obtain ⟨x, y⟩ := hb; refine ⟨by omega, by omega, by omega, by omega⟩) (by omega) (by omega) (by omega) (by omega)⟩
      · -- operation 10
        go_simp
        refine hK.out _ _ (hB2.alloc _) (fun hB3 => ?_)
        clear hK K
        try simp only [Act.put, List.setIfInBounds_toArray, List.set_cons_zero, List.set_cons_succ]
        have r3 := Row.made w2 (.bool false) 12 4
        have hb3 : Blw w2 (w2.alloc (.cells (madeCells #[.bool false] 12) 4)) := (Blw.refl _).alloc _
        have hz3 : w2.heap.size < (w2.alloc (.cells (madeCells #[.bool false] 12) 4)).heap.size := by simp
        revert r3 hb3 hz3 hB3
        generalize w2.alloc (.cells (madeCells #[.bool false] 12) 4) = w3
        intro hB3 r3 hb3 hz3
        obtain ⟨B3, eqB3⟩ : ∃ B, B = w2.heap.size := ⟨_, rfl⟩
        rw [← eqB3] at r3 ⊢
        have leB3 : B3 ≤ w2.heap.size := by omega
        have geB3 : w2.heap.size ≤ B3 := by omega
        clear eqB3
        replace r0 := r0.blw hb3
        refine wpAnyH_ready (rs := [4]) (by kernel_rfl) (by simp) ?_
        refine AllReadyH.cons rfl (fun K hK => ?_) AllReadyH.nil
        · -- operation 4
          go_simp
          refine (HG1.out _).mono ?_
          rintro e w4 ⟨ao1, rfl, o1, hb4⟩
          have hz4 := hb4.size
          refine hK.out _ _ (hB3.trans hb4) (fun hB4 => ?_)
          clear hK K
          try simp only [Act.put, List.setIfInBounds_toArray, List.set_cons_zero, List.set_cons_succ]
          replace r3 := r3.blw hb4
          replace r0 := r0.blw hb4
          refine wpAnyH_ready (rs := [9]) (by kernel_rfl) (by simp) ?_
          refine AllReadyH.cons rfl (fun K hK => ?_) AllReadyH.nil
          · -- operation 9
            go_simp
            refine (HG2.out _).mono ?_
            rintro e w5 ⟨ao2, rfl, o2, hb5⟩
            have hz5 := hb5.size
            refine hK.out _ _ (hB4.trans hb5) (fun hB5 => ?_)
            clear hK K
            try simp only [Act.put, List.setIfInBounds_toArray, List.set_cons_zero, List.set_cons_succ]
            replace o1 := o1.blw hb5
            replace r3 := r3.blw hb5
            replace r0 := r0.blw hb5
            refine wpAnyH_take (i := 11) (v := .agg #[.slice ao1 12 12, .slice ao2 12 12, .slice (some ⟨B3, 0, none⟩) 12 12]) rfl (by kernel_rfl) (by kernel_rfl) (by kernel_rfl) (fun _ _ _ h => h) (Or.inl ⟨by rfl, fun w' _ => by go_simp⟩) hB5 ?_
            simp only [Act.put, List.setIfInBounds_toArray, List.set_cons_zero, List.set_cons_succ]
            have c0 : w5.cell? ⟨B0, 0, none⟩ = some (.slice none 0 0) := r0.cell (by omega)
            have f0 : w5.frozen? ⟨B0, 0, none⟩ = false := r0.frozen 0
            have c1 : w5.cell? ⟨B0, 1, none⟩ = some (.slice none 0 0) := r0.cell (by omega)
            have f1 : w5.frozen? ⟨B0, 1, none⟩ = false := r0.frozen 1
            have c2 : w5.cell? ⟨B0, 2, none⟩ = some (.slice none 0 0) := r0.cell (by omega)
            have f2 : w5.frozen? ⟨B0, 2, none⟩ = false := r0.frozen 2
            refine wpAnyH_ready (rs := [13]) (by kernel_rfl) (by simp) ?_
            refine AllReadyH.cons rfl (fun K hK => ?_) AllReadyH.nil
            go_simp
            refine hK.out _ _ (((hB5.setCell (by show w0.heap.size ≤ B0; omega) _).setCell (by show w0.heap.size ≤ B0; omega) _).setCell (by show w0.heap.size ≤ B0; omega) _) (fun hBe => ?_)
            clear hK K c0 c1 c2 f0 f1 f2
            refine wpAnyH_done (by kernel_rfl) ?_ _
            refine NoPanic.normal ?_
            go_wp2
            go_meet
            case rel => exact ⟨B0, B3, ao1, ao2, _, _, rfl, gave_end r0 r3 o1 o2 hBe (fun b hb => by obtain ⟨x, y⟩ := hb; refine ⟨by omega, by omega, by omega, by omega, fun hh => by obtain ⟨u, v⟩ := hh; omega⟩) (fun b hb => by obtain ⟨x, y⟩ := hb; refine ⟨by omega, by omega, by omega, by omega⟩) (by omega) (by omega) (by omega) (by omega)⟩
  case rest =>
    obtain ⟨B0, B3, ao1, ao2, X1, X2, rfl, G⟩ := hcut
    have g2 := G.c2
    have r108 := h.blw G.blw
    have hbW := hbA.trans G.blw
    have rA' := rA.blw G.blw
    have hzB : w.heap.size ≠ B0 := by have := G.b0; omega
    have hzC : w.heap.size ≠ B3 := by have := G.b3; omega
    clear h m1
    go_wp2
    go_region_law (refine step_copy_fn rfl (.tmp 17) (.tmp 21) 24 24 rfl 4 Try.underlying24 info4s B3 0 12 12 ⟨b, 96, none⟩ 12 12 rfl rfl 12 (fun t => .bool (d t)) 12 (fun _ => .bool false) rfl (fun j hj => by rw [Addr.add_mid]; exact (r108.cell (i := 96 + j) (by omega)).trans (by rw [hcell_d])) (fun _ _ => rfl) G.r3 (by omega) ?_; intro w2 hr2 hm2 hz2)
    have G2 := gave_copied G hr2 (Mod.trans ((Blw.refl wc).drew.mod _) hm2) (by simpa using hz2)
    have k0 := G2.1
    have k1 := G2.2.1
    have k2 := G2.2.2.1
    have M2 : Mod (fun x => x = B3) wc w2 := Mod.trans ((Blw.refl wc).drew.mod _) hm2
    have q0 : w2.cell? ⟨w.heap.size, 0, none⟩ = some (.slice none 0 0) := M2.cell (rA'.cell (by omega)) hzC
    have q1 : w2.cell? ⟨w.heap.size, 1, none⟩ = some (.slice none 0 0) := M2.cell (rA'.cell (by omega)) hzC
    have q2 : w2.cell? ⟨w.heap.size, 2, none⟩ = some (.slice none 0 0) := M2.cell (rA'.cell (by omega)) hzC
    have f0 : w2.frozen? ⟨w.heap.size, 0, none⟩ = false := (rA'.mod M2 hzC).frozen 0
    have f1 : w2.frozen? ⟨w.heap.size, 1, none⟩ = false := (rA'.mod M2 hzC).frozen 1
    have f2 : w2.frozen? ⟨w.heap.size, 2, none⟩ = false := (rA'.mod M2 hzC).frozen 2
    have own := G2.2.2.2.1
    have hbE := hbA.trans G2.2.2.2.2
    have hzE := G2.2.2.2.2.size
    clear hr2 hm2 hz2 g2 r108 G2 G M2 rA rA'
    go_wp2
    have hm3 : Mod (fun x => x = w.heap.size) w2 (((w2.setCell ⟨w.heap.size, 0, none⟩ (.slice ao1 12 12)).setCell ⟨w.heap.size, 1, none⟩ (.slice ao2 12 12)).setCell ⟨w.heap.size, 2, none⟩ (.slice (some ⟨B3, 0, none⟩) 12 12)) :=
      ((Mod.setCell (X := fun x => x = w.heap.size) w2 (p := ⟨w.heap.size, 0, none⟩) rfl _).trans (Mod.setCell (X := fun x => x = w.heap.size) _ (p := ⟨w.heap.size, 1, none⟩) rfl _)).trans (Mod.setCell (X := fun x => x = w.heap.size) _ (p := ⟨w.heap.size, 2, none⟩) rfl _)
    refine bodyPost_ret (v := .agg #[.slice ao1 12 12, .slice ao2 12 12, .slice (some ⟨B3, 0, none⟩) 12 12]) (by simp [results, Try.results79, go_sem, q0, q1, q2]) rfl ⟨⟨ao1, ao2, some ⟨B3, 0, none⟩, 12, 12, 12⟩, rfl, (own.mod hm3 (fun b hb => by have := hb.1; omega)).mono (fun b hb => ⟨by omega, by simpa using hb.2⟩), Mod.blw hbE hm3 (fun i hi => by omega)⟩
end Go.Proofs.Ytnbcjdoohmjghaa
/- A slice of lines that is built by append, a line at a time. -/
namespace Go.Proofs.Ytnbcjdoohmjghaa
open Go.RowKit

abbrev lineCells (F c len : Nat → Nat) (n : Nat) : List Value := (List.range n).map fun i => .slice (some ⟨F i, 0, none⟩) (len i) (c i)
/-- The slice value v owns n lines, all in blocks of X: for the functions F (the lines' blocks) and c (their capacities). -/
structure BldF (X : Nat → Prop) (w : World) (v : Value) (n : Nat) (len : Nat → Nat) (val : Nat → Nat → Int) (F c : Nat → Nat) : Prop where
  own : w.ownsRow 0 37 1 v n (lineCells F c len n)
  blk : ∀ g, v.ownBlock = some g → X g
  row : ∀ i, i < n → X (F i) ∧ v.ownBlock ≠ some (F i) ∧ len i ≤ 9223372036854775807 ∧ Row w (F i) (len i) (fun t => .int .i64 (val i t))
  dif : ∀ i j, i < n → j < n → i ≠ j → F i ≠ F j

theorem ownsRow_mod {w w' : World} {Z : Nat → Prop} {v : Value} {n : Nat} {xs : List Value} {e : TypeId} (h : w.ownsRow 0 e 1 v n xs) (hm : Mod Z w w') (hz : ∀ g, v.ownBlock = some g → ¬ Z g) : w'.ownsRow 0 e 1 v n xs := by
  obtain ⟨h1, h2⟩ := h
  refine ⟨h1, ?_⟩
  rcases h2 with h2 | ⟨g, cap, cur, rfl, hg, hh, r⟩
  · exact Or.inl h2
  · refine Or.inr ⟨g, cap, cur, rfl, hg, ?_, r⟩
    rw [hm.block g (Array.getElem?_eq_some_iff.1 hh).1 (hz g rfl)]
    exact hh
theorem BldF.mod {X Z : Nat → Prop} {w w' : World} {v : Value} {n : Nat} {len : Nat → Nat} {val : Nat → Nat → Int} {F c : Nat → Nat} (h : BldF X w v n len val F c) (hm : Mod Z w w') (hxz : ∀ b, X b → ¬ Z b) : BldF X w' v n len val F c :=
  ⟨ownsRow_mod h.own hm (fun g hg => hxz g (h.blk g hg)), h.blk, fun i hi => let ⟨a, b, c, d⟩ := h.row i hi; ⟨a, b, c, d.mod hm (hxz _ a)⟩, h.dif⟩
theorem BldF.blw {X : Nat → Prop} {w w' : World} {v : Value} {n : Nat} {len : Nat → Nat} {val : Nat → Nat → Int} {F c : Nat → Nat} (h : BldF X w v n len val F c) (hm : Blw w w') : BldF X w' v n len val F c :=
  h.mod (hm.mod (fun _ => False)) (fun _ _ => id)
theorem bld_nil (X : Nat → Prop) (w : World) (len : Nat → Nat) (val : Nat → Nat → Int) : BldF X w (.slice none 0 0) 0 len val (fun _ => 0) (fun _ => 0) :=
  ⟨⟨by simp, Or.inl ⟨rfl, rfl⟩⟩, fun g hg => by simp [Value.ownBlock] at hg, fun i hi => absurd hi (Nat.not_lt_zero _), fun i j hi => absurd hi (Nat.not_lt_zero _)⟩
theorem grown_mod {w w' : World} {v : Value} (h : w.grownBy w' v.ownBlock) : Mod (fun x => v.ownBlock = some x) w w' :=
  ⟨h.os, h.tape, h.output, h.size, fun k hk hx => h.block k hk (fun e => hx e.symm)⟩
/-- One line more. -/
theorem BldF.append {X : Nat → Prop} {w w' : World} {v : Value} {n : Nat} {len : Nat → Nat} {val : Nat → Nat → Int} {F c : Nat → Nat} (h : BldF X w v n len val F c) {b cc g cap : Nat}
    (hb : Row w b (len n) (fun t => .int .i64 (val n t))) (hbx : ¬ X b) (hl : len n ≤ 9223372036854775807)
    (own' : w'.ownsRow 0 37 1 (.slice (some ⟨g, 0, none⟩) (n + 1) cap) (n + 1) (lineCells F c len n ++ [.slice (some ⟨b, 0, none⟩) (len n) cc]))
    (gr : w.grownBy w' v.ownBlock) (hg : v.ownBlock = some g ∨ g = w.heap.size) :
    BldF (fun x => X x ∨ x = b ∨ x = g) w' (.slice (some ⟨g, 0, none⟩) (n + 1) cap) (n + 1) len val (fun i => if i < n then F i else b) (fun i => if i < n then c i else cc) := by
  have hm := grown_mod gr
  have hvb : v.ownBlock ≠ some b := fun e => hbx (h.blk b e)
  have hgb : g ≠ b := by
    rcases hg with hg | hg
    · intro e; subst e; exact hvb hg
    · have := hb.lt; omega
  refine ⟨?_, fun g' hg' => ?_, fun i hi => ?_, fun i j hi hj hij => ?_⟩
  · have e : lineCells F c len n ++ [.slice (some ⟨b, 0, none⟩) (len n) cc] = lineCells (fun i => if i < n then F i else b) (fun i => if i < n then c i else cc) len (n + 1) := by
      simp only [lineCells, List.range_succ, List.map_append, List.map_cons, List.map_nil]
      congr 1
      · refine List.map_congr_left fun i hi => ?_
        have : i < n := List.mem_range.1 hi
        simp [this]
      · simp
    rw [← e]
    exact own'
  · simp only [Value.ownBlock, Option.some.injEq] at hg'
    subst hg'
    exact Or.inr (Or.inr rfl)
  · by_cases e : i < n
    · obtain ⟨p1, p2, p3, p4⟩ := h.row i e
      simp only [e, if_true]
      refine ⟨Or.inl p1, ?_, p3, p4.mod hm (fun hh => p2 hh)⟩
      simp only [Value.ownBlock, ne_eq, Option.some.injEq]
      rcases hg with hg | hg
      · intro hh; subst hh; exact p2 hg
      · have := p4.lt; omega
    · obtain rfl : i = n := by omega
      simp only [Nat.lt_irrefl, if_false]
      exact ⟨Or.inr (Or.inl trivial), by simpa [Value.ownBlock] using hgb, hl, hb.mod hm hvb⟩
  · show (if i < n then F i else b) ≠ if j < n then F j else b
    by_cases e1 : i < n <;> by_cases e2 : j < n
    · simp only [e1, e2, if_true]; exact h.dif i j e1 e2 hij
    · simp only [e1, e2, if_true, if_false]; intro hh; exact hbx (hh ▸ (h.row i e1).1)
    · simp only [e1, e2, if_true, if_false]; intro hh; exact hbx (hh ▸ (h.row j e2).1)
    · omega
theorem BldF.lines {X : Nat → Prop} {w : World} {ao : Option Addr} {n cap : Nat} {len : Nat → Nat} {val : Nat → Nat → Int} {F c : Nat → Nat} (h : BldF X w (.slice ao n cap) n len val F c) (hn : n ≤ 9223372036854775807) : LinesOwn X w ao n len val := by
  refine ⟨hn, fun h0 => ?_⟩
  obtain ⟨h1, h2⟩ := h.own
  rcases h2 with ⟨_, h2⟩ | ⟨g, cap', cur, hv, hg, hh, hcap, _, hsz, ht⟩
  · omega
  · simp only [Value.slice.injEq] at hv
    obtain ⟨rfl, _, rfl⟩ := hv
    refine ⟨g, F, c, h.blk g rfl, rfl, ⟨cur, 37, hh, by omega, fun i hi => ?_⟩, fun i hi => ?_, h.dif⟩
    · have : (cur.toList.take (n * 1))[i]? = cur[i]? := by rw [List.getElem?_take, if_pos (by omega)]; simp
      rw [← this, ht, List.getElem?_map, List.getElem?_range hi]
      rfl
    · obtain ⟨p1, p2, p3, p4⟩ := h.row i hi
      exact ⟨p3, p1, fun e => p2 (by simp [Value.ownBlock, e]), p4⟩
/-- A list that is built is a slice of so many. -/
theorem bld_shape {X : Nat → Prop} {w : World} {v : Value} {n : Nat} {len : Nat → Nat} {val : Nat → Nat → Int} {F c : Nat → Nat} (h : BldF X w v n len val F c) : ∃ ao cap, v = .slice ao n cap := by
  obtain ⟨_, h2⟩ := h.own
  rcases h2 with ⟨rfl, rfl⟩ | ⟨g, cap', cur, rfl, _⟩
  · exact ⟨_, _, rfl⟩
  · exact ⟨_, _, rfl⟩
theorem info37' : (Try.prog.info? 37).map (fun i => (i.zero, i.size, i.bytes)) = some (some (.agg #[.slice none 0 0]), 1, 24) := by kernel_rfl
/-- 'out.Lines = append(out.Lines, line)': as a step of a region that draws its order. -/
theorem step_append_line {ops : Array Oper} {o : Oper} {a : Act} {w : World} {K : Act → World → Prop} {Q : Exit → Act → World → Prop} {E : Prop} (hgd : o.guard = none) (s x : Operand)
    (ho : o.op = .call { callee := .builtin .append, args := #[s, x], argTypes := #[23, 23] }) {X : Nat → Prop} {wr : World} {v : Value} {n : Nat} {len : Nat → Nat} {val : Nat → Nat → Int} {F c : Nat → Nat} (B : BldF X wr v n len val F c)
    (hs : a.eval s = v) (ad : Addr) (b cc : Nat) (hx : a.eval x = .slice (some ad) 1 1) (hn : n ≤ 1048576) (hl : len n ≤ 9223372036854775807) (hbx : ¬ X b)
    (hbw : Blw wr w) (hnew : w.cell? ad = some (.slice (some ⟨b, 0, none⟩) (len n) cc)) (hrow : Row w b (len n) (fun t => .int .i64 (val n t)))
    (h : ∀ g cap w', BldF (fun x => X x ∨ x = b ∨ x = g) w' (.slice (some ⟨g, 0, none⟩) (n + 1) cap) (n + 1) len val (fun i => if i < n then F i else b) (fun i => if i < n then c i else cc) →
      Mod (fun x => v.ownBlock = some x) w w' → (v.ownBlock = some g ∨ g = w.heap.size) → g < w'.heap.size → K (a.put o.dst (.slice (some ⟨g, 0, none⟩) (n + 1) cap)) w') :
    if Region.wanted o (yielded ops a.tmps) = true then Oper.wp Try.prog o a w K Q else E := by
  obtain ⟨i0, hi, hz0, hz1, hz2⟩ := info_parts info37'
  have B' := B.blw hbw
  refine step_append_lies w hgd s x 23 ho 0 37 i0 (.agg #[.slice none 0 0]) 1 24 Try.underlying23 hi hz0 hz1 hz2 rfl (by decide) v n _ hs B'.own ad 1 1 [.slice (some ⟨b, 0, none⟩) (len n) cc] hx rfl ?_ ?_ (by decide) ?_ ?_ (Nat.zero_le _) _ rfl ?_
  · intro j u hj
    match j, hj with
    | 0, hj => simp at hj; subst hj; simpa [Addr.add] using hnew
  · intro u hu
    simp at hu
    subst hu
    rfl
  · unfold maxLen; omega
  · omega
  · intro g cap w' own' gr hg hgl
    exact h g cap w' (B'.append hrow hbx hl own' gr hg) (grown_mod gr) hg hgl

/-- The memory that is being built: its own block M, its two lists, its marks. -/
structure Build (w wr : World) (M : Nat) (v1 v2 v3 : Value) (k1 k2 : Nat) (l1 l2 : Nat → Nat) (s c : Nat → Nat → Int) (X1 X2 : Nat → Prop) (F1 c1 F2 c2 : Nat → Nat) : Prop where
  blw : Blw w wr
  m : Row wr M 3 (fun i => if i = 0 then v1 else if i = 1 then v2 else v3)
  b1 : BldF X1 wr v1 k1 l1 s F1 c1
  b2 : BldF X2 wr v2 k2 l2 c F2 c2
  x1 : ∀ b, X1 b → w.heap.size ≤ b ∧ b < wr.heap.size ∧ b ≠ M ∧ ¬ X2 b
  x2 : ∀ b, X2 b → w.heap.size ≤ b ∧ b < wr.heap.size ∧ b ≠ M
  wm : w.heap.size ≤ M

theorem Build.cell0 {w wr : World} {M : Nat} {v1 v2 v3 : Value} {k1 k2 : Nat} {l1 l2 : Nat → Nat} {s c : Nat → Nat → Int} {X1 X2 : Nat → Prop} {F1 c1 F2 c2 : Nat → Nat} (B : Build w wr M v1 v2 v3 k1 k2 l1 l2 s c X1 X2 F1 c1 F2 c2) : wr.cell? ⟨M, 0, none⟩ = some v1 := by
  simpa using B.m.cell (i := 0) (by omega)
theorem Build.cell1 {w wr : World} {M : Nat} {v1 v2 v3 : Value} {k1 k2 : Nat} {l1 l2 : Nat → Nat} {s c : Nat → Nat → Int} {X1 X2 : Nat → Prop} {F1 c1 F2 c2 : Nat → Nat} (B : Build w wr M v1 v2 v3 k1 k2 l1 l2 s c X1 X2 F1 c1 F2 c2) : wr.cell? ⟨M, 1, none⟩ = some v2 := by
  simpa using B.m.cell (i := 1) (by omega)
theorem Build.cell2 {w wr : World} {M : Nat} {v1 v2 v3 : Value} {k1 k2 : Nat} {l1 l2 : Nat → Nat} {s c : Nat → Nat → Int} {X1 X2 : Nat → Prop} {F1 c1 F2 c2 : Nat → Nat} (B : Build w wr M v1 v2 v3 k1 k2 l1 l2 s c X1 X2 F1 c1 F2 c2) : wr.cell? ⟨M, 2, none⟩ = some v3 := by
  simpa using B.m.cell (i := 2) (by omega)

/-- The block of the memory itself, behind the append to a list. -/
theorem build_m1 {w wr w2 w' : World} {M : Nat} {v1 v2 v3 : Value} {k1 k2 : Nat} {l1 l2 : Nat → Nat} {s c : Nat → Nat → Int} {X1 X2 : Nat → Prop} {F1 c1 F2 c2 : Nat → Nat} (B : Build w wr M v1 v2 v3 k1 k2 l1 l2 s c X1 X2 F1 c1 F2 c2)
    (hb : Blw wr w2) (hm : Mod (fun x => v1.ownBlock = some x) w2 w') : Row w' M 3 (fun i => if i = 0 then v1 else if i = 1 then v2 else v3) :=
  (B.m.blw hb).mod hm (fun e => (B.x1 M (B.b1.blk M e)).2.2.1 rfl)
theorem build_m2 {w wr w2 w' : World} {M : Nat} {v1 v2 v3 : Value} {k1 k2 : Nat} {l1 l2 : Nat → Nat} {s c : Nat → Nat → Int} {X1 X2 : Nat → Prop} {F1 c1 F2 c2 : Nat → Nat} (B : Build w wr M v1 v2 v3 k1 k2 l1 l2 s c X1 X2 F1 c1 F2 c2)
    (hb : Blw wr w2) (hm : Mod (fun x => v2.ownBlock = some x) w2 w') : Row w' M 3 (fun i => if i = 0 then v1 else if i = 1 then v2 else v3) :=
  (B.m.blw hb).mod hm (fun e => (B.x2 M (B.b2.blk M e)).2.2 rfl)
theorem build_q1 {w wr w2 w' : World} {M : Nat} {v1 v2 v3 : Value} {k1 k2 : Nat} {l1 l2 : Nat → Nat} {s c : Nat → Nat → Int} {X1 X2 : Nat → Prop} {F1 c1 F2 c2 : Nat → Nat} (B : Build w wr M v1 v2 v3 k1 k2 l1 l2 s c X1 X2 F1 c1 F2 c2)
    (hb : Blw wr w2) (hm : Mod (fun x => v1.ownBlock = some x) w2 w') : w'.cell? ⟨M, 0, none⟩ = some v1 ∧ w'.frozen? ⟨M, 0, none⟩ = false :=
  ⟨by simpa using (build_m1 B hb hm).cell (i := 0) (by omega), (build_m1 B hb hm).frozen 0⟩
theorem build_q2 {w wr w2 w' : World} {M : Nat} {v1 v2 v3 : Value} {k1 k2 : Nat} {l1 l2 : Nat → Nat} {s c : Nat → Nat → Int} {X1 X2 : Nat → Prop} {F1 c1 F2 c2 : Nat → Nat} (B : Build w wr M v1 v2 v3 k1 k2 l1 l2 s c X1 X2 F1 c1 F2 c2)
    (hb : Blw wr w2) (hm : Mod (fun x => v2.ownBlock = some x) w2 w') : w'.cell? ⟨M, 1, none⟩ = some v2 ∧ w'.frozen? ⟨M, 1, none⟩ = false :=
  ⟨by simpa using (build_m2 B hb hm).cell (i := 1) (by omega), (build_m2 B hb hm).frozen 1⟩
/-- Behind the append to the first list, and its store. -/
theorem build_first {w wr w2 w' : World} {M : Nat} {v1 v2 v3 v1' : Value} {k1 k2 : Nat} {l1 l2 : Nat → Nat} {s c : Nat → Nat → Int} {X1 X2 : Nat → Prop} {F1 c1 F2 c2 F1' c1' : Nat → Nat} {b g : Nat} (B : Build w wr M v1 v2 v3 k1 k2 l1 l2 s c X1 X2 F1 c1 F2 c2)
    (hb : Blw wr w2) (hlo : wr.heap.size ≤ b) (hhi : b < w2.heap.size) (hN : BldF (fun x => X1 x ∨ x = b ∨ x = g) w' v1' (k1 + 1) l1 s F1' c1') (hm : Mod (fun x => v1.ownBlock = some x) w2 w') (hg : v1.ownBlock = some g ∨ g = w2.heap.size) (hgl : g < w'.heap.size) :
    Build w (w'.setCell ⟨M, 0, none⟩ v1') M v1' v2 v3 (k1 + 1) k2 l1 l2 s c (fun x => X1 x ∨ x = b ∨ x = g) X2 F1' c1' F2 c2 := by
  have r := build_m1 B hb hm
  have hM : M < wr.heap.size := B.m.lt
  have hmM : Mod (fun x => x = M) w' (w'.setCell ⟨M, 0, none⟩ v1') := Mod.setCell (X := fun x => x = M) w' (p := ⟨M, 0, none⟩) rfl _
  have hz : (w'.setCell ⟨M, 0, none⟩ v1').heap.size = w'.heap.size := by simp
  have hs1 := hb.size
  have hs2 := hm.size
  have hX : ∀ x, (X1 x ∨ x = b ∨ x = g) → w.heap.size ≤ x ∧ x < w'.heap.size ∧ x ≠ M ∧ ¬ X2 x := by
    intro x hx
    have base : ∀ y, X1 y → w.heap.size ≤ y ∧ y < w'.heap.size ∧ y ≠ M ∧ ¬ X2 y := fun y hy => by
      have := B.x1 y hy
      exact ⟨this.1, by omega, this.2.2⟩
    have big : ∀ y, wr.heap.size ≤ y → y < w'.heap.size → w.heap.size ≤ y ∧ y < w'.heap.size ∧ y ≠ M ∧ ¬ X2 y := fun y h1 h2 =>
      ⟨by have := B.blw.size; omega, h2, by omega, fun h3 => by have := (B.x2 y h3).2.1; omega⟩
    rcases hx with hx | hx | hx
    · exact base x hx
    · subst hx; exact big _ hlo (by omega)
    · subst hx
      rcases hg with hg | hg
      · exact base _ (B.b1.blk _ hg)
      · subst hg; exact big _ (by omega) hgl
  refine ⟨?_, (r.set 0 v1').congr (fun i hi => ?_), hN.mod hmM (fun x hx => (hX x hx).2.2.1), ((B.b2.blw hb).mod hm (fun x hx e => (B.x1 x (B.b1.blk x e)).2.2.2 hx)).mod hmM (fun x hx => (B.x2 x hx).2.2), ?_, ?_, B.wm⟩
  · exact Mod.blw (Mod.blw (B.blw.trans hb) hm (fun i hi => (B.x1 i (B.b1.blk i hi)).1)) hmM (fun i hi => by rw [hi]; exact B.wm)
  · by_cases e : i = 0
    · simp [e]
    · simp [e]
  · rw [hz]; exact hX
  · rw [hz]
    intro x hx
    have := B.x2 x hx
    exact ⟨this.1, by omega, this.2.2⟩
/-- Behind the append to the second list, and its store. -/
theorem build_second {w wr w2 w' : World} {M : Nat} {v1 v2 v3 v2' : Value} {k1 k2 : Nat} {l1 l2 : Nat → Nat} {s c : Nat → Nat → Int} {X1 X2 : Nat → Prop} {F1 c1 F2 c2 F2' c2' : Nat → Nat} {b g : Nat} (B : Build w wr M v1 v2 v3 k1 k2 l1 l2 s c X1 X2 F1 c1 F2 c2)
    (hb : Blw wr w2) (hlo : wr.heap.size ≤ b) (hhi : b < w2.heap.size) (hN : BldF (fun x => X2 x ∨ x = b ∨ x = g) w' v2' (k2 + 1) l2 c F2' c2') (hm : Mod (fun x => v2.ownBlock = some x) w2 w') (hg : v2.ownBlock = some g ∨ g = w2.heap.size) (hgl : g < w'.heap.size) :
    Build w (w'.setCell ⟨M, 1, none⟩ v2') M v1 v2' v3 k1 (k2 + 1) l1 l2 s c X1 (fun x => X2 x ∨ x = b ∨ x = g) F1 c1 F2' c2' := by
  have r := build_m2 B hb hm
  have hM : M < wr.heap.size := B.m.lt
  have hmM : Mod (fun x => x = M) w' (w'.setCell ⟨M, 1, none⟩ v2') := Mod.setCell (X := fun x => x = M) w' (p := ⟨M, 1, none⟩) rfl _
  have hz : (w'.setCell ⟨M, 1, none⟩ v2').heap.size = w'.heap.size := by simp
  have hs1 := hb.size
  have hs2 := hm.size
  have hX : ∀ x, (X2 x ∨ x = b ∨ x = g) → w.heap.size ≤ x ∧ x < w'.heap.size ∧ x ≠ M ∧ ¬ X1 x := by
    intro x hx
    have base : ∀ y, X2 y → w.heap.size ≤ y ∧ y < w'.heap.size ∧ y ≠ M ∧ ¬ X1 y := fun y hy => by
      have := B.x2 y hy
      exact ⟨this.1, by omega, this.2.2, fun h3 => (B.x1 y h3).2.2.2 hy⟩
    have big : ∀ y, wr.heap.size ≤ y → y < w'.heap.size → w.heap.size ≤ y ∧ y < w'.heap.size ∧ y ≠ M ∧ ¬ X1 y := fun y h1 h2 =>
      ⟨by have := B.blw.size; omega, h2, by omega, fun h3 => by have := (B.x1 y h3).2.1; omega⟩
    rcases hx with hx | hx | hx
    · exact base x hx
    · subst hx; exact big _ hlo (by omega)
    · subst hx
      rcases hg with hg | hg
      · exact base _ (B.b2.blk _ hg)
      · subst hg; exact big _ (by omega) hgl
  refine ⟨?_, (r.set 1 v2').congr (fun i hi => ?_), ((B.b1.blw hb).mod hm (fun x hx e => (B.x1 x hx).2.2.2 (B.b2.blk x e))).mod hmM (fun x hx => (B.x1 x hx).2.2.1), hN.mod hmM (fun x hx => (hX x hx).2.2.1), ?_, ?_, B.wm⟩
  · exact Mod.blw (Mod.blw (B.blw.trans hb) hm (fun i hi => (B.x2 i (B.b2.blk i hi)).1)) hmM (fun i hi => by rw [hi]; exact B.wm)
  · by_cases e : i = 1
    · simp [e]
    · simp [e]
  · rw [hz]
    intro x hx
    have := B.x1 x hx
    exact ⟨this.1, by omega, this.2.2.1, fun h3 => (hX x h3).2.2.2 hx⟩
  · rw [hz]
    exact fun x hx => let h := hX x hx; ⟨h.1, h.2.1, h.2.2.1⟩
end Go.Proofs.Ytnbcjdoohmjghaa
/- 'spec.NewMemory': what it answers. -/
namespace Go.Proofs.Ytnbcjdoohmjghaa
open Go.RowKit
theorem mk4' (w : World) : (Instr.makeSlice 27 (.int .i64 4) (.int .i64 4)).run Try.prog w = .ok (.slice (some ⟨w.heap.size, 0, none⟩) 4 4) (w.alloc (.cells (madeCells #[.int .i64 0] 4) 3)) := by kernel_rfl
theorem mkb12' (w : World) : (Instr.makeSlice 24 (.int .i64 12) (.int .i64 12)).run Try.prog w = .ok (.slice (some ⟨w.heap.size, 0, none⟩) 12 12) (w.alloc (.cells (madeCells #[.bool false] 12) 4)) := by kernel_rfl

theorem row3 {w : World} {M : Nat} {a b c : Value} {t : TypeId} (h : w.heap[M]? = some (.cells #[a, b, c] t (0, 0))) : Row w M 3 (fun i => if i = 0 then a else if i = 1 then b else c) :=
  ⟨_, t, h, by simp, fun i hi => by
    match i, hi with
    | 0, _ => rfl
    | 1, _ => rfl
    | 2, _ => rfl⟩
/-- A memory of twelve lines of four words, all 0. -/
def MD.full' (s c : Nat → Nat → Int) (d : Nat → Bool) : MD := ⟨12, 12, 12, fun _ => 4, fun _ => 4, s, c, d⟩
abbrev zeros : Nat → Nat → Int := fun _ _ => 0

theorem snew_start (w wA : World) (h : wA.heap.size = w.heap.size + 1 + 1) : ∃ X1 X2 F1 c1 F2 c2,
    Build wA (wA.alloc (.cells #[.slice none 0 0, .slice none 0 0, .slice (some ⟨w.heap.size + 1, 0, none⟩) 12 12] 26)) (w.heap.size + 1 + 1) (.slice none 0 0) (.slice none 0 0) (.slice (some ⟨w.heap.size + 1, 0, none⟩) 12 12) 0 0 (fun _ => 4) (fun _ => 4) zeros zeros X1 X2 F1 c1 F2 c2 := by
  refine ⟨fun _ => False, fun _ => False, _, _, _, _, (Blw.refl _).alloc _, row3 (t := 26) ?_, bld_nil _ _ _ _, bld_nil _ _ _ _, fun b hb => hb.elim, fun b hb => hb.elim, by omega⟩
  have := heap_alloc_new wA (.cells #[.slice none 0 0, .slice none 0 0, .slice (some ⟨w.heap.size + 1, 0, none⟩) 12 12] 26)
  rw [h] at this
  exact this
theorem row_box (w : World) (t : TypeId) : Row (w.alloc (.cells #[.slice none 0 0, .slice none 0 0, .slice none 0 0] t)) w.heap.size 3 (fun _ => .slice none 0 0) :=
  (row3 (heap_alloc_new _ _)).congr fun i _ => by simp

theorem snew_end {w wA wr we : World} {a1 a2 : Option Addr} {d1 d2 : Nat} {X1 X2 : Nat → Prop} {F1 c1 F2 c2 : Nat → Nat}
    (B : Build wA wr (w.heap.size + 1 + 1) (.slice a1 12 d1) (.slice a2 12 d2) (.slice (some ⟨w.heap.size + 1, 0, none⟩) 12 12) 12 12 (fun _ => 4) (fun _ => 4) zeros zeros X1 X2 F1 c1 F2 c2)
    (hm : Mod (fun x => x = w.heap.size) wr we) (rD : Row wA (w.heap.size + 1) 12 (fun _ => .bool false)) (hz : wA.heap.size ≤ wr.heap.size) (he : we.heap.size = wr.heap.size) (hzA : wA.heap.size = w.heap.size + 1 + 1) :
    MemAt (fun b => w.heap.size ≤ b ∧ b < we.heap.size) we ⟨a1, a2, some ⟨w.heap.size + 1, 0, none⟩, d1, d2, 12⟩ (MD.full' zeros zeros (fun _ => false)) := by
  have n1 : ∀ b, X1 b → ¬ b = w.heap.size := fun b hb => by have := (B.x1 b hb).1; omega
  have n2 : ∀ b, X2 b → ¬ b = w.heap.size := fun b hb => by have := (B.x2 b hb).1; omega
  refine ⟨((B.b1.mod hm n1).lines (by omega)).at.mono (fun b hb => ?_), ((B.b2.mod hm n2).lines (by omega)).at.mono (fun b hb => ?_), ⟨by show 12 ≤ _; omega, fun i hi => ⟨_, _, rfl, ⟨by omega, by omega⟩, ?_⟩⟩⟩
  · have := B.x1 b hb
    exact ⟨by omega, by omega⟩
  · have := B.x2 b hb
    exact ⟨by omega, by omega⟩
  · rw [Nat.zero_add]
    exact ((rD.blw B.blw).mod hm (by omega)).cell hi
set_option maxRecDepth 10000 in
set_option maxHeartbeats 1600000 in
theorem specNew_any (w : World) : Calls Try.prog 29 #[] w fun e w' => ∃ m : MV, e = .returned (m.val (MD.full' zeros zeros (fun _ => false))) ∧ MemAt (fun b => w.heap.size ≤ b ∧ b < w'.heap.size) w' m (MD.full' zeros zeros (fun _ => false)) ∧ Blw w w' := by
  have m1 := mk4'
  have m2 := mkb12'
  go_enter Try.func29, Try.ntmps29
  go_wp2
  have hbA : Blw w ((w.alloc (.cells #[.slice none 0 0, .slice none 0 0, .slice none 0 0] 26)).alloc (.cells (madeCells #[.bool false] 12) 4)) := ((Blw.refl _).alloc _).alloc _
  have rX : Row ((w.alloc (.cells #[.slice none 0 0, .slice none 0 0, .slice none 0 0] 26)).alloc (.cells (madeCells #[.bool false] 12) 4)) w.heap.size 3 (fun _ => .slice none 0 0) := (row_box w 26).blw ((Blw.refl _).alloc _)
  have rD : Row ((w.alloc (.cells #[.slice none 0 0, .slice none 0 0, .slice none 0 0] 26)).alloc (.cells (madeCells #[.bool false] 12) 4)) (w.heap.size + 1) 12 (fun _ => .bool false) := by
    simpa using Row.made (w.alloc (.cells #[.slice none 0 0, .slice none 0 0, .slice none 0 0] 26)) (.bool false) 12 4
  have hzA : ((w.alloc (.cells #[.slice none 0 0, .slice none 0 0, .slice none 0 0] 26)).alloc (.cells (madeCells #[.bool false] 12) 4)).heap.size = w.heap.size + 1 + 1 := by simp
  revert hbA rX rD hzA
  generalize (w.alloc (.cells #[.slice none 0 0, .slice none 0 0, .slice none 0 0] 26)).alloc (.cells (madeCells #[.bool false] 12) 4) = wA
  intro hbA rX rD hzA
  have hS := snew_start w wA hzA
  go_loopw [2] (fun i wr => ∃ k v1 v2 X1 X2 F1 c1 F2 c2, k ≤ 12 ∧ i = .int .i64 (k : Nat) ∧ Build wA wr (w.heap.size + 1 + 1) v1 v2 (.slice (some ⟨w.heap.size + 1, 0, none⟩) 12 12) k k (fun _ => 4) (fun _ => 4) zeros zeros X1 X2 F1 c1 F2 c2) (fun i _ => 12 - (intOf i).toNat)
  case atStart =>
    obtain ⟨X1, X2, F1, c1, F2, c2, h⟩ := hS
    exact ⟨0, _, _, X1, X2, F1, c1, F2, c2, by omega, rfl, h⟩
  case round =>
    obtain ⟨k, v1, v2, X1, X2, F1, c1, F2, c2, hk, rfl, B⟩ := hrel
    clear hS
    by_cases hlt : k < 12
    · have p0 := B.cell0
      have p0a : ∀ o, (wr.alloc o).cell? ⟨w.heap.size + 1 + 1, 0, none⟩ = some v1 := fun o => ((Blw.refl wr).alloc o).cell p0
      have p0b : ∀ o o', ((wr.alloc o).alloc o').cell? ⟨w.heap.size + 1 + 1, 0, none⟩ = some v1 := fun o o' => (((Blw.refl wr).alloc o).alloc o').cell p0
      go_wp2
      go_cut [] from 5 to 22 (fun wc => ∃ v1 X1 F1 c1, Build wA wc (w.heap.size + 1 + 1) v1 v2 (.slice (some ⟨w.heap.size + 1, 0, none⟩) 12 12) (k + 1) k (fun _ => 4) (fun _ => 4) zeros zeros X1 X2 F1 c1 F2 c2)
      case first =>
        go_region_law (refine step_append_line rfl (.tmp 10) (.tmp 13) rfl B.b1 rfl ⟨wr.heap.size + 1, 0, none⟩ wr.heap.size 4 rfl (by omega) (by omega) (fun h => by have := (B.x1 _ h).2.1; omega) (by repeat (first | exact Blw.refl _ | apply Blw.drew | apply Blw.alloc)) (by go_cell) ((Row.made wr (.int .i64 0) 4 3).blw (by repeat (first | exact Blw.refl _ | apply Blw.drew | apply Blw.alloc))) ?_; intro g cap w' hN hm hg hgl; have B1 := build_first B (by repeat (first | exact Blw.refl _ | apply Blw.drew | apply Blw.alloc)) (Nat.le_refl _) (by simp <;> omega) hN hm hg hgl; have Q1 := build_q1 B (by repeat (first | exact Blw.refl _ | apply Blw.drew | apply Blw.alloc)) hm; obtain ⟨q0, q1⟩ := Q1; clear hN hm hg hgl)
        all_goals go_wp2
        all_goals go_meet
        all_goals exact ⟨_, _, _, _, by assumption⟩
      case rest =>
        obtain ⟨v1', X1', F1', c1', B'⟩ := hcut
        clear B p0 p0a p0b
        have p1 := B'.cell1
        have p1a : ∀ o, (wc.alloc o).cell? ⟨w.heap.size + 1 + 1, 1, none⟩ = some v2 := fun o => ((Blw.refl wc).alloc o).cell p1
        have p1b : ∀ o o', ((wc.alloc o).alloc o').cell? ⟨w.heap.size + 1 + 1, 1, none⟩ = some v2 := fun o o' => (((Blw.refl wc).alloc o).alloc o').cell p1
        go_wp2
        go_region_law (refine step_append_line rfl (.tmp 17) (.tmp 20) rfl B'.b2 rfl ⟨wc.heap.size + 1, 0, none⟩ wc.heap.size 4 rfl (by omega) (by omega) (fun h => by have := (B'.x2 _ h).2.1; omega) (by repeat (first | exact Blw.refl _ | apply Blw.drew | apply Blw.alloc)) (by go_cell) ((Row.made wc (.int .i64 0) 4 3).blw (by repeat (first | exact Blw.refl _ | apply Blw.drew | apply Blw.alloc))) ?_; intro g cap w' hN hm hg hgl; have B1 := build_second B' (by repeat (first | exact Blw.refl _ | apply Blw.drew | apply Blw.alloc)) (Nat.le_refl _) (by simp <;> omega) hN hm hg hgl; have Q1 := build_q2 B' (by repeat (first | exact Blw.refl _ | apply Blw.drew | apply Blw.alloc)) hm; obtain ⟨q0, q1⟩ := Q1; clear hN hm hg hgl)
        all_goals go_wp2
        all_goals go_roundw
        all_goals first | exact ⟨k + 1, _, _, _, _, _, _, _, _, by omega, by go_num, by assumption⟩ | (simp [intOf]; omega)
    · obtain rfl : k = 12 := by omega
      have p0 := B.cell0
      have p1 := B.cell1
      have p2 := B.cell2
      have rX' := rX.blw B.blw
      have hz := B.blw.size
      have x0 : wr.cell? ⟨w.heap.size, 0, none⟩ = some (.slice none 0 0) := rX'.cell (by omega)
      have x1 : wr.cell? ⟨w.heap.size, 1, none⟩ = some (.slice none 0 0) := rX'.cell (by omega)
      have x2 : wr.cell? ⟨w.heap.size, 2, none⟩ = some (.slice none 0 0) := rX'.cell (by omega)
      have f0 := rX'.frozen 0
      have f1 := rX'.frozen 1
      have f2 := rX'.frozen 2
      obtain ⟨a1, d1, e1⟩ := bld_shape B.b1
      obtain ⟨a2, d2, e2⟩ := bld_shape B.b2
      subst e1 e2
      go_wp2
      have hm3 : Mod (fun x => x = w.heap.size) wr (((wr.setCell ⟨w.heap.size, 0, none⟩ (.slice a1 12 d1)).setCell ⟨w.heap.size, 1, none⟩ (.slice a2 12 d2)).setCell ⟨w.heap.size, 2, none⟩ (.slice (some ⟨w.heap.size + 1, 0, none⟩) 12 12)) :=
        ((Mod.setCell (X := fun x => x = w.heap.size) wr (p := ⟨w.heap.size, 0, none⟩) rfl _).trans (Mod.setCell (X := fun x => x = w.heap.size) _ (p := ⟨w.heap.size, 1, none⟩) rfl _)).trans (Mod.setCell (X := fun x => x = w.heap.size) _ (p := ⟨w.heap.size, 2, none⟩) rfl _)
      refine bodyPost_ret (v := .agg #[.slice a1 12 d1, .slice a2 12 d2, .slice (some ⟨w.heap.size + 1, 0, none⟩) 12 12]) (by simp [results, Try.results29, go_sem, x0, x1, x2]) rfl ⟨⟨a1, a2, some ⟨w.heap.size + 1, 0, none⟩, d1, d2, 12⟩, rfl, snew_end B hm3 rD (by omega) (by simp) hzA, Mod.blw (hbA.trans B.blw) hm3 (fun i hi => by omega)⟩
end Go.Proofs.Ytnbcjdoohmjghaa
/- What 'eqMemory' and its parts answer where both sides read alike: true. -/
namespace Go.Proofs.Ytnbcjdoohmjghaa
open Go.RowKit
set_option maxHeartbeats 400000 in
theorem eqIntS_same (a1 a2 : Option Addr) (c1 c2 : Nat) (n0 : Nat) (f : Nat → Int) {Y Z : Nat → Prop} (w : World) (h1 : IntsAt Y w a1 n0 f) (h2 : IntsAt Z w a2 n0 f) :
    Calls Try.prog 136 #[.slice a1 n0 c1, .slice a2 n0 c2] w fun e w' => e = .returned (.bool true) ∧ ∃ n, w' = w.drewN n := by
  obtain ⟨hl, h1⟩ := h1
  obtain ⟨-, h2⟩ := h2
  go_enter Try.func136, Try.ntmps136
  go_wp2
  go_loopw [5] (fun i wr => ∃ k n : Nat, k ≤ n0 ∧ i = .int .i64 k ∧ wr = w.drewN n) (fun i _ => n0 - (intOf i).toNat)
  case atStart => exact ⟨0, 0, Nat.zero_le _, rfl, rfl⟩
  case round =>
    obtain ⟨k, n, hk, rfl, rfl⟩ := hrel
    by_cases hlt : k < n0
    · obtain ⟨b, o, rfl, -, g1⟩ := h1 k hlt
      obtain ⟨b', o', rfl, -, g2⟩ := h2 k hlt
      clear h1 h2
      go_wp2
      go_quiet (fail)
      go_wp2
      go_roundw
      case rel => exact ⟨k + 1, _, by omega, by go_num, rfl⟩
      case measure => simp [intOf]; omega
    · go_wp2
      go_ret
      exact ⟨rfl, n, rfl⟩
set_option maxHeartbeats 400000 in
theorem eqBoolS_same (a1 a2 : Option Addr) (c1 c2 : Nat) (n0 : Nat) (f : Nat → Bool) {Y Z : Nat → Prop} (w : World) (h1 : BoolsAt Y w a1 n0 f) (h2 : BoolsAt Z w a2 n0 f) :
    Calls Try.prog 118 #[.slice a1 n0 c1, .slice a2 n0 c2] w fun e w' => e = .returned (.bool true) ∧ ∃ n, w' = w.drewN n := by
  obtain ⟨hl, h1⟩ := h1
  obtain ⟨-, h2⟩ := h2
  go_enter Try.func118, Try.ntmps118
  go_wp2
  go_loopw [5] (fun i wr => ∃ k n : Nat, k ≤ n0 ∧ i = .int .i64 k ∧ wr = w.drewN n) (fun i _ => n0 - (intOf i).toNat)
  case atStart => exact ⟨0, 0, Nat.zero_le _, rfl, rfl⟩
  case round =>
    obtain ⟨k, n, hk, rfl, rfl⟩ := hrel
    by_cases hlt : k < n0
    · obtain ⟨b, o, rfl, -, g1⟩ := h1 k hlt
      obtain ⟨b', o', rfl, -, g2⟩ := h2 k hlt
      clear h1 h2
      go_wp2
      go_quiet (fail)
      go_wp2
      go_roundw
      case rel => exact ⟨k + 1, _, by omega, by go_num, rfl⟩
      case measure => simp [intOf]; omega
    · go_wp2
      go_ret
      exact ⟨rfl, n, rfl⟩
set_option maxHeartbeats 400000 in
theorem eqLine_same (a1 a2 : Option Addr) (c1 c2 : Nat) (n0 : Nat) (f : Nat → Int) {Y Z : Nat → Prop} (w : World) (h1 : IntsAt Y w a1 n0 f) (h2 : IntsAt Z w a2 n0 f) :
    Calls Try.prog 131 #[.agg #[.slice a1 n0 c1], .agg #[.slice a2 n0 c2]] w fun e w' => e = .returned (.bool true) ∧ Blw w w' := by
  go_enter Try.func131, Try.ntmps131
  go_wp2_with fail
  refine (eqIntS_same _ _ _ _ n0 f _ (h1.blw (((Blw.refl _).alloc _).alloc _)) (h2.blw (((Blw.refl _).alloc _).alloc _))).mono ?_
  rintro e w' ⟨rfl, n, rfl⟩
  go_wp2
  go_ret
  exact ⟨rfl, (((Blw.refl _).alloc _).alloc _).drewN _⟩
set_option maxHeartbeats 800000 in
theorem eqLineS_same (a1 a2 : Option Addr) (c1 c2 : Nat) (n0 : Nat) (len : Nat → Nat) (f : Nat → Nat → Int) {Y Z : Nat → Prop} (w : World) (h1 : LinesAt Y w a1 n0 len f) (h2 : LinesAt Z w a2 n0 len f) :
    Calls Try.prog 117 #[.slice a1 n0 c1, .slice a2 n0 c2] w fun e w' => e = .returned (.bool true) ∧ Blw w w' := by
  obtain ⟨hl, h1⟩ := h1
  obtain ⟨-, h2⟩ := h2
  go_enter Try.func117, Try.ntmps117
  go_wp2
  go_loopw [5] (fun i wr => ∃ k : Nat, k ≤ n0 ∧ i = .int .i64 k ∧ Blw w wr) (fun i _ => n0 - (intOf i).toNat)
  case atStart => exact ⟨0, Nat.zero_le _, rfl, Blw.refl _⟩
  case round =>
    obtain ⟨k, hk, rfl, hb⟩ := hrel
    by_cases hlt : k < n0
    · obtain ⟨b, o, e, ce, rfl, -, g1, k1⟩ := h1 k hlt
      obtain ⟨b', o', e', ce', rfl, -, g2, k2⟩ := h2 k hlt
      replace g1 := hb.cell g1
      replace g2 := hb.cell g2
      replace k1 := k1.blw hb
      replace k2 := k2.blw hb
      clear h1 h2
      generalize len k = lk at *
      go_wp2
      go_region_with (go_at_call 131; refine (eqLine_same _ _ _ _ lk (f k) _ (k1.blw (Blw.refl _).drew) (k2.blw (Blw.refl _).drew)).mono ?_; rintro e w' ⟨rfl, hb2⟩)
      all_goals go_wp2
      all_goals go_roundw
      all_goals first | exact ⟨k + 1, by omega, by go_num, hb.trans ((Blw.refl _).drew.trans (by assumption))⟩ | (simp [intOf]; omega)
    · go_wp2
      go_ret
      exact ⟨rfl, hb⟩
set_option maxHeartbeats 800000 in
theorem eqMemory_same (m m' : MV) (M : MD) {Y Z : Nat → Prop} (w : World) (h1 : MemAt Y w m M) (h2 : MemAt Z w m' M) :
    Calls Try.prog 67 #[m.val M, m'.val M] w fun e w' => e = .returned (.bool true) ∧ Blw w w' := by
  obtain ⟨a1, a2, a3, c1, c2, c3⟩ := m
  obtain ⟨b1, b2, b3, d1, d2, d3⟩ := m'
  obtain ⟨n1, n2, n3, l1, l2, v1, v2, dd⟩ := M
  obtain ⟨s1, s2, s3⟩ := h1
  obtain ⟨t1, t2, t3⟩ := h2
  simp only [MV.val] at *
  go_enter Try.func67, Try.ntmps67
  go_wp2_with fail
  have hb0 : Blw w ((w.alloc (.cells #[.slice a1 n1 c1, .slice a2 n2 c2, .slice a3 n3 c3] 26)).alloc (.cells #[.slice b1 n1 d1, .slice b2 n2 d2, .slice b3 n3 d3] 26)) := ((Blw.refl _).alloc _).alloc _
  refine (eqLineS_same _ _ _ _ n1 l1 v1 _ (s1.blw hb0) (t1.blw hb0)).mono ?_
  rintro e w1 ⟨rfl, hb1⟩
  have p1 : w1.cell? ⟨w.heap.size, 1, none⟩ = some (.slice a2 n2 c2) := hb1.cell (by go_cell)
  have p2 : w1.cell? ⟨w.heap.size, 2, none⟩ = some (.slice a3 n3 c3) := hb1.cell (by go_cell)
  have q1 : w1.cell? ⟨w.heap.size + 1, 1, none⟩ = some (.slice b2 n2 d2) := hb1.cell (by go_cell)
  have q2 : w1.cell? ⟨w.heap.size + 1, 2, none⟩ = some (.slice b3 n3 d3) := hb1.cell (by go_cell)
  have hB1 : Blw w w1 := hb0.trans hb1
  clear hb0 hb1
  go_wp2_with fail
  refine (eqLineS_same _ _ _ _ n2 l2 v2 _ (s2.blw hB1) (t2.blw hB1)).mono ?_
  rintro e w2 ⟨rfl, hb2⟩
  replace p2 := hb2.cell p2
  replace q2 := hb2.cell q2
  have hB2 : Blw w w2 := hB1.trans hb2
  clear p1 q1 hB1 hb2
  go_wp2_with fail
  refine (eqBoolS_same _ _ _ _ n3 dd _ (s3.blw hB2) (t3.blw hB2)).mono ?_
  rintro e w3 ⟨rfl, n, rfl⟩
  go_wp2
  go_ret
  exact ⟨rfl, hB2.drewN _⟩
end Go.Proofs.Ytnbcjdoohmjghaa
/- 'impl.NewMemory', and the law on it. -/
namespace Go.Proofs.Ytnbcjdoohmjghaa
open Go.RowKit
theorem zero79 : Try.zeroCells98 = ((List.range 108).map (hcell zeros zeros (fun _ => false))).toArray := by kernel_rfl
theorem row79 (w : World) : Row (w.alloc (.cells Try.zeroCells98 98)) w.heap.size 108 (hcell zeros zeros (fun _ => false)) :=
  ⟨_, 98, heap_alloc_new _ _, by rw [zero79]; simp, fun i hi => by rw [zero79]; simp [hi]⟩
set_option maxHeartbeats 1600000 in
theorem implNew_any (w : World) : Calls Try.prog 28 #[] w fun e w' => ∃ m : MV, e = .returned (m.val (MD.full zeros zeros (fun _ => false))) ∧ MemOwn (fun b => w.heap.size ≤ b ∧ b < w'.heap.size) w' m (MD.full zeros zeros (fun _ => false)) ∧ Blw w w' := by
  go_enter Try.func28, Try.ntmps28
  go_wp2_with fail
  have hb : Blw w ((w.alloc (.cells #[.slice none 0 0, .slice none 0 0, .slice none 0 0] 26)).alloc (.cells Try.zeroCells98 98)) := ((Blw.refl _).alloc _).alloc _
  have r := row79 (w.alloc (.cells #[.slice none 0 0, .slice none 0 0, .slice none 0 0] 26))
  have rX : Row ((w.alloc (.cells #[.slice none 0 0, .slice none 0 0, .slice none 0 0] 26)).alloc (.cells Try.zeroCells98 98)) w.heap.size 3 (fun _ => .slice none 0 0) := (row_box w 26).blw ((Blw.refl _).alloc _)
  have hz : w.heap.size < ((w.alloc (.cells #[.slice none 0 0, .slice none 0 0, .slice none 0 0] 26)).alloc (.cells Try.zeroCells98 98)).heap.size := by simp; omega
  rw [World.size_alloc] at r
  refine (giveOut_any _ _ _ _ _ r).mono ?_
  rintro e w1 ⟨m, rfl, own, hb1⟩
  obtain ⟨a1, a2, a3, d1, d2, d3⟩ := m
  have rX' := rX.blw hb1
  have x0 : w1.cell? ⟨w.heap.size, 0, none⟩ = some (.slice none 0 0) := rX'.cell (by omega)
  have x1 : w1.cell? ⟨w.heap.size, 1, none⟩ = some (.slice none 0 0) := rX'.cell (by omega)
  have x2 : w1.cell? ⟨w.heap.size, 2, none⟩ = some (.slice none 0 0) := rX'.cell (by omega)
  have f0 := rX'.frozen 0
  have f1 := rX'.frozen 1
  have f2 := rX'.frozen 2
  simp only [MV.val, MD.full] at *
  go_wp2
  have hm3 : Mod (fun x => x = w.heap.size) w1 (((w1.setCell ⟨w.heap.size, 0, none⟩ (.slice a1 12 d1)).setCell ⟨w.heap.size, 1, none⟩ (.slice a2 12 d2)).setCell ⟨w.heap.size, 2, none⟩ (.slice a3 12 d3)) :=
    ((Mod.setCell (X := fun x => x = w.heap.size) w1 (p := ⟨w.heap.size, 0, none⟩) rfl _).trans (Mod.setCell (X := fun x => x = w.heap.size) _ (p := ⟨w.heap.size, 1, none⟩) rfl _)).trans (Mod.setCell (X := fun x => x = w.heap.size) _ (p := ⟨w.heap.size, 2, none⟩) rfl _)
  refine bodyPost_ret (v := .agg #[.slice a1 12 d1, .slice a2 12 d2, .slice a3 12 d3]) (by simp [results, Try.results28, go_sem, x0, x1, x2]) rfl ⟨⟨a1, a2, a3, d1, d2, d3⟩, rfl, (own.mod hm3 (fun b hb => by have := hb.1; omega)).mono (fun b hb => ⟨by omega, by simpa using hb.2⟩), Mod.blw (hb.trans hb1) hm3 (fun i hi => by omega)⟩

/-- The cells of a memory's own block. -/
theorem row_mem (w : World) (a b c : Value) (t : TypeId) : Row (w.alloc (.cells #[a, b, c] t)) w.heap.size 3 (fun i => if i = 0 then a else if i = 1 then b else c) := row3 (heap_alloc_new _ _)

abbrev M0 : MD := MD.full zeros zeros (fun _ => false)
theorem total0 : M0.total = 108 := by kernel_rfl

/-- The three cells of a box, in every world that only has more. -/
theorem box_cells {w : World} {B : Nat} {a b c : Value} (r : Row w B 3 (fun i => if i = 0 then a else if i = 1 then b else c)) :
    (w.cell? ⟨B, 0, none⟩ = some a ∧ w.cell? ⟨B, 1, none⟩ = some b ∧ w.cell? ⟨B, 2, none⟩ = some c) ∧
    ∀ o, (w.alloc o).cell? ⟨B, 0, none⟩ = some a ∧ (w.alloc o).cell? ⟨B, 1, none⟩ = some b ∧ (w.alloc o).cell? ⟨B, 2, none⟩ = some c :=
  ⟨⟨r.cell (i := 0) (by omega), r.cell (i := 1) (by omega), r.cell (i := 2) (by omega)⟩, fun o =>
    ⟨(r.blw ((Blw.refl w).alloc o)).cell (i := 0) (by omega), (r.blw ((Blw.refl w).alloc o)).cell (i := 1) (by omega), (r.blw ((Blw.refl w).alloc o)).cell (i := 2) (by omega)⟩⟩

end Go.Proofs.Ytnbcjdoohmjghaa
/- 'spec.NewMemory': what it answers is owned. -/
namespace Go.Proofs.Ytnbcjdoohmjghaa
open Go.RowKit
theorem snew_own {w wA wr we : World} {a1 a2 : Option Addr} {d1 d2 : Nat} {X1 X2 : Nat → Prop} {F1 c1 F2 c2 : Nat → Nat}
    (B : Build wA wr (w.heap.size + 1 + 1) (.slice a1 12 d1) (.slice a2 12 d2) (.slice (some ⟨w.heap.size + 1, 0, none⟩) 12 12) 12 12 (fun _ => 4) (fun _ => 4) zeros zeros X1 X2 F1 c1 F2 c2)
    (hm : Mod (fun x => x = w.heap.size) wr we) (rD : Row wA (w.heap.size + 1) 12 (fun _ => .bool false)) (hz : wA.heap.size ≤ wr.heap.size) (he : we.heap.size = wr.heap.size) (hzA : wA.heap.size = w.heap.size + 1 + 1) :
    MemOwn (fun b => w.heap.size ≤ b ∧ b < we.heap.size) we ⟨a1, a2, some ⟨w.heap.size + 1, 0, none⟩, d1, d2, 12⟩ (MD.full zeros zeros (fun _ => false)) := by
  have n1 : ∀ b, X1 b → ¬ b = w.heap.size := fun b hb => by have := (B.x1 b hb).1; omega
  have n2 : ∀ b, X2 b → ¬ b = w.heap.size := fun b hb => by have := (B.x2 b hb).1; omega
  refine ⟨X1, X2, fun b => b = w.heap.size + 1, fun b hb => ?_, fun b hb => ?_, fun b hb => ?_, (B.b1.mod hm n1).lines (by omega), (B.b2.mod hm n2).lines (by omega), ⟨by show 12 ≤ _; omega, fun _ => ⟨w.heap.size + 1, rfl, rfl, (rD.blw B.blw).mod hm (by omega)⟩⟩⟩
  · have := B.x1 b hb
    exact ⟨⟨by omega, by omega⟩, this.2.2.2, by omega⟩
  · have := B.x2 b hb
    exact ⟨⟨by omega, by omega⟩, by omega⟩
  · exact ⟨by omega, by omega⟩
set_option maxRecDepth 10000 in
set_option maxHeartbeats 1600000 in
theorem specNewO_any (w : World) : Calls Try.prog 29 #[] w fun e w' => ∃ m : MV, e = .returned (m.val (MD.full zeros zeros (fun _ => false))) ∧ MemOwn (fun b => w.heap.size ≤ b ∧ b < w'.heap.size) w' m (MD.full zeros zeros (fun _ => false)) ∧ Blw w w' := by
  have m1 := mk4'
  have m2 := mkb12'
  go_enter Try.func29, Try.ntmps29
  go_wp2
  have hbA : Blw w ((w.alloc (.cells #[.slice none 0 0, .slice none 0 0, .slice none 0 0] 26)).alloc (.cells (madeCells #[.bool false] 12) 4)) := ((Blw.refl _).alloc _).alloc _
  have rX : Row ((w.alloc (.cells #[.slice none 0 0, .slice none 0 0, .slice none 0 0] 26)).alloc (.cells (madeCells #[.bool false] 12) 4)) w.heap.size 3 (fun _ => .slice none 0 0) := (row_box w 26).blw ((Blw.refl _).alloc _)
  have rD : Row ((w.alloc (.cells #[.slice none 0 0, .slice none 0 0, .slice none 0 0] 26)).alloc (.cells (madeCells #[.bool false] 12) 4)) (w.heap.size + 1) 12 (fun _ => .bool false) := by
    simpa using Row.made (w.alloc (.cells #[.slice none 0 0, .slice none 0 0, .slice none 0 0] 26)) (.bool false) 12 4
  have hzA : ((w.alloc (.cells #[.slice none 0 0, .slice none 0 0, .slice none 0 0] 26)).alloc (.cells (madeCells #[.bool false] 12) 4)).heap.size = w.heap.size + 1 + 1 := by simp
  revert hbA rX rD hzA
  generalize (w.alloc (.cells #[.slice none 0 0, .slice none 0 0, .slice none 0 0] 26)).alloc (.cells (madeCells #[.bool false] 12) 4) = wA
  intro hbA rX rD hzA
  have hS := snew_start w wA hzA
  go_loopw [2] (fun i wr => ∃ k v1 v2 X1 X2 F1 c1 F2 c2, k ≤ 12 ∧ i = .int .i64 (k : Nat) ∧ Build wA wr (w.heap.size + 1 + 1) v1 v2 (.slice (some ⟨w.heap.size + 1, 0, none⟩) 12 12) k k (fun _ => 4) (fun _ => 4) zeros zeros X1 X2 F1 c1 F2 c2) (fun i _ => 12 - (intOf i).toNat)
  case atStart =>
    obtain ⟨X1, X2, F1, c1, F2, c2, h⟩ := hS
    exact ⟨0, _, _, X1, X2, F1, c1, F2, c2, by omega, rfl, h⟩
  case round =>
    obtain ⟨k, v1, v2, X1, X2, F1, c1, F2, c2, hk, rfl, B⟩ := hrel
    clear hS
    by_cases hlt : k < 12
    · have p0 := B.cell0
      have p0a : ∀ o, (wr.alloc o).cell? ⟨w.heap.size + 1 + 1, 0, none⟩ = some v1 := fun o => ((Blw.refl wr).alloc o).cell p0
      have p0b : ∀ o o', ((wr.alloc o).alloc o').cell? ⟨w.heap.size + 1 + 1, 0, none⟩ = some v1 := fun o o' => (((Blw.refl wr).alloc o).alloc o').cell p0
      go_wp2
      go_cut [] from 5 to 22 (fun wc => ∃ v1 X1 F1 c1, Build wA wc (w.heap.size + 1 + 1) v1 v2 (.slice (some ⟨w.heap.size + 1, 0, none⟩) 12 12) (k + 1) k (fun _ => 4) (fun _ => 4) zeros zeros X1 X2 F1 c1 F2 c2)
      case first =>
        go_region_law (refine step_append_line rfl (.tmp 10) (.tmp 13) rfl B.b1 rfl ⟨wr.heap.size + 1, 0, none⟩ wr.heap.size 4 rfl (by omega) (by omega) (fun h => by have := (B.x1 _ h).2.1; omega) (by repeat (first | exact Blw.refl _ | apply Blw.drew | apply Blw.alloc)) (by go_cell) ((Row.made wr (.int .i64 0) 4 3).blw (by repeat (first | exact Blw.refl _ | apply Blw.drew | apply Blw.alloc))) ?_; intro g cap w' hN hm hg hgl; have B1 := build_first B (by repeat (first | exact Blw.refl _ | apply Blw.drew | apply Blw.alloc)) (Nat.le_refl _) (by simp <;> omega) hN hm hg hgl; have Q1 := build_q1 B (by repeat (first | exact Blw.refl _ | apply Blw.drew | apply Blw.alloc)) hm; obtain ⟨q0, q1⟩ := Q1; clear hN hm hg hgl)
        all_goals go_wp2
        all_goals go_meet
        all_goals exact ⟨_, _, _, _, by assumption⟩
      case rest =>
        obtain ⟨v1', X1', F1', c1', B'⟩ := hcut
        clear B p0 p0a p0b
        have p1 := B'.cell1
        have p1a : ∀ o, (wc.alloc o).cell? ⟨w.heap.size + 1 + 1, 1, none⟩ = some v2 := fun o => ((Blw.refl wc).alloc o).cell p1
        have p1b : ∀ o o', ((wc.alloc o).alloc o').cell? ⟨w.heap.size + 1 + 1, 1, none⟩ = some v2 := fun o o' => (((Blw.refl wc).alloc o).alloc o').cell p1
        go_wp2
        go_region_law (refine step_append_line rfl (.tmp 17) (.tmp 20) rfl B'.b2 rfl ⟨wc.heap.size + 1, 0, none⟩ wc.heap.size 4 rfl (by omega) (by omega) (fun h => by have := (B'.x2 _ h).2.1; omega) (by repeat (first | exact Blw.refl _ | apply Blw.drew | apply Blw.alloc)) (by go_cell) ((Row.made wc (.int .i64 0) 4 3).blw (by repeat (first | exact Blw.refl _ | apply Blw.drew | apply Blw.alloc))) ?_; intro g cap w' hN hm hg hgl; have B1 := build_second B' (by repeat (first | exact Blw.refl _ | apply Blw.drew | apply Blw.alloc)) (Nat.le_refl _) (by simp <;> omega) hN hm hg hgl; have Q1 := build_q2 B' (by repeat (first | exact Blw.refl _ | apply Blw.drew | apply Blw.alloc)) hm; obtain ⟨q0, q1⟩ := Q1; clear hN hm hg hgl)
        all_goals go_wp2
        all_goals go_roundw
        all_goals first | exact ⟨k + 1, _, _, _, _, _, _, _, _, by omega, by go_num, by assumption⟩ | (simp [intOf]; omega)
    · obtain rfl : k = 12 := by omega
      have p0 := B.cell0
      have p1 := B.cell1
      have p2 := B.cell2
      have rX' := rX.blw B.blw
      have hz := B.blw.size
      have x0 : wr.cell? ⟨w.heap.size, 0, none⟩ = some (.slice none 0 0) := rX'.cell (by omega)
      have x1 : wr.cell? ⟨w.heap.size, 1, none⟩ = some (.slice none 0 0) := rX'.cell (by omega)
      have x2 : wr.cell? ⟨w.heap.size, 2, none⟩ = some (.slice none 0 0) := rX'.cell (by omega)
      have f0 := rX'.frozen 0
      have f1 := rX'.frozen 1
      have f2 := rX'.frozen 2
      obtain ⟨a1, d1, e1⟩ := bld_shape B.b1
      obtain ⟨a2, d2, e2⟩ := bld_shape B.b2
      subst e1 e2
      go_wp2
      have hm3 : Mod (fun x => x = w.heap.size) wr (((wr.setCell ⟨w.heap.size, 0, none⟩ (.slice a1 12 d1)).setCell ⟨w.heap.size, 1, none⟩ (.slice a2 12 d2)).setCell ⟨w.heap.size, 2, none⟩ (.slice (some ⟨w.heap.size + 1, 0, none⟩) 12 12)) :=
        ((Mod.setCell (X := fun x => x = w.heap.size) wr (p := ⟨w.heap.size, 0, none⟩) rfl _).trans (Mod.setCell (X := fun x => x = w.heap.size) _ (p := ⟨w.heap.size, 1, none⟩) rfl _)).trans (Mod.setCell (X := fun x => x = w.heap.size) _ (p := ⟨w.heap.size, 2, none⟩) rfl _)
      refine bodyPost_ret (v := .agg #[.slice a1 12 d1, .slice a2 12 d2, .slice (some ⟨w.heap.size + 1, 0, none⟩) 12 12]) (by simp [results, Try.results29, go_sem, x0, x1, x2]) rfl ⟨⟨a1, a2, some ⟨w.heap.size + 1, 0, none⟩, d1, d2, 12⟩, rfl, snew_own B hm3 rD (by omega) (by simp) hzA, Mod.blw (hbA.trans B.blw) hm3 (fun i hi => by omega)⟩
end Go.Proofs.Ytnbcjdoohmjghaa
/- what spec.GoodMemory's parts answer. -/
namespace Go.Proofs.Ytnbcjdoohmjghaa
open Go.RowKit

def wordOK (x : Int) : Prop := 0 ≤ x ∧ x ≤ 65535
def lineOK (n : Nat) (f : Nat → Int) : Prop := n = 4 ∧ ∀ i, i < 4 → wordOK (f i)
structure MD.OkAt (M : MD) (k : Nat) : Prop where
  a : lineOK (M.l1 k) (M.v1 k)
  b : lineOK (M.l2 k) (M.v2 k)
  c : M.d k = false → ∀ j, j < 4 → M.v1 k j = M.v2 k j
structure MD.Good (M : MD) : Prop where
  n1 : M.n1 = 12
  n2 : M.n2 = 12
  n3 : M.n3 = 12
  ok : ∀ k, k < 12 → M.OkAt k

set_option maxHeartbeats 400000 in
theorem l1In_yes (n lo hi : Int) (w : World) (h1 : lo ≤ n) (h2 : n ≤ hi) : Calls Try.prog 91 #[.int .i64 n, .int .i64 lo, .int .i64 hi] w fun e w' => e = .returned (.bool true) ∧ w' = w := by
  go_enter Try.func91, Try.ntmps91
  go_wp2
  go_ret
  exact ⟨rfl, rfl⟩
set_option maxHeartbeats 400000 in
theorem l1In_no (n lo hi : Int) (w : World) (h : ¬ (lo ≤ n ∧ n ≤ hi)) : Calls Try.prog 91 #[.int .i64 n, .int .i64 lo, .int .i64 hi] w fun e w' => e = .returned (.bool false) ∧ w' = w := by
  by_cases h1 : lo ≤ n
  · have h2 : ¬ n ≤ hi := fun h3 => h ⟨h1, h3⟩
    clear h
    go_enter Try.func91, Try.ntmps91
    go_wp2
    go_ret
    exact ⟨rfl, rfl⟩
  · clear h
    have hd : decide (lo ≤ n) = false := by simpa using h1
    go_enter Try.func91, Try.ntmps91
    go_wp2
    go_ret
    exact ⟨rfl, rfl⟩
set_option maxHeartbeats 400000 in
theorem l1All_yes (ao : Option Addr) (c n : Nat) (f : Nat → Int) (lo hi : Int) (Y : Nat → Prop) (w : World) (h : IntsAt Y w ao n f) (ha : ∀ i, i < n → lo ≤ f i ∧ f i ≤ hi) :
    Calls Try.prog 102 #[.slice ao n c, .int .i64 lo, .int .i64 hi] w fun e w' => e = .returned (.bool true) ∧ w' = w := by
  obtain ⟨hn, h⟩ := h
  go_enter Try.func102, Try.ntmps102
  go_wp2
  go_loop [11] (fun i => ∃ j : Nat, j ≤ n ∧ i = .int .i64 j) (fun i => n - (intOf i).toNat)
  case atStart => exact ⟨0, Nat.zero_le _, rfl⟩
  case round =>
    obtain ⟨j, hj, rfl⟩ := hrel
    by_cases hlt : j < n
    · obtain ⟨b, o, rfl, -, g1⟩ := h j hlt
      have hr := ha j hlt
      clear h ha
      go_wp2_with fail
      refine (l1In_yes _ _ _ _ hr.1 hr.2).mono ?_
      rintro e w' ⟨rfl, rfl⟩
      go_wp2
      go_round
      case rel => exact ⟨j + 1, by omega, by go_num⟩
      case measure => simp [intOf]; omega
    · go_wp2
      go_ret
      exact ⟨rfl, rfl⟩
set_option maxHeartbeats 400000 in
theorem l1All_no (ao : Option Addr) (c n : Nat) (f : Nat → Int) (lo hi : Int) (Y : Nat → Prop) (w : World) (h : IntsAt Y w ao n f) (i : Nat) (hi0 : i < n) (ha : ¬ (lo ≤ f i ∧ f i ≤ hi)) :
    Calls Try.prog 102 #[.slice ao n c, .int .i64 lo, .int .i64 hi] w fun e w' => e = .returned (.bool false) ∧ w' = w := by
  obtain ⟨hn, h⟩ := h
  have HA : Hid (¬ (lo ≤ f i ∧ f i ≤ hi)) := ha
  clear ha
  go_enter Try.func102, Try.ntmps102
  go_wp2
  go_loop [11] (fun ii => ∃ j : Nat, j ≤ i ∧ ii = .int .i64 j) (fun i => n - (intOf i).toNat)
  case atStart => exact ⟨0, Nat.zero_le _, rfl⟩
  case round =>
    obtain ⟨j, hj, rfl⟩ := hrel
    have hlt : j < n := by omega
    obtain ⟨b, o, rfl, -, g1⟩ := h j hlt
    clear h
    by_cases hr : lo ≤ f j ∧ f j ≤ hi
    · have hne : j ≠ i := fun e => HA.out (e ▸ hr)
      obtain ⟨hr1, hr2⟩ := hr
      go_wp2_with fail
      refine (l1In_yes _ _ _ _ hr1 hr2).mono ?_
      rintro e w' ⟨rfl, rfl⟩
      go_wp2
      go_round
      case rel => exact ⟨j + 1, by omega, by go_num⟩
      case measure => simp [intOf]; omega
    · have HR : Hid (¬ (lo ≤ f j ∧ f j ≤ hi)) := hr
      clear hr
      go_wp2_with fail
      refine (l1In_no _ _ _ _ HR.out).mono ?_
      rintro e w' ⟨rfl, rfl⟩
      go_wp2
      go_ret
      exact ⟨rfl, rfl⟩
set_option maxHeartbeats 400000 in
theorem l1Line_yes (ao : Option Addr) (c n : Nat) (f : Nat → Int) (Y : Nat → Prop) (w : World) (h : IntsAt Y w ao n f) (ok : lineOK n f) :
    Calls Try.prog 84 #[.agg #[.slice ao n c]] w fun e w' => e = .returned (.bool true) ∧ Blw w w' := by
  obtain ⟨rfl, ok⟩ := ok
  go_enter Try.func84, Try.ntmps84
  go_wp2_with fail
  refine (l1All_yes _ _ _ f _ _ Y _ (h.blw ((Blw.refl _).alloc _)) (fun i hi => ok i hi)).mono ?_
  rintro e w' ⟨rfl, rfl⟩
  go_wp2
  go_ret
  exact ⟨rfl, (Blw.refl _).alloc _⟩
set_option maxHeartbeats 400000 in
theorem l1Line_no (ao : Option Addr) (c n : Nat) (f : Nat → Int) (Y : Nat → Prop) (w : World) (h : IntsAt Y w ao n f) (ok : ¬ lineOK n f) :
    Calls Try.prog 84 #[.agg #[.slice ao n c]] w fun e w' => e = .returned (.bool false) ∧ Blw w w' := by
  by_cases hn : n = 4
  · subst hn
    have : ∃ i, i < 4 ∧ ¬ wordOK (f i) := Classical.byContradiction fun hh => ok ⟨rfl, fun i hi => Classical.byContradiction fun h2 => hh ⟨i, hi, h2⟩⟩
    obtain ⟨i, hi, hbad⟩ := this
    clear ok
    have HB : Hid (¬ wordOK (f i)) := hbad
    clear hbad
    go_enter Try.func84, Try.ntmps84
    go_wp2_with fail
    refine (l1All_no _ _ _ f _ _ Y _ (h.blw ((Blw.refl _).alloc _)) i hi HB.out).mono ?_
    rintro e w' ⟨rfl, rfl⟩
    go_wp2
    go_ret
    exact ⟨rfl, (Blw.refl _).alloc _⟩
  · have hd : ((n : Int) == 4) = false := by simp; omega
    have h0 := h.1
    clear ok h
    go_enter Try.func84, Try.ntmps84
    go_wp2
    go_ret
    exact ⟨rfl, (Blw.refl _).alloc _⟩
set_option maxHeartbeats 400000 in
theorem l1Same_yes (a1 a2 : Option Addr) (c1 c2 n0 : Nat) (f g : Nat → Int) {Y Z : Nat → Prop} (w : World) (h1 : IntsAt Y w a1 n0 f) (h2 : IntsAt Z w a2 n0 g) (he : ∀ i, i < n0 → f i = g i) :
    Calls Try.prog 85 #[.slice a1 n0 c1, .slice a2 n0 c2] w fun e w' => e = .returned (.bool true) ∧ ∃ n, w' = w.drewN n := by
  replace h2 := h2.congr (fun i hi => (he i hi).symm)
  clear he
  obtain ⟨hl, h1⟩ := h1
  obtain ⟨-, h2⟩ := h2
  go_enter Try.func85, Try.ntmps85
  go_wp2
  go_loopw [13] (fun i wr => ∃ k n : Nat, k ≤ n0 ∧ i = .int .i64 k ∧ wr = w.drewN n) (fun i _ => n0 - (intOf i).toNat)
  case atStart => exact ⟨0, 0, Nat.zero_le _, rfl, rfl⟩
  case round =>
    obtain ⟨k, n, hk, rfl, rfl⟩ := hrel
    by_cases hlt : k < n0
    · obtain ⟨b, o, rfl, -, g1⟩ := h1 k hlt
      obtain ⟨b', o', rfl, -, g2⟩ := h2 k hlt
      clear h1 h2
      go_wp2
      go_quiet (fail)
      go_wp2
      go_roundw
      case rel => exact ⟨k + 1, _, by omega, by go_num, rfl⟩
      case measure => simp [intOf]; omega
    · go_wp2
      go_ret
      exact ⟨rfl, n, rfl⟩
set_option maxHeartbeats 400000 in
theorem l1Same_no (a1 a2 : Option Addr) (c1 c2 n0 : Nat) (f g : Nat → Int) {Y Z : Nat → Prop} (w : World) (h1 : IntsAt Y w a1 n0 f) (h2 : IntsAt Z w a2 n0 g) (i : Nat) (hi : i < n0) (he : ¬ f i = g i) :
    Calls Try.prog 85 #[.slice a1 n0 c1, .slice a2 n0 c2] w fun e w' => e = .returned (.bool false) ∧ ∃ n, w' = w.drewN n := by
  obtain ⟨hl, h1⟩ := h1
  obtain ⟨-, h2⟩ := h2
  have HE : Hid (¬ f i = g i) := he
  clear he
  go_enter Try.func85, Try.ntmps85
  go_wp2
  go_loopw [13] (fun ii wr => ∃ k n : Nat, k ≤ i ∧ ii = .int .i64 k ∧ wr = w.drewN n) (fun i _ => n0 - (intOf i).toNat)
  case atStart => exact ⟨0, 0, Nat.zero_le _, rfl, rfl⟩
  case round =>
    obtain ⟨k, n, hk, rfl, rfl⟩ := hrel
    have hlt : k < n0 := by omega
    obtain ⟨b, o, rfl, -, g1⟩ := h1 k hlt
    obtain ⟨b', o', rfl, -, g2⟩ := h2 k hlt
    clear h1 h2
    by_cases hf : f k = g k
    · have hne : k ≠ i := fun e => HE.out (e ▸ hf)
      rw [← hf] at g2
      clear hf
      go_wp2
      go_quiet (fail)
      go_wp2
      go_roundw
      case rel => exact ⟨k + 1, _, by omega, by go_num, rfl⟩
      case measure => simp [intOf]; omega
    · have hb : (f k != g k) = true := by simpa using hf
      clear hf
      go_wp2
      go_quiet (fail)
      go_wp2
      go_ret
      exact ⟨rfl, _, by simp only [World.drewN_drewN]; rfl⟩
end Go.Proofs.Ytnbcjdoohmjghaa
