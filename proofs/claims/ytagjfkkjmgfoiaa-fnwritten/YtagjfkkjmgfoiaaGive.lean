/- 'giveOut': a held book as a book of new memory. -/
import Derived.Test.YtagjfkkjmgfoiaaHoldB
import Derived.Test.YtagjfkkjmgfoiaaBookL
namespace Go.Proofs.Ytagjfkkjmgfoiaa
open Go.RowKit Go.ChangeMaps
set_option linter.unusedSimpArgs false
set_option linter.unusedVariables false
theorem Row.alloc' {w : World} {b n : Nat} {f : Nat → Value} (h : Row w b n f) (o : Obj) : Row (w.alloc o) b n f := h.blw ((Blw.refl _).alloc _)
theorem Row.drew' {w : World} {b n : Nat} {f : Nat → Value} (h : Row w b n f) : Row w.drew b n f := h
theorem mk8 (w : World) : (Instr.makeSlice 23 (.int .i64 8) (.int .i64 8)).run Try.prog w = .ok (.slice (some ⟨w.heap.size, 0, none⟩) 8 8) (w.alloc (.cells (madeCells #[.int .i64 0] 8) 3)) := mkInts 8 (by omega) w
/-- The book that is being given out: its box S, its cells A, its log L. -/
structure Giv (w wx : World) (S A L k : Nat) (fc : Nat → Int) (fu gu : Nat → Int) : Prop where
  blw : Blw w wx
  box : Row wx S 2 (fun i => if i = 0 then .slice (some ⟨A, 0, none⟩) 8 8 else .slice (some ⟨L, 0, none⟩) k k)
  rc : Row wx A 8 (fun i => .int .i64 (fc i))
  rl : Row wx L (k * 2) (uc fu gu)
  lo : w.heap.size < S ∧ w.heap.size < A ∧ w.heap.size < L
  ne : S ≠ A ∧ S ≠ L ∧ A ≠ L
theorem Giv.mod {X : Nat → Prop} {w wx w' : World} {S A L k : Nat} {fc fu gu : Nat → Int} (h : Giv w wx S A L k fc fu gu) (hm : Mod X wx w') (hx : ∀ b, X b → w.heap.size ≤ b ∧ b ≠ S ∧ b ≠ A ∧ b ≠ L) : Giv w w' S A L k fc fu gu :=
  ⟨Mod.blw h.blw hm (fun i hi => (hx i hi).1), h.box.mod hm (fun e => (hx _ e).2.1 rfl), h.rc.mod hm (fun e => (hx _ e).2.2.1 rfl), h.rl.mod hm (fun e => (hx _ e).2.2.2 rfl), h.lo, h.ne⟩
theorem alloc3 {w w0 : World} (hb : Blw w w0) (hz : w0.heap.size = w.heap.size + 1) (o1 o2 o3 : Obj) :
    Blw w (((w0.alloc o1).alloc o2).alloc o3).drew ∧ (((w0.alloc o1).alloc o2).alloc o3).drew.heap[w.heap.size + 1]? = some o1 ∧ (((w0.alloc o1).alloc o2).alloc o3).drew.heap[w.heap.size + 1 + 1]? = some o2 ∧ (((w0.alloc o1).alloc o2).alloc o3).drew.heap[w.heap.size + 1 + 1 + 1]? = some o3 := by
  refine ⟨(((hb.alloc _).alloc _).alloc _).drew, ?_, ?_, ?_⟩
  · show (((w0.alloc o1).alloc o2).alloc o3).heap[w.heap.size + 1]? = some o1
    rw [(MapKept.heap_alloc _ _).2 _ (by simp; omega), (MapKept.heap_alloc _ _).2 _ (by simp; omega), ← hz]
    exact (MapKept.heap_alloc _ _).1
  · show (((w0.alloc o1).alloc o2).alloc o3).heap[w.heap.size + 1 + 1]? = some o2
    rw [(MapKept.heap_alloc _ _).2 _ (by simp; omega)]
    have := (MapKept.heap_alloc (w0.alloc o1) o2).1
    rw [World.size_alloc, hz] at this
    exact this
  · have := (MapKept.heap_alloc ((w0.alloc o1).alloc o2) o3).1
    rw [World.size_alloc, World.size_alloc, hz] at this
    exact this
theorem giv_mk {w wx : World} {S A L k : Nat} (hb : Blw w wx) (hS : wx.heap[S]? = some (.cells #[.slice (some ⟨A, 0, none⟩) 8 8, .slice (some ⟨L, 0, none⟩) k k] 26)) (hA : wx.heap[A]? = some (.cells (madeCells #[.int .i64 0] 8) 3)) (hL : wx.heap[L]? = some (.cells (madeCells #[.int .i64 0, .int .i64 0] (k * 2)) 69))
    (lo : w.heap.size < S ∧ w.heap.size < A ∧ w.heap.size < L) (ne : S ≠ A ∧ S ≠ L ∧ A ≠ L) : Giv w wx S A L k (fun _ => 0) (fun _ => 0) (fun _ => 0) := by
  refine ⟨hb, ⟨_, 26, hS, by simp, fun i hi => ?_⟩, ⟨_, 3, hA, by simp [madeCells], fun i hi => by simp [madeCells, hi, Nat.mod_one]⟩, ⟨_, 69, hL, by simp [madeCells], fun i hi => ?_⟩, lo, ne⟩
  · match i, hi with
    | 0, _ => rfl
    | 1, _ => rfl
  · have h2 : i % 2 = 0 ∨ i % 2 = 1 := by omega
    rcases h2 with h2 | h2 <;> simp [madeCells, hi, h2, uc]
/-- How many entries are still to come. -/
def itLeft (w : World) (r k : Nat) : Nat := match w.heap[r]? with
  | some (.mapIter _ _ seen _) => k - seen.size
  | _ => 0
theorem Iter.left {w : World} {bm r c : Nat} {lc lw : Nat → Int} {ix seen : List Nat} (h : Iter w bm r c lc lw ix seen) (k : Nat) : itLeft w r k = k - seen.length := by
  simp [itLeft, h.it]
theorem seen_le {seen : List Nat} {k : Nat} (hn : seen.Nodup) (h : ∀ t ∈ seen, t < k) : seen.length ≤ k := by
  refine pigeon k seen.length (fun i => ((seen.getD i 0 : Nat) : Int)) (fun i hi => ?_) (fun i j hi hj e => ?_)
  · have : seen.getD i 0 = seen[i] := by simp [hi]
    have h2 := h seen[i] (List.getElem_mem hi)
    rw [this]; omega
  · have e1 : seen.getD i 0 = seen[i] := by simp [hi]
    have e2 : seen.getD j 0 = seen[j] := by simp [hj]
    dsimp only at e
    rw [e1, e2] at e
    exact nodup_inj hn hi hj (by omega)
def part (seen : List Nat) (f : Nat → Int) : Nat → Int := fun t => if t ∈ seen then f t else 0
/-- What stands while the log is gone through. -/
structure Going (w wr : World) (S A L r bm cl k : Nat) (c lc lw : Nat → Int) (seen : List Nat) : Prop where
  it : Iter wr bm r cl lc lw (List.range k) seen
  nd : seen.Nodup
  lt : ∀ t ∈ seen, t < k
  gv : Giv w wr S A L k c (part seen lc) (part seen lw)
  rne : w.heap.size < r ∧ r ≠ S ∧ r ≠ A ∧ r ≠ L
  out : Row wr w.heap.size 2 (fun i => if i = 0 then .slice none 0 0 else .slice none 0 0)
  bm : bm < w.heap.size
theorem Going.step {w wr w2 : World} {S A L r bm cl k : Nat} {c lc lw : Nat → Int} {seen : List Nat} (h : Going w wr S A L r bm cl k c lc lw seen) {i : Nat} (hi : i < k) (hns : i ∉ seen) (hit : Iter w2 bm r cl lc lw (List.range k) (seen ++ [i])) (hm : Mod (fun b => b = r) wr w2) (o : Obj) :
    Going w (((w2.alloc o).setCell ⟨L, i * 2, none⟩ (.int .i64 (lc i))).setCell ⟨L, i * 2 + 1, none⟩ (.int .i64 (lw i))) S A L r bm cl k c lc lw (seen ++ [i]) := by
  obtain ⟨l1, l2, l3⟩ := h.gv.lo
  obtain ⟨n1, n2, n3⟩ := h.gv.ne
  obtain ⟨m1, m2, m3, m4⟩ := h.rne
  have hbm := h.bm
  have ha : Blw w2 (w2.alloc o) := (Blw.refl _).alloc _
  have hs : Mod (fun b => b = L) (w2.alloc o) (((w2.alloc o).setCell ⟨L, i * 2, none⟩ (.int .i64 (lc i))).setCell ⟨L, i * 2 + 1, none⟩ (.int .i64 (lw i))) := (Mod.setCell (X := fun b => b = L) _ (p := ⟨L, i * 2, none⟩) rfl _).trans (Mod.setCell (X := fun b => b = L) _ (p := ⟨L, i * 2 + 1, none⟩) rfl _)
  have g2 := h.gv.mod hm (fun b hb => by omega)
  refine ⟨(hit.blw ha).mod hs (by omega) m4, ?_, ?_, ⟨Mod.blw (g2.blw.trans ha) hs (fun i hi => by omega), (g2.box.blw ha).mod hs n2, (g2.rc.blw ha).mod hs n3, ?_, h.gv.lo, h.gv.ne⟩, h.rne, ((h.out.mod hm (by omega)).blw ha).mod hs (by omega), h.bm⟩
  · rw [List.nodup_append]
    exact ⟨h.nd, by simp, fun a ha b hb e => by simp at hb; subst hb; subst e; exact hns ha⟩
  · intro t ht
    rcases List.mem_append.1 ht with ht | ht
    · exact h.lt t ht
    · simp at ht; omega
  · refine (((g2.rl.blw ha).set (i * 2) _).set (i * 2 + 1) _).congr (fun t ht => ?_)
    by_cases e1 : t = i * 2 + 1
    · subst e1
      rw [if_pos rfl, (uc_at _ _ i).2]; simp [part]
    · rw [if_neg e1]
      by_cases e0 : t = i * 2
      · subst e0
        rw [if_pos rfl, (uc_at _ _ i).1]; simp [part]
      · rw [if_neg e0]
        have hq : t / 2 ≠ i := by omega
        simp [uc, part, hq]
set_option maxHeartbeats 3200000 in
theorem give_any (H bm cl k : Nat) (c lc lw : Nat → Int) (w : World) (hk : k ≤ 1048576) (hcl : k ≤ cl) (hB : Row w H 9 (hcell c bm)) (hL : LogIx w bm cl lc lw (List.range k)) :
    Calls Try.prog 59 #[.pointer (some ⟨H, 0, none⟩)] w fun e w' => ∃ b : BV, e = .returned (b.val ⟨8, c, k, lc, lw⟩) ∧ BookOwn (fun x => w.heap.size ≤ x ∧ x < w'.heap.size) w' b ⟨8, c, k, lc, lw⟩ ∧ Blw w w' := by
  have HB : Hid (Row w H 9 (hcell c bm)) := hB
  have HL : Hid (LogIx w bm cl lc lw (List.range k)) := hL
  have hH := hB.lt
  have hM := hL.lt
  clear hB hL
  go_enter Try.func59, Try.ntmps59
  go_upto_region 1 with fail
  have hb0 : Blw w (w.alloc (.cells #[.slice none 0 0, .slice none 0 0] 26)) := (Blw.refl _).alloc _
  have r0 := box2 w (.slice none 0 0) (.slice none 0 0) 26
  have hz : (w.alloc (.cells #[.slice none 0 0, .slice none 0 0] 26)).heap.size = w.heap.size + 1 := by simp
  revert hb0 r0 hz
  generalize w.alloc (.cells #[.slice none 0 0, .slice none 0 0] 26) = w0
  intro hb0 r0 hz
  have P8 : ∀ w', Blw w0 w' → w'.cell? ⟨H, 8, none⟩ = some (.map (some bm)) := fun w' hh => by
    have := (HB.out.blw (hb0.trans hh)).cell (i := 8) (by omega)
    simpa [hcell] using this
  have HLN : ∀ w' ty, Blw w0 w' → (Builtin.len_ #[71] ty #[.map (some bm)]).run Try.prog w' = .ok (.int .i64 k) w' := fun w' ty hh => by
    have := (HL.out.blw (hb0.trans hh)).len ty
    simpa using this
  have hm8 := mk8
  have hmu := mkUndos k hk
  go_cut [3] from 6 to 13 (fun t wx => ∃ S A L, t = .pointer (some ⟨S, 0, none⟩) ∧ Giv w wx S A L k (fun _ => 0) (fun _ => 0) (fun _ => 0) ∧ Blw w0 wx)
  case first =>
    go_region_held3 (fun w' => Blw w0 w') ((first | assumption | (repeat (first | exact Blw.refl _ | refine Blw.drew ?_ | refine Blw.alloc ?_ _ | refine Blw.setCell ?_ (by show w0.heap.size ≤ _; omega) _)))) (fail)
    all_goals go_wp2_with fail
    all_goals go_meet
    all_goals
      have g := alloc3 hb0 hz
      first
        | exact ⟨_, _, _, rfl, giv_mk (g _ _ _).1 (g _ _ _).2.1 (g _ _ _).2.2.1 (g _ _ _).2.2.2 (by omega) (by omega), ((((Blw.refl w0).alloc _).alloc _).alloc _).drew⟩
        | exact ⟨_, _, _, rfl, giv_mk (g _ _ _).1 (g _ _ _).2.1 (g _ _ _).2.2.2 (g _ _ _).2.2.1 (by omega) (by omega), ((((Blw.refl w0).alloc _).alloc _).alloc _).drew⟩
        | exact ⟨_, _, _, rfl, giv_mk (g _ _ _).1 (g _ _ _).2.2.1 (g _ _ _).2.1 (g _ _ _).2.2.2 (by omega) (by omega), ((((Blw.refl w0).alloc _).alloc _).alloc _).drew⟩
        | exact ⟨_, _, _, rfl, giv_mk (g _ _ _).1 (g _ _ _).2.2.1 (g _ _ _).2.2.2 (g _ _ _).2.1 (by omega) (by omega), ((((Blw.refl w0).alloc _).alloc _).alloc _).drew⟩
        | exact ⟨_, _, _, rfl, giv_mk (g _ _ _).1 (g _ _ _).2.2.2 (g _ _ _).2.1 (g _ _ _).2.2.1 (by omega) (by omega), ((((Blw.refl w0).alloc _).alloc _).alloc _).drew⟩
        | exact ⟨_, _, _, rfl, giv_mk (g _ _ _).1 (g _ _ _).2.2.2 (g _ _ _).2.2.1 (g _ _ _).2.1 (by omega) (by omega), ((((Blw.refl w0).alloc _).alloc _).alloc _).drew⟩
  case rest =>
    obtain ⟨S, A, L, rfl, G, hb0c⟩ := hcut
    have r0c : Row wc w.heap.size 2 (fun i => if i = 0 then .slice none 0 0 else .slice none 0 0) := r0.blw hb0c
    clear P8 HLN hm8 hmu r0 hb0 hz hb0c
    obtain ⟨l1, l2, l3⟩ := G.lo
    obtain ⟨n1, n2, n3⟩ := G.ne
    have hBc := HB.out.blw G.blw
    obtain ⟨w1, hcp, hr1, hm1, hz1⟩ := run_copy_fn (P := Try.prog) wc.drew 23 23 3 3 A 0 8 8 ⟨H, 0, none⟩ 8 8 8 (fun t => .int .i64 (c t)) 8 (fun _ => .int .i64 0) Try.underlying23 hinfo3 rfl (fun j hj => by rw [Addr.add_mid, Nat.zero_add]; have := hBc.cell (i := j) (by omega); simpa [hcell, hj] using this) (fun _ _ => rfl) G.rc (by omega)
    obtain ⟨p0, p1⟩ := get2 G.box
    go_wp2_with fail
    go_region
    replace hm1 : Mod (fun x => x = A) wc w1 := Mod.trans ((Blw.refl wc).drew.mod _) hm1
    have hb1 : Blw w w1 := Mod.blw G.blw hm1 (fun i hi => by omega)
    have HG : Hid (Giv w w1 S A L k c (fun _ => 0) (fun _ => 0)) := ⟨hb1, G.box.mod hm1 n1, hr1.congr (fun i hi => by simp [hi]), G.rl.mod hm1 (fun e => n3 e.symm), G.lo, G.ne⟩
    have HO : Hid (Row w1 w.heap.size 2 (fun i => if i = 0 then .slice none 0 0 else .slice none 0 0)) := r0c.mod hm1 (by omega)
    have p8 : w1.cell? ⟨H, 8, none⟩ = some (.map (some bm)) := by
      have := (HB.out.blw hb1).cell (i := 8) (by omega)
      simpa [hcell] using this
    have hL1 := HL.out.blw hb1
    clear p0 p1 G hcp hr1 hm1 hz1 hBc r0c
    have HS : Hid (S < w1.heap.size ∧ A < w1.heap.size ∧ L < w1.heap.size) := ⟨HG.out.box.lt, HG.out.rc.lt, HG.out.rl.lt⟩
    go_wp2_with (first | (at_range; refine wpList_range_log rfl _ rfl rfl hL1 ?_; intro hit) | go_in)
    have HT : Hid (Iter (w1.alloc (.mapIter (some bm) cl #[] cl)) bm w1.heap.size cl lc lw (List.range k) []) := hit
    have hw1 : w.heap.size < w1.heap.size := by have := HS.out; omega
    clear hit p8 hL1 HB HL
    go_loopw [4] (fun _ wr => ∃ seen, Going w wr S A L w1.heap.size bm cl k c lc lw seen) (fun _ wr => itLeft wr w1.heap.size k)
    case atStart =>
      have ha : Blw w1 (w1.alloc (.mapIter (some bm) cl #[] cl)) := (Blw.refl _).alloc _
      have h1 := HS.out
      exact ⟨[], HT.out, List.nodup_nil, fun t ht => absurd ht (by simp), ⟨hb1.trans ha, HG.out.box.blw ha, HG.out.rc.blw ha, (HG.out.rl.blw ha).congr (fun i hi => by simp [uc, part]), HG.out.lo, HG.out.ne⟩, ⟨hw1, by omega, by omega, by omega⟩, HO.out.blw ha, hM⟩
    case round =>
      obtain ⟨seen, hg⟩ := hrel
      have HGO : Hid (Going w wr S A L w1.heap.size bm cl k c lc lw seen) := hg
      have hit := hg.it
      clear hg HT HG HO HS hb1
      go_wp2_with (first | (at_next; refine wpList_next_log rfl _ rfl rfl hit (fun t ht => by have := List.mem_range.1 ht; omega) List.nodup_range (by omega) ?_ ?_) | go_in)
      · intro hall
        have hg := HGO.out
        obtain ⟨p0, p1⟩ := get2 hg.gv.box
        obtain ⟨q0, q1⟩ := get2 hg.out
        have f0 := hg.out.frozen 0
        have f1 := hg.out.frozen 1
        clear hg hit
        go_wp2
        refine bodyPost_ret (v := .agg #[.slice (some ⟨A, 0, none⟩) 8 8, .slice (some ⟨L, 0, none⟩) k k]) (by simp [results, Try.results59, go_sem, q0, q1]) rfl ?_
        have hg := HGO.out
        have m1 : Mod (fun x => x = w.heap.size) wr ((wr.setCell ⟨w.heap.size, 0, none⟩ (.slice (some ⟨A, 0, none⟩) 8 8)).setCell ⟨w.heap.size, 1, none⟩ (.slice (some ⟨L, 0, none⟩) k k)) := set2_mod (X := fun x => x = w.heap.size) _ rfl _ _
        have h5 := m1.size
        have h6 := hg.gv.rc.lt
        have h7 := hg.gv.rl.lt
        refine ⟨⟨some ⟨A, 0, none⟩, some ⟨L, 0, none⟩, 8, k⟩, rfl, ⟨fun x => x = A, fun x => x = L, fun x hx => ⟨⟨by omega, by omega⟩, by omega⟩, fun x hx => ⟨by omega, by omega⟩, ⟨by show 8 ≤ _; omega, fun _ => ⟨_, rfl, rfl, hg.gv.rc.mod m1 (by omega)⟩⟩, ⟨by show k ≤ _; omega, fun _ => ⟨_, rfl, rfl, (hg.gv.rl.mod m1 (by omega)).congr fun i hi => ?_⟩⟩⟩, Mod.blw hg.gv.blw m1 (fun i hi => by omega)⟩
        have : i / 2 ∈ seen := hall _ (by omega)
        simp [uc, part, this]
      · intro i w2 hi hns hit2 hm2 hen
        have hik : i < k := by simpa using hi
        have hik' : (i : Int) < k := by omega
        have ST : Hid (Going w _ S A L w1.heap.size bm cl k c lc lw (seen ++ [i])) := HGO.out.step hik hns hit2 hm2 (.cells #[.int .i64 i, .int .i64 (lw i)] 91)
        have HIT : Hid (Iter w2 bm w1.heap.size cl lc lw (List.range k) (seen ++ [i])) := hit2
        have G2 := (HGO.out.gv.mod hm2 (fun b hb => by have := HGO.out.rne; omega)).mod (((Blw.refl w2).alloc (.cells #[.int .i64 i, .int .i64 (lw i)] 91)).mod (fun _ => False)) (fun b hb => hb.elim)
        obtain ⟨p0, p1⟩ := get2 G2.box
        obtain ⟨q0, q1⟩ := undo_get G2.rl hik
        have f0 := G2.rl.frozen (i * 2)
        have f1 := G2.rl.frozen (i * 2 + 1)
        clear G2 hit hit2 hm2 hi
        go_wp2
        go_roundw
        case rel => exact ⟨_, ST.out⟩
        case measure =>
          rw [ST.out.it.left, HGO.out.it.left]
          have := seen_le ST.out.nd ST.out.lt
          simp at this ⊢
          omega
end Go.Proofs.Ytagjfkkjmgfoiaa
