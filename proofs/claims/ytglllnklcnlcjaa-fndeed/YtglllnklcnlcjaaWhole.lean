/- All lines at once, in a memory held as a value: a long array copied, a slice cleared. -/
import Derived.Test.YtglllnklcnlcjaaXFlush
import Derived.Lib.SliceRun
namespace Go.Proofs.Ytglllnklcnlcjaa
open Go.RowKit
set_option linter.unusedSimpArgs false
theorem wpList_clear_row {w : World} {ops : Array Oper} {rest : List Oper} {o : Oper} {a : Act} {Q : Exit → Act → World → Prop} (hgd : o.guard = none) (x : Operand)
    (ho : o.op = .call { callee := .builtin .clear, args := #[x], argTypes := #[24] }) (b off n c : Nat) (hx : a.eval x = .slice (some ⟨b, off, none⟩) n c) (hn : 0 < n) (N : Nat) (f : Nat → Value) (r : Row w b N f) (hfit : off + n ≤ N)
    (h : ∀ w', Row w' b N (fun i => if off ≤ i ∧ i < off + n then .bool false else f i) → Mod (fun x => x = b) w w' → w'.heap.size = w.heap.size → wpList Try.prog ops Q rest (a.put o.dst (.tuple #[])) w') :
    wpList Try.prog ops Q (o :: rest) a w := by
  refine wpList_plain hgd fun K hK => ?_
  have hrun := Go.Lib.run_clear_slice (P := Try.prog) w 24 4 o.type (.bool false) Try.underlying24 (fun w => by kernel_rfl) rfl rfl b off n c hn (fun j hj => by rw [r.cell (by omega)]; rfl) (fun j hj => r.frozen _)
  have hrep : ∀ j, j < (List.replicate n (Value.bool false)).length → (List.replicate n (Value.bool false))[j]? = some (Value.bool false) := fun j hj => by
    rw [List.length_replicate] at hj
    rw [List.getElem?_replicate, if_pos hj]
  obtain ⟨q1, q2, q3⟩ := row_setCells r off (List.replicate n (.bool false)) (fun _ => .bool false) hrep (by simpa using hfit)
  rw [List.length_replicate] at q1
  unfold Oper.wp
  simp [execOp, ho, resolve, invoke, builtin, hx, hrun, Result.andThen]
  exact hK _ _ (h _ q1 q2 q3)
/-- The first k lines flushed. -/
def faS (s c : Nat → Nat → Int) (k : Nat) : Nat → Nat → Int := fun i j => if i < k then c i j else s i j
def faD (d : Nat → Bool) (k : Nat) : Nat → Bool := fun i => if i < k then false else d i
theorem faS_zero (s c : Nat → Nat → Int) : faS s c 0 = s := by
  funext i j
  simp [faS]
theorem faD_zero (d : Nat → Bool) : faD d 0 = d := by
  funext i
  simp [faD]
theorem faS_succ (s c : Nat → Nat → Int) (k : Nat) : flS (faS s c k) c k = faS s c (k + 1) := by
  funext i j
  unfold flS faS
  by_cases h : i = k
  · rw [if_pos h, if_pos (by omega)]
  · rw [if_neg h]
    by_cases h2 : i < k
    · rw [if_pos h2, if_pos (by omega)]
    · rw [if_neg h2, if_neg (by omega)]
theorem faD_succ (d : Nat → Bool) (k : Nat) : flD (faD d k) k = faD d (k + 1) := by
  funext i
  unfold flD faD
  by_cases h : i = k
  · rw [if_pos h, if_pos (by omega)]
  · rw [if_neg h]
    by_cases h2 : i < k
    · rw [if_pos h2, if_pos (by omega)]
    · rw [if_neg h2, if_neg (by omega)]
theorem hcell_all {s c : Nat → Nat → Int} {d : Nat → Bool} (j : Nat) (hj : j < 108) :
    (if 96 ≤ j ∧ j < 96 + 12 then Value.bool false else if 0 ≤ j ∧ j < 0 + 48 then hcell s c d (48 + (j - 0)) else hcell s c d j) = hcell (faS s c 12) c (faD d 12) j := by
  unfold hcell
  by_cases h1 : j < 48
  · have e1 : (48 + (j - 0) - 48) = j := by omega
    rw [if_neg (by omega), if_pos (by omega), if_neg (by omega), if_pos (by omega), if_pos h1, e1]
    unfold faS
    rw [if_pos (by omega)]
  · rw [if_neg h1]
    by_cases h2 : j < 96
    · rw [if_neg (by omega), if_neg (by omega), if_neg h1, if_pos h2, if_pos h2]
    · rw [if_pos (by omega), if_neg h1, if_neg h2]
      unfold faD
      rw [if_pos (by omega)]
/-- What FlushAll answers. -/
def faOut (M : MD) (M' : MD) (b : Bool) : Prop :=
  (M.Good ∧ M' = MD.full (faS M.v1 M.v2 12) M.v2 (faD M.d 12) ∧ b = true) ∨ (¬ M.Good ∧ M' = MZ ∧ b = false)
theorem faOut_same {M M1 M2 : MD} {b c : Bool} (h : faOut M M1 b) (k : faOut M M2 c) : M1 = M2 ∧ b = c := by
  rcases h with ⟨g, rfl, rfl⟩ | ⟨g, rfl, rfl⟩
  · rcases k with ⟨_, rfl, rfl⟩ | ⟨g', rfl, rfl⟩
    · exact ⟨rfl, rfl⟩
    · exact absurd g g'
  · rcases k with ⟨g', rfl, rfl⟩ | ⟨g', rfl, rfl⟩
    · exact absurd g' g
    · exact ⟨rfl, rfl⟩
theorem faOut_total {M M1 : MD} {b : Bool} (h : faOut M M1 b) : M1.total ≤ 108 := by
  rcases h with ⟨g, rfl, rfl⟩ | ⟨g, rfl, rfl⟩
  · rw [total_full]; omega
  · rw [total_zero]; omega
/-- The model's own memory, in its loops: at z its box. -/
structure Mine (w wr : World) (z : Nat) (m : MV) (s c : Nat → Nat → Int) (d : Nat → Bool) : Prop where
  own : ∃ X, MemOwn X wr m (MD.full s c d) ∧ ∀ b, X b → w.heap.size + 1 < b ∧ b < wr.heap.size ∧ b ≠ z
  box : Row wr z 3 (fun i => if i = 0 then .slice m.a1 12 m.c1 else if i = 1 then .slice m.a2 12 m.c2 else .slice m.a3 12 m.c3)
  res : Row wr (w.heap.size + 1) 3 (fun _ => .slice none 0 0)
  blw : Blw w wr
  zz : w.heap.size + 1 < z
theorem Mine.start {w w1 w2 : World} {m : MV} {s c : Nat → Nat → Int} {d : Nat → Bool} (hb : Blw w w2) (h1 : w.heap.size + 1 < w1.heap.size) (rR : Row w2 (w.heap.size + 1) 3 (fun _ => .slice none 0 0)) (own : MemOwn (fun b => w1.heap.size ≤ b ∧ b < w2.heap.size) w2 m (MD.full s c d)) :
    Mine w (w2.alloc (.cells #[.slice m.a1 12 m.c1, .slice m.a2 12 m.c2, .slice m.a3 12 m.c3] 26)) w2.heap.size m s c d := by
  have hA : Blw w2 (w2.alloc (.cells #[.slice m.a1 12 m.c1, .slice m.a2 12 m.c2, .slice m.a3 12 m.c3] 26)) := (Blw.refl _).alloc _
  exact ⟨⟨_, own.blw hA, fun b hb => ⟨by have := hb.1; omega, by have := hb.2; have := hA.size; omega, by have := hb.2; omega⟩⟩, box3 w2 _ _ _ 26, rR.blw hA, hb.trans hA, rR.lt⟩
theorem Mine.flush {w wr w' : World} {z : Nat} {m : MV} {s c s' : Nat → Nat → Int} {d d' : Nat → Bool} {X : Nat → Prop} (h : Mine w wr z m s c d) (hx : ∀ b, X b → w.heap.size + 1 < b ∧ b < wr.heap.size ∧ b ≠ z) (own : MemOwn (fun b => X b ∨ (wr.heap.size ≤ b ∧ b < w'.heap.size)) w' m (MD.full s' c d')) (hm : Mod X wr w') : Mine w w' z m s' c d' := by
  have hzl := h.box.lt
  have hr := h.res.lt
  have hs := hm.size
  have hzz := h.zz
  refine ⟨⟨_, own, fun b hb => ?_⟩, h.box.mod hm (fun e => (hx z e).2.2 rfl), h.res.mod hm (fun e => by have := (hx _ e).1; omega), Mod.blw h.blw hm (fun i hi => by have := (hx i hi).1; omega), h.zz⟩
  rcases hb with hb | hb
  · have := hx b hb
    exact ⟨by omega, by omega, this.2.2⟩
  · exact ⟨by omega, by omega, by omega⟩
theorem Mine.store {w wr w' : World} {z : Nat} {m : MV} {s c c' : Nat → Nat → Int} {d d' : Nat → Bool} {X : Nat → Prop} (h : Mine w wr z m s c d) (hx : ∀ b, X b → w.heap.size + 1 < b ∧ b < wr.heap.size ∧ b ≠ z) (own : MemOwn X w' m (MD.full s c' d')) (hm : Mod X wr w') : Mine w w' z m s c' d' := by
  have hs := hm.size
  exact ⟨⟨_, own, fun b hb => by have := hx b hb; exact ⟨by omega, by omega, this.2.2⟩⟩, h.box.mod hm (fun e => (hx z e).2.2 rfl), h.res.mod hm (fun e => by have := (hx _ e).1; omega), Mod.blw h.blw hm (fun i hi => by have := (hx i hi).1; omega), h.zz⟩
set_option maxHeartbeats 1600000 in
theorem specFlushAll_any (m : MV) (M : MD) (Y : Nat → Prop) (w : World) (h : MemAt Y w m M) :
    Calls Try.prog 111 #[m.val M] w (Gives (faOut M) w) := by
  go_enter Try.func111, Try.ntmps111
  go_wp2_with fail
  have hb0 : Blw w ((w.alloc (.cells #[.slice m.a1 M.n1 m.c1, .slice m.a2 M.n2 m.c2, .slice m.a3 M.n3 m.c3] 26)).alloc (.cells #[.slice none 0 0, .slice none 0 0, .slice none 0 0] 26)) := ((Blw.refl _).alloc _).alloc _
  have rA := (box3 w (.slice m.a1 M.n1 m.c1) (.slice m.a2 M.n2 m.c2) (.slice m.a3 M.n3 m.c3) 26).blw ((Blw.refl _).alloc (.cells #[.slice none 0 0, .slice none 0 0, .slice none 0 0] 26))
  have rR := res_row w (.slice m.a1 M.n1 m.c1) (.slice m.a2 M.n2 m.c2) (.slice m.a3 M.n3 m.c3)
  refine (goodS_any m M Y _ (h.blw hb0)).mono ?_
  rintro e w1 ⟨b, rfl, hgd, hb1⟩
  replace rA := rA.blw hb1
  replace rR := rR.blw hb1
  replace hb1 := hb0.trans hb1
  replace h := h.blw hb1
  clear hb0
  have HG : Hid (b = true ↔ M.Good) := hgd
  clear hgd
  cases b
  · have NG : Hid (¬ M.Good) := fun g => absurd (HG.out.2 g) (by decide)
    obtain ⟨⟨x0, x1, x2⟩, f0, f1, f2⟩ := res6 rR
    clear HG rA h rR
    go_wp2
    exact bodyPost_ret (v := .tuple #[.agg #[.slice none 0 0, .slice none 0 0, .slice none 0 0], .bool false]) (by simp [results, Try.results111, go_sem, x0, x1, x2]) rfl (zero_gives (Or.inr ⟨fun g => NG.out g, rfl, rfl⟩) hb1)
  · have GD : Hid M.Good := HG.out.1 rfl
    clear HG
    obtain ⟨p0, p1, p2⟩ := get3 rA
    go_wp2_with fail
    clear p0 p1 p2
    refine (l1Own_any m M Y _ GD.out h).mono ?_
    rintro e w2 ⟨m2, rfl, own, hb2⟩
    simp only [MV.val, MD.full]
    have rlt := rR.lt
    have HM : Hid _ := Mine.start (hb1.trans hb2) rlt (rR.blw hb2) own
    clear rA h hb1 own rR rlt hb2
    go_wp2_with fail
    revert HM
    generalize w2.heap.size = z
    generalize w2.alloc (.cells #[.slice m2.a1 12 m2.c1, .slice m2.a2 12 m2.c2, .slice m2.a3 12 m2.c3] 26) = w3
    intro HM
    go_loopw [15] (fun i wr => ∃ k : Nat, k ≤ 12 ∧ i = .int .i64 k ∧ Mine w wr z m2 (faS M.v1 M.v2 k) M.v2 (faD M.d k)) (fun i _ => 12 - (intOf i).toNat)
    case atStart => exact ⟨0, by omega, rfl, by rw [faS_zero, faD_zero]; exact HM.out⟩
    case round =>
      obtain ⟨k, hk, rfl, I⟩ := hrel
      clear HM
      by_cases hlt : k < 12
      · obtain ⟨q0, q1, q2⟩ := get3 I.box
        obtain ⟨X, own, hx⟩ := I.own
        have HX : Hid (∀ b, X b → w.heap.size + 1 < b ∧ b < wr.heap.size ∧ b ≠ z) := hx
        clear hx
        go_wp2_with fail
        refine (l1Flush_any m2 _ _ _ X _ k hlt own (fun b hb => (HX.out b hb).2.1)).mono ?_
        rintro e w4 ⟨⟨v, rfl⟩, own4, hm4⟩
        rw [faS_succ, faD_succ] at own4
        have I' := I.flush HX.out own4 hm4
        clear I own own4 hm4 q0 q1 q2
        go_wp2
        go_roundw
        case rel => exact ⟨k + 1, by omega, by go_num, I'⟩
        case measure => simp [intOf]; omega
      · obtain rfl : k = 12 := by omega
        obtain ⟨q0, q1, q2⟩ := get3 I.box
        obtain ⟨⟨x0, x1, x2⟩, f0, f1, f2⟩ := res6 I.res
        obtain ⟨X, own, hx⟩ := I.own
        have HX : Hid (∀ b, X b → w.heap.size + 1 < b ∧ b < wr.heap.size ∧ b ≠ z) := hx
        clear hx
        go_wp2
        exact bodyPost_ret (v := .tuple #[.agg #[.slice m2.a1 12 m2.c1, .slice m2.a2 12 m2.c2, .slice m2.a3 12 m2.c3], .bool true]) (by simp [results, Try.results111, go_sem, x0, x1, x2]) rfl (some_gives (Or.inl ⟨GD.out, rfl, rfl⟩) I.blw own (fun b hb => ⟨(HX.out b hb).1, (HX.out b hb).2.1⟩) rfl)
/-- A part of a held memory as a list of cells. -/
theorem part_cells {w : World} {b o m : Nat} {s c : Nat → Nat → Int} {d : Nat → Bool} (ty : TypeId) (h : Row w b 108 (hcell s c d)) (hn : o + m ≤ 108) (hi : (Try.prog.info? ty).map (·.size) = some m) :
    ∃ cs : List Value, (Try.prog.info? ty).map (·.size) = some cs.length ∧ (∀ j, j < m → cs.toArray[j]? = some (hcell s c d (o + j))) ∧ cs.toArray.size = m ∧ w.rangeAt b o cs ∧ cs.toArray.all (·.oneCell') = true := by
  refine ⟨(List.range m).map fun i => hcell s c d (o + i), by simpa using hi, fun j hj => by simp [hj], by simp, range_at h hn, ?_⟩
  rw [Array.all_eq_true]
  intro i hi
  simp [hcell_one]
end Go.Proofs.Ytglllnklcnlcjaa
