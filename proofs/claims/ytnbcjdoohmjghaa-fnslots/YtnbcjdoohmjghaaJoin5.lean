/- Merged by program, in this order: XFlush, Whole, StoreA, StoreB, Slot, Next, LawSt, LawSI, WriteS, CommitS, LawG. -/
import Derived.Lib.SliceRun
import Derived.Deep.CutRange
import Derived.Test.YtnbcjdoohmjghaaJoin4
/- 'spec.FlushLine' and 'impl.FlushLine'. -/
namespace Go.Proofs.Ytnbcjdoohmjghaa
open Go.RowKit
set_option linter.unusedSimpArgs false
/-- What FlushLine answers. -/
def flOut (M : MD) (at_ : Int) (M' : MD) (b : Bool) : Prop :=
  (M.Good ∧ ∃ n : Nat, at_ = n ∧ n < 12 ∧ M' = MD.full (flS M.v1 M.v2 n) M.v2 (flD M.d n) ∧ b = true) ∨ (¬ (M.Good ∧ (0 ≤ at_ ∧ at_ ≤ 11)) ∧ M' = MZ ∧ b = false)
theorem flOut_same {M M1 M2 : MD} {at_ : Int} {b c : Bool} (h : flOut M at_ M1 b) (k : flOut M at_ M2 c) : M1 = M2 ∧ b = c := by
  rcases h with ⟨g, n, rfl, hn, rfl, rfl⟩ | ⟨g, rfl, rfl⟩
  · rcases k with ⟨_, n', e, hn', rfl, rfl⟩ | ⟨g', rfl, rfl⟩
    · obtain rfl : n = n' := by omega
      exact ⟨rfl, rfl⟩
    · exact absurd ⟨g, by omega⟩ g'
  · rcases k with ⟨g', n', e, hn', rfl, rfl⟩ | ⟨g', rfl, rfl⟩
    · exact absurd ⟨g', by omega⟩ g
    · exact ⟨rfl, rfl⟩
theorem flOut_total {M M1 : MD} {at_ : Int} {b : Bool} (h : flOut M at_ M1 b) : M1.total ≤ 108 := by
  rcases h with ⟨g, n, rfl, hn, rfl, rfl⟩ | ⟨g, rfl, rfl⟩
  · rw [total_full]; omega
  · rw [total_zero]; omega
set_option maxHeartbeats 400000 in
theorem isLine_yes (n : Int) (w : World) (h1 : 0 ≤ n) (h2 : n ≤ 11) : Calls Try.prog 90 #[.int .i64 n] w fun e w' => e = .returned (.bool true) ∧ w' = w := by
  have hd : decide (n < 12) = true := by simp; omega
  go_enter Try.func90, Try.ntmps90
  go_wp2
  go_ret
  exact ⟨rfl, rfl⟩
set_option maxHeartbeats 400000 in
theorem isLine_no (n : Int) (w : World) (h : ¬ (0 ≤ n ∧ n ≤ 11)) : Calls Try.prog 90 #[.int .i64 n] w fun e w' => e = .returned (.bool false) ∧ w' = w := by
  by_cases h1 : 0 ≤ n
  · have h2 : ¬ n < 12 := fun h3 => h ⟨h1, by omega⟩
    clear h
    go_enter Try.func90, Try.ntmps90
    go_wp2
    go_ret
    exact ⟨rfl, rfl⟩
  · clear h
    have hd : decide (0 ≤ n) = false := by simpa using h1
    go_enter Try.func90, Try.ntmps90
    go_wp2
    go_ret
    exact ⟨rfl, rfl⟩
set_option maxHeartbeats 1600000 in
theorem specFlush_any (m : MV) (M : MD) (Y : Nat → Prop) (w : World) (at_ : Int) (h : MemAt Y w m M) :
    Calls Try.prog 27 #[m.val M, .int .i64 at_] w (Gives (flOut M at_) w) := by
  go_enter Try.func27, Try.ntmps27
  go_wp2_with fail
  have hb0 : Blw w ((w.alloc (.cells #[.slice m.a1 M.n1 m.c1, .slice m.a2 M.n2 m.c2, .slice m.a3 M.n3 m.c3] 26)).alloc (.cells #[.slice none 0 0, .slice none 0 0, .slice none 0 0] 26)) := ((Blw.refl _).alloc _).alloc _
  have rA := (box3 w (.slice m.a1 M.n1 m.c1) (.slice m.a2 M.n2 m.c2) (.slice m.a3 M.n3 m.c3) 26).blw ((Blw.refl _).alloc (.cells #[.slice none 0 0, .slice none 0 0, .slice none 0 0] 26))
  have rR := res_row w (.slice m.a1 M.n1 m.c1) (.slice m.a2 M.n2 m.c2) (.slice m.a3 M.n3 m.c3)
  refine (goodS_any m M Y _ (h.blw hb0)).mono ?_
  rintro e w1 ⟨b, rfl, hgd, hb1⟩
  replace rA := rA.blw hb1
  replace rR := rR.blw hb1
  replace hb1 := hb0.trans hb1
  replace h := h.blw hb1
  clear hb0
  have HG : Hid (b = true ↔ M.Good) := hgd
  clear hgd
  cases b
  · have NG : Hid (¬ M.Good) := fun g => absurd (HG.out.2 g) (by decide)
    obtain ⟨⟨x0, x1, x2⟩, f0, f1, f2⟩ := res6 rR
    clear HG rA h rR
    go_wp2
    exact bodyPost_ret (v := .tuple #[.agg #[.slice none 0 0, .slice none 0 0, .slice none 0 0], .bool false]) (by simp [results, Try.results27, go_sem, x0, x1, x2]) rfl (zero_gives (Or.inr ⟨fun g => NG.out g.1, rfl, rfl⟩) hb1)
  · have GD : Hid M.Good := HG.out.1 rfl
    clear HG
    by_cases hat : 0 ≤ at_ ∧ at_ ≤ 11
    · obtain ⟨n, rfl⟩ := Int.eq_ofNat_of_zero_le hat.1
      have hn : n < 12 := by omega
      clear hat
      obtain ⟨p0, p1, p2⟩ := get3 rA
      go_wp2_with fail
      refine (l1In_yes _ _ _ _ (by omega) (by omega)).mono ?_
      rintro e w1 ⟨rfl, rfl⟩
      go_wp2_with fail
      clear p0 p1 p2
      refine (l1Own_any m M Y _ GD.out h).mono ?_
      rintro e w2 ⟨m2, rfl, own, hb2⟩
      simp only [MV.val, MD.full]
      have rlt := rR.lt
      replace rR := rR.blw hb2
      have z1 := hb1.size
      replace hb2 := hb1.trans hb2
      clear rA h hb1
      go_wp2_with fail
      have hbA : Blw w2 (w2.alloc (.cells #[.slice m2.a1 12 m2.c1, .slice m2.a2 12 m2.c2, .slice m2.a3 12 m2.c3] 26)) := (Blw.refl _).alloc _
      have rM := box3 w2 (.slice m2.a1 12 m2.c1) (.slice m2.a2 12 m2.c2) (.slice m2.a3 12 m2.c3) 26
      refine (l1Flush_any m2 M.v1 M.v2 M.d _ _ n hn (own.blw hbA) (fun b hb => by have := hb.2; have := hbA.size; omega)).mono ?_
      rintro e w3 ⟨⟨v, rfl⟩, own3, hm3⟩
      obtain ⟨q0, q1, q2⟩ := get3 (rM.mod hm3 (fun hh => by have := hh.2; omega))
      obtain ⟨⟨x0, x1, x2⟩, f0, f1, f2⟩ := res6 ((rR.blw hbA).mod hm3 (fun hh => by have := hh.1; omega))
      have hb3 : Blw w w3 := Mod.blw (hb2.trans hbA) hm3 (fun i hi => by have := hi.1; omega)
      have zA := hbA.size
      have z3 := hm3.size
      have zr := (rR.blw hbA).lt
      clear hbA rM rR own hm3 hb2
      go_wp2
      exact bodyPost_ret (v := .tuple #[.agg #[.slice m2.a1 12 m2.c1, .slice m2.a2 12 m2.c2, .slice m2.a3 12 m2.c3], .bool true]) (by simp [results, Try.results27, go_sem, x0, x1, x2]) rfl (some_gives (Or.inl ⟨GD.out, n, rfl, hn, rfl, rfl⟩) hb3 own3 (fun b hb => by rcases hb with hb | hb <;> (have := hb.1; have := hb.2; exact ⟨by omega, by omega⟩)) rfl)
    · have NX : Hid (¬ (0 ≤ at_ ∧ at_ ≤ 11)) := hat
      obtain ⟨⟨x0, x1, x2⟩, f0, f1, f2⟩ := res6 rR
      clear hat rA h rR
      go_wp2_with fail
      refine (l1In_no _ _ _ _ NX.out).mono ?_
      rintro e w1 ⟨rfl, rfl⟩
      go_wp2
      exact bodyPost_ret (v := .tuple #[.agg #[.slice none 0 0, .slice none 0 0, .slice none 0 0], .bool false]) (by simp [results, Try.results27, go_sem, x0, x1, x2]) rfl (zero_gives (Or.inr ⟨fun g => NX.out g.2, rfl, rfl⟩) hb1)
set_option maxRecDepth 10000 in
set_option maxHeartbeats 1600000 in
theorem implFlush_any (m : MV) (M : MD) (Y : Nat → Prop) (w : World) (at_ : Int) (h : MemAt Y w m M) :
    Calls Try.prog 26 #[m.val M, .int .i64 at_] w (Gives (flOut M at_) w) := by
  go_enter Try.func26, Try.ntmps26
  go_wp2_with fail
  have hb0 : Blw w ((w.alloc (.cells #[.slice m.a1 M.n1 m.c1, .slice m.a2 M.n2 m.c2, .slice m.a3 M.n3 m.c3] 26)).alloc (.cells #[.slice none 0 0, .slice none 0 0, .slice none 0 0] 26)) := ((Blw.refl _).alloc _).alloc _
  have rR := res_row w (.slice m.a1 M.n1 m.c1) (.slice m.a2 M.n2 m.c2) (.slice m.a3 M.n3 m.c3)
  refine (holdMemory_any m M Y _ (h.blw hb0)).mono ?_
  rintro e w1 ⟨hr, hb1⟩
  replace rR := rR.blw hb1
  replace hb1 := hb0.trans hb1
  have r79 := row79 w1
  have zw := hb1.size
  have rlt := rR.lt
  clear h hb0
  rcases hr with ⟨good, cs, z1, z2, rfl⟩ | ⟨bad, rfl⟩
  · have hi : (Try.prog.info? 98).map (·.size) = some cs.size := by rw [z1]; exact info79
    have one := one_cells' z1 z2
    have GD : Hid M.Good := good
    clear good
    go_wp2_with (refine wpList_store_row rfl 98 (.tmp 6) (.tmp 11) rfl w1.heap.size 0 cs rfl rfl 108 _ (hcell M.v1 M.v2 M.d) r79 (by omega) hi one (fun j hj => z2 j (by omega)) ?_; intro wz qz1 qz2 qz3; have hz := held_facts hb1 rR qz1 qz2 z1; obtain ⟨rH, hbz, rZ⟩ := hz; clear qz1 qz2 qz3)
    have zlt := rH.lt
    clear r79 hi one z1 z2 rR hb1
    by_cases hat : 0 ≤ at_ ∧ at_ ≤ 11
    · obtain ⟨n, rfl⟩ := Int.eq_ofNat_of_zero_le hat.1
      have hn : n < 12 := by omega
      clear hat
      refine (isLine_yes _ _ (by omega) (by omega)).mono ?_
      rintro e wz ⟨rfl, rfl⟩
      go_wp2_with fail
      refine (flushLine_any _ _ _ _ n _ hn rH).mono ?_
      rintro e w3 ⟨⟨v, rfl⟩, rH3, hm3⟩
      replace rZ := rZ.mod hm3 (by omega)
      replace hbz : Blw w w3 := Mod.blw hbz hm3 (fun i hi => by omega)
      have z3 := hm3.size
      clear rH hm3
      go_wp2_with fail
      refine (giveOut_any _ _ _ _ _ rH3).mono ?_
      rintro e w4 ⟨m4, rfl, own, hb4⟩
      simp only [MV.val, MD.full]
      obtain ⟨⟨x0, x1, x2⟩, f0, f1, f2⟩ := res6 (rZ.blw hb4)
      replace hbz := hbz.trans hb4
      have r3lt := rZ.lt
      clear rH3 rZ hb4
      go_wp2
      exact bodyPost_ret (v := .tuple #[.agg #[.slice m4.a1 12 m4.c1, .slice m4.a2 12 m4.c2, .slice m4.a3 12 m4.c3], .bool true]) (by simp [results, Try.results26, go_sem, x0, x1, x2]) rfl (some_gives (Or.inl ⟨GD.out, n, rfl, hn, rfl, rfl⟩) hbz own (fun b hb => by have := hb.1; have := hb.2; exact ⟨by omega, by omega⟩) rfl)
    · have NX : Hid (¬ (0 ≤ at_ ∧ at_ ≤ 11)) := hat
      obtain ⟨⟨x0, x1, x2⟩, f0, f1, f2⟩ := res6 rZ
      clear hat rH rZ
      refine (isLine_no _ _ NX.out).mono ?_
      rintro e wz ⟨rfl, rfl⟩
      go_wp2
      exact bodyPost_ret (v := .tuple #[.agg #[.slice none 0 0, .slice none 0 0, .slice none 0 0], .bool false]) (by simp [results, Try.results26, go_sem, x0, x1, x2]) rfl (zero_gives (Or.inr ⟨fun g => NX.out g.2, rfl, rfl⟩) hbz)
  · have NG : Hid (¬ M.Good) := bad
    clear bad
    go_wp2_with (refine wpList_store_row rfl 98 (.tmp 6) (.tmp 11) rfl w1.heap.size 0 Try.zeroCells98 rfl rfl 108 _ (hcell zeros zeros (fun _ => false)) r79 (by rw [size79]; omega) (by rw [size79]; exact info79) one79 cell79 ?_; intro wz qz1 qz2 qz3; have hz := held_facts hb1 rR qz1 qz2 size79; obtain ⟨rH, hbz, rZ⟩ := hz; obtain ⟨⟨x0, x1, x2⟩, f0, f1, f2⟩ := res6 rZ; clear qz1 qz2 qz3 rH rZ)
    exact bodyPost_ret (v := .tuple #[.agg #[.slice none 0 0, .slice none 0 0, .slice none 0 0], .bool false]) (by simp [results, Try.results26, go_sem, x0, x1, x2]) rfl (zero_gives (Or.inr ⟨fun g => NG.out g.1, rfl, rfl⟩) hbz)
end Go.Proofs.Ytnbcjdoohmjghaa
/- All lines at once, in a memory held as a value: a long array copied, a slice cleared. -/
namespace Go.Proofs.Ytnbcjdoohmjghaa
open Go.RowKit
set_option linter.unusedSimpArgs false
theorem wpList_clear_row {w : World} {ops : Array Oper} {rest : List Oper} {o : Oper} {a : Act} {Q : Exit → Act → World → Prop} (hgd : o.guard = none) (x : Operand)
    (ho : o.op = .call { callee := .builtin .clear, args := #[x], argTypes := #[24] }) (b off n c : Nat) (hx : a.eval x = .slice (some ⟨b, off, none⟩) n c) (hn : 0 < n) (N : Nat) (f : Nat → Value) (r : Row w b N f) (hfit : off + n ≤ N)
    (h : ∀ w', Row w' b N (fun i => if off ≤ i ∧ i < off + n then .bool false else f i) → Mod (fun x => x = b) w w' → w'.heap.size = w.heap.size → wpList Try.prog ops Q rest (a.put o.dst (.tuple #[])) w') :
    wpList Try.prog ops Q (o :: rest) a w := by
  refine wpList_plain hgd fun K hK => ?_
  have hrun := Go.Lib.run_clear_slice (P := Try.prog) w 24 4 o.type (.bool false) Try.underlying24 (fun w => by kernel_rfl) rfl rfl b off n c hn (fun j hj => by rw [r.cell (by omega)]; rfl) (fun j hj => r.frozen _)
  have hrep : ∀ j, j < (List.replicate n (Value.bool false)).length → (List.replicate n (Value.bool false))[j]? = some (Value.bool false) := fun j hj => by
    rw [List.length_replicate] at hj
    rw [List.getElem?_replicate, if_pos hj]
  obtain ⟨q1, q2, q3⟩ := row_setCells r off (List.replicate n (.bool false)) (fun _ => .bool false) hrep (by simpa using hfit)
  rw [List.length_replicate] at q1
  unfold Oper.wp
  simp [execOp, ho, resolve, invoke, builtin, hx, hrun, Result.andThen]
  exact hK _ _ (h _ q1 q2 q3)
/-- The first k lines flushed. -/
def faS (s c : Nat → Nat → Int) (k : Nat) : Nat → Nat → Int := fun i j => if i < k then c i j else s i j
def faD (d : Nat → Bool) (k : Nat) : Nat → Bool := fun i => if i < k then false else d i
theorem faS_zero (s c : Nat → Nat → Int) : faS s c 0 = s := by
  funext i j
  simp [faS]
theorem faD_zero (d : Nat → Bool) : faD d 0 = d := by
  funext i
  simp [faD]
theorem faS_succ (s c : Nat → Nat → Int) (k : Nat) : flS (faS s c k) c k = faS s c (k + 1) := by
  funext i j
  unfold flS faS
  by_cases h : i = k
  · rw [if_pos h, if_pos (by omega)]
  · rw [if_neg h]
    by_cases h2 : i < k
    · rw [if_pos h2, if_pos (by omega)]
    · rw [if_neg h2, if_neg (by omega)]
theorem faD_succ (d : Nat → Bool) (k : Nat) : flD (faD d k) k = faD d (k + 1) := by
  funext i
  unfold flD faD
  by_cases h : i = k
  · rw [if_pos h, if_pos (by omega)]
  · rw [if_neg h]
    by_cases h2 : i < k
    · rw [if_pos h2, if_pos (by omega)]
    · rw [if_neg h2, if_neg (by omega)]
theorem hcell_all {s c : Nat → Nat → Int} {d : Nat → Bool} (j : Nat) (hj : j < 108) :
    (if 96 ≤ j ∧ j < 96 + 12 then Value.bool false else if 0 ≤ j ∧ j < 0 + 48 then hcell s c d (48 + (j - 0)) else hcell s c d j) = hcell (faS s c 12) c (faD d 12) j := by
  unfold hcell
  by_cases h1 : j < 48
  · have e1 : (48 + (j - 0) - 48) = j := by omega
    rw [if_neg (by omega), if_pos (by omega), if_neg (by omega), if_pos (by omega), if_pos h1, e1]
    unfold faS
    rw [if_pos (by omega)]
  · rw [if_neg h1]
    by_cases h2 : j < 96
    · rw [if_neg (by omega), if_neg (by omega), if_neg h1, if_pos h2, if_pos h2]
    · rw [if_pos (by omega), if_neg h1, if_neg h2]
      unfold faD
      rw [if_pos (by omega)]
/-- What FlushAll answers. -/
def faOut (M : MD) (M' : MD) (b : Bool) : Prop :=
  (M.Good ∧ M' = MD.full (faS M.v1 M.v2 12) M.v2 (faD M.d 12) ∧ b = true) ∨ (¬ M.Good ∧ M' = MZ ∧ b = false)
theorem faOut_same {M M1 M2 : MD} {b c : Bool} (h : faOut M M1 b) (k : faOut M M2 c) : M1 = M2 ∧ b = c := by
  rcases h with ⟨g, rfl, rfl⟩ | ⟨g, rfl, rfl⟩
  · rcases k with ⟨_, rfl, rfl⟩ | ⟨g', rfl, rfl⟩
    · exact ⟨rfl, rfl⟩
    · exact absurd g g'
  · rcases k with ⟨g', rfl, rfl⟩ | ⟨g', rfl, rfl⟩
    · exact absurd g' g
    · exact ⟨rfl, rfl⟩
theorem faOut_total {M M1 : MD} {b : Bool} (h : faOut M M1 b) : M1.total ≤ 108 := by
  rcases h with ⟨g, rfl, rfl⟩ | ⟨g, rfl, rfl⟩
  · rw [total_full]; omega
  · rw [total_zero]; omega
/-- The model's own memory, in its loops: at z its box. -/
structure Mine (w wr : World) (z : Nat) (m : MV) (s c : Nat → Nat → Int) (d : Nat → Bool) : Prop where
  own : ∃ X, MemOwn X wr m (MD.full s c d) ∧ ∀ b, X b → w.heap.size + 1 < b ∧ b < wr.heap.size ∧ b ≠ z
  box : Row wr z 3 (fun i => if i = 0 then .slice m.a1 12 m.c1 else if i = 1 then .slice m.a2 12 m.c2 else .slice m.a3 12 m.c3)
  res : Row wr (w.heap.size + 1) 3 (fun _ => .slice none 0 0)
  blw : Blw w wr
  zz : w.heap.size + 1 < z
theorem Mine.start {w w1 w2 : World} {m : MV} {s c : Nat → Nat → Int} {d : Nat → Bool} (hb : Blw w w2) (h1 : w.heap.size + 1 < w1.heap.size) (rR : Row w2 (w.heap.size + 1) 3 (fun _ => .slice none 0 0)) (own : MemOwn (fun b => w1.heap.size ≤ b ∧ b < w2.heap.size) w2 m (MD.full s c d)) :
    Mine w (w2.alloc (.cells #[.slice m.a1 12 m.c1, .slice m.a2 12 m.c2, .slice m.a3 12 m.c3] 26)) w2.heap.size m s c d := by
  have hA : Blw w2 (w2.alloc (.cells #[.slice m.a1 12 m.c1, .slice m.a2 12 m.c2, .slice m.a3 12 m.c3] 26)) := (Blw.refl _).alloc _
  exact ⟨⟨_, own.blw hA, fun b hb => ⟨by have := hb.1; omega, by have := hb.2; have := hA.size; omega, by have := hb.2; omega⟩⟩, box3 w2 _ _ _ 26, rR.blw hA, hb.trans hA, rR.lt⟩
theorem Mine.flush {w wr w' : World} {z : Nat} {m : MV} {s c s' : Nat → Nat → Int} {d d' : Nat → Bool} {X : Nat → Prop} (h : Mine w wr z m s c d) (hx : ∀ b, X b → w.heap.size + 1 < b ∧ b < wr.heap.size ∧ b ≠ z) (own : MemOwn (fun b => X b ∨ (wr.heap.size ≤ b ∧ b < w'.heap.size)) w' m (MD.full s' c d')) (hm : Mod X wr w') : Mine w w' z m s' c d' := by
  have hzl := h.box.lt
  have hr := h.res.lt
  have hs := hm.size
  have hzz := h.zz
  refine ⟨⟨_, own, fun b hb => ?_⟩, h.box.mod hm (fun e => (hx z e).2.2 rfl), h.res.mod hm (fun e => by have := (hx _ e).1; omega), Mod.blw h.blw hm (fun i hi => by have := (hx i hi).1; omega), h.zz⟩
  rcases hb with hb | hb
  · have := hx b hb
    exact ⟨by omega, by omega, this.2.2⟩
  · exact ⟨by omega, by omega, by omega⟩
theorem Mine.store {w wr w' : World} {z : Nat} {m : MV} {s c c' : Nat → Nat → Int} {d d' : Nat → Bool} {X : Nat → Prop} (h : Mine w wr z m s c d) (hx : ∀ b, X b → w.heap.size + 1 < b ∧ b < wr.heap.size ∧ b ≠ z) (own : MemOwn X w' m (MD.full s c' d')) (hm : Mod X wr w') : Mine w w' z m s c' d' := by
  have hs := hm.size
  exact ⟨⟨_, own, fun b hb => by have := hx b hb; exact ⟨by omega, by omega, this.2.2⟩⟩, h.box.mod hm (fun e => (hx z e).2.2 rfl), h.res.mod hm (fun e => by have := (hx _ e).1; omega), Mod.blw h.blw hm (fun i hi => by have := (hx i hi).1; omega), h.zz⟩
set_option maxHeartbeats 1600000 in
theorem specFlushAll_any (m : MV) (M : MD) (Y : Nat → Prop) (w : World) (h : MemAt Y w m M) :
    Calls Try.prog 24 #[m.val M] w (Gives (faOut M) w) := by
  go_enter Try.func24, Try.ntmps24
  go_wp2_with fail
  have hb0 : Blw w ((w.alloc (.cells #[.slice m.a1 M.n1 m.c1, .slice m.a2 M.n2 m.c2, .slice m.a3 M.n3 m.c3] 26)).alloc (.cells #[.slice none 0 0, .slice none 0 0, .slice none 0 0] 26)) := ((Blw.refl _).alloc _).alloc _
  have rA := (box3 w (.slice m.a1 M.n1 m.c1) (.slice m.a2 M.n2 m.c2) (.slice m.a3 M.n3 m.c3) 26).blw ((Blw.refl _).alloc (.cells #[.slice none 0 0, .slice none 0 0, .slice none 0 0] 26))
  have rR := res_row w (.slice m.a1 M.n1 m.c1) (.slice m.a2 M.n2 m.c2) (.slice m.a3 M.n3 m.c3)
  refine (goodS_any m M Y _ (h.blw hb0)).mono ?_
  rintro e w1 ⟨b, rfl, hgd, hb1⟩
  replace rA := rA.blw hb1
  replace rR := rR.blw hb1
  replace hb1 := hb0.trans hb1
  replace h := h.blw hb1
  clear hb0
  have HG : Hid (b = true ↔ M.Good) := hgd
  clear hgd
  cases b
  · have NG : Hid (¬ M.Good) := fun g => absurd (HG.out.2 g) (by decide)
    obtain ⟨⟨x0, x1, x2⟩, f0, f1, f2⟩ := res6 rR
    clear HG rA h rR
    go_wp2
    exact bodyPost_ret (v := .tuple #[.agg #[.slice none 0 0, .slice none 0 0, .slice none 0 0], .bool false]) (by simp [results, Try.results24, go_sem, x0, x1, x2]) rfl (zero_gives (Or.inr ⟨fun g => NG.out g, rfl, rfl⟩) hb1)
  · have GD : Hid M.Good := HG.out.1 rfl
    clear HG
    obtain ⟨p0, p1, p2⟩ := get3 rA
    go_wp2_with fail
    clear p0 p1 p2
    refine (l1Own_any m M Y _ GD.out h).mono ?_
    rintro e w2 ⟨m2, rfl, own, hb2⟩
    simp only [MV.val, MD.full]
    have rlt := rR.lt
    have HM : Hid _ := Mine.start (hb1.trans hb2) rlt (rR.blw hb2) own
    clear rA h hb1 own rR rlt hb2
    go_wp2_with fail
    revert HM
    generalize w2.heap.size = z
    generalize w2.alloc (.cells #[.slice m2.a1 12 m2.c1, .slice m2.a2 12 m2.c2, .slice m2.a3 12 m2.c3] 26) = w3
    intro HM
    go_loopw [15] (fun i wr => ∃ k : Nat, k ≤ 12 ∧ i = .int .i64 k ∧ Mine w wr z m2 (faS M.v1 M.v2 k) M.v2 (faD M.d k)) (fun i _ => 12 - (intOf i).toNat)
    case atStart => exact ⟨0, by omega, rfl, by rw [faS_zero, faD_zero]; exact HM.out⟩
    case round =>
      obtain ⟨k, hk, rfl, I⟩ := hrel
      clear HM
      by_cases hlt : k < 12
      · obtain ⟨q0, q1, q2⟩ := get3 I.box
        obtain ⟨X, own, hx⟩ := I.own
        have HX : Hid (∀ b, X b → w.heap.size + 1 < b ∧ b < wr.heap.size ∧ b ≠ z) := hx
        clear hx
        go_wp2_with fail
        refine (l1Flush_any m2 _ _ _ X _ k hlt own (fun b hb => (HX.out b hb).2.1)).mono ?_
        rintro e w4 ⟨⟨v, rfl⟩, own4, hm4⟩
        rw [faS_succ, faD_succ] at own4
        have I' := I.flush HX.out own4 hm4
        clear I own own4 hm4 q0 q1 q2
        go_wp2
        go_roundw
        case rel => exact ⟨k + 1, by omega, by go_num, I'⟩
        case measure => simp [intOf]; omega
      · obtain rfl : k = 12 := by omega
        obtain ⟨q0, q1, q2⟩ := get3 I.box
        obtain ⟨⟨x0, x1, x2⟩, f0, f1, f2⟩ := res6 I.res
        obtain ⟨X, own, hx⟩ := I.own
        have HX : Hid (∀ b, X b → w.heap.size + 1 < b ∧ b < wr.heap.size ∧ b ≠ z) := hx
        clear hx
        go_wp2
        exact bodyPost_ret (v := .tuple #[.agg #[.slice m2.a1 12 m2.c1, .slice m2.a2 12 m2.c2, .slice m2.a3 12 m2.c3], .bool true]) (by simp [results, Try.results24, go_sem, x0, x1, x2]) rfl (some_gives (Or.inl ⟨GD.out, rfl, rfl⟩) I.blw own (fun b hb => ⟨(HX.out b hb).1, (HX.out b hb).2.1⟩) rfl)
/-- A part of a held memory as a list of cells. -/
theorem part_cells {w : World} {b o m : Nat} {s c : Nat → Nat → Int} {d : Nat → Bool} (ty : TypeId) (h : Row w b 108 (hcell s c d)) (hn : o + m ≤ 108) (hi : (Try.prog.info? ty).map (·.size) = some m) :
    ∃ cs : List Value, (Try.prog.info? ty).map (·.size) = some cs.length ∧ (∀ j, j < m → cs.toArray[j]? = some (hcell s c d (o + j))) ∧ cs.toArray.size = m ∧ w.rangeAt b o cs ∧ cs.toArray.all (·.oneCell') = true := by
  refine ⟨(List.range m).map fun i => hcell s c d (o + i), by simpa using hi, fun j hj => by simp [hj], by simp, range_at h hn, ?_⟩
  rw [Array.all_eq_true]
  intro i hi
  simp [hcell_one]
set_option maxRecDepth 10000 in
set_option maxHeartbeats 1600000 in
theorem implFlushAll_any (m : MV) (M : MD) (Y : Nat → Prop) (w : World) (h : MemAt Y w m M) :
    Calls Try.prog 20 #[m.val M] w (Gives (faOut M) w) := by
  go_enter Try.func20, Try.ntmps20
  go_wp2_with fail
  have hb0 : Blw w ((w.alloc (.cells #[.slice m.a1 M.n1 m.c1, .slice m.a2 M.n2 m.c2, .slice m.a3 M.n3 m.c3] 26)).alloc (.cells #[.slice none 0 0, .slice none 0 0, .slice none 0 0] 26)) := ((Blw.refl _).alloc _).alloc _
  have rR := res_row w (.slice m.a1 M.n1 m.c1) (.slice m.a2 M.n2 m.c2) (.slice m.a3 M.n3 m.c3)
  refine (holdMemory_any m M Y _ (h.blw hb0)).mono ?_
  rintro e w1 ⟨hr, hb1⟩
  replace rR := rR.blw hb1
  replace hb1 := hb0.trans hb1
  have r79 := row79 w1
  have zw := hb1.size
  have rlt := rR.lt
  clear h hb0
  rcases hr with ⟨good, cs, z1, z2, rfl⟩ | ⟨bad, rfl⟩
  · have hi : (Try.prog.info? 98).map (·.size) = some cs.size := by rw [z1]; exact info79
    have one := one_cells' z1 z2
    have GD : Hid M.Good := good
    clear good
    go_wp2_with (first
      | (refine wpList_store_row rfl 98 (.tmp 4) (.tmp 9) rfl w1.heap.size 0 cs rfl rfl 108 _ (hcell M.v1 M.v2 M.d) r79 (by omega) hi one (fun j hj => z2 j (by omega)) ?_; intro wz qz1 qz2 qz3; have hz := held_facts hb1 rR qz1 qz2 z1; obtain ⟨rH, hbz, rZ⟩ := hz; have hc2 := part_cells (o := 48) 95 rH (by omega) info76; obtain ⟨c2, y2, e2, l2, L2, o2⟩ := hc2; clear qz1 qz2 qz3)
      | (refine wpList_load_mid rfl 95 (.tmp 14) rfl w1.heap.size 48 rfl c2 _ L2 Try.underlying95 rfl y2 ?_)
      | (refine wpList_store_row rfl 95 (.tmp 16) (.tmp 15) rfl w1.heap.size 0 c2.toArray rfl rfl 108 _ (fun j => hcell M.v1 M.v2 M.d (48 + j)) rH (by rw [l2]; omega) (by rw [l2]; exact info76) o2 (fun j hj => e2 j (by omega)) ?_; intro w5 r5 m5 s5; rw [l2] at r5)
      | (refine wpList_clear_row rfl (.tmp 18) rfl w1.heap.size 96 12 12 rfl (by omega) 108 _ r5 (by omega) ?_; intro w6 r6 m6 s6))
    have rH6 : Row w6 w1.heap.size 108 (hcell (faS M.v1 M.v2 12) M.v2 (faD M.d 12)) := r6.congr (fun j hj => hcell_all j hj)
    replace rZ := (rZ.mod m5 (by omega)).mod m6 (by omega)
    replace hbz : Blw w w6 := Mod.blw (Mod.blw hbz m5 (fun i hi => by omega)) m6 (fun i hi => by omega)
    clear r79 hi one z1 z2 rR hb1 r5 r6 m5 m6 rH y2 e2 l2 L2 o2 s5 s6
    refine (giveOut_any _ _ _ _ _ rH6).mono ?_
    rintro e w7 ⟨m4, rfl, own, hb4⟩
    simp only [MV.val, MD.full]
    obtain ⟨⟨x0, x1, x2⟩, f0, f1, f2⟩ := res6 (rZ.blw hb4)
    replace hbz := hbz.trans hb4
    have r3lt := rZ.lt
    clear rH6 rZ hb4
    go_wp2
    exact bodyPost_ret (v := .tuple #[.agg #[.slice m4.a1 12 m4.c1, .slice m4.a2 12 m4.c2, .slice m4.a3 12 m4.c3], .bool true]) (by simp [results, Try.results20, go_sem, x0, x1, x2]) rfl (some_gives (Or.inl ⟨GD.out, rfl, rfl⟩) hbz own (fun b hb => by have := hb.1; have := hb.2; exact ⟨by omega, by omega⟩) rfl)
  · have NG : Hid (¬ M.Good) := bad
    clear bad
    go_wp2_with (refine wpList_store_row rfl 98 (.tmp 4) (.tmp 9) rfl w1.heap.size 0 Try.zeroCells98 rfl rfl 108 _ (hcell zeros zeros (fun _ => false)) r79 (by rw [size79]; omega) (by rw [size79]; exact info79) one79 cell79 ?_; intro wz qz1 qz2 qz3; have hz := held_facts hb1 rR qz1 qz2 size79; obtain ⟨rH, hbz, rZ⟩ := hz; obtain ⟨⟨x0, x1, x2⟩, f0, f1, f2⟩ := res6 rZ; clear qz1 qz2 qz3 rH rZ)
    exact bodyPost_ret (v := .tuple #[.agg #[.slice none 0 0, .slice none 0 0, .slice none 0 0], .bool false]) (by simp [results, Try.results20, go_sem, x0, x1, x2]) rfl (zero_gives (Or.inr ⟨fun g => NG.out g, rfl, rfl⟩) hbz)
end Go.Proofs.Ytnbcjdoohmjghaa
/- 'spec.StoreAll' and 'impl.StoreAll'. -/
namespace Go.Proofs.Ytnbcjdoohmjghaa
open Go.RowKit
set_option linter.unusedSimpArgs false
/-- The first k words stored from a on. -/
def saC (c : Nat → Nat → Int) (a : Nat) (f : Nat → Int) : Nat → Nat → Nat → Int
  | 0 => c
  | k + 1 => stC (saC c a f k) (a + k) (f k)
def saD (d : Nat → Bool) (a : Nat) : Nat → Nat → Bool
  | 0 => d
  | k + 1 => stD (saD d a k) (a + k)
def stretch (at_ n : Int) : Prop := (0 ≤ at_ ∧ at_ ≤ 47) ∧ (0 ≤ n ∧ n ≤ 8) ∧ at_ + n ≤ 48
/-- What StoreAll answers. -/
def saOut (M : MD) (at_ : Int) (n : Nat) (f : Nat → Int) (M' : MD) (b : Bool) : Prop :=
  (M.Good ∧ stretch at_ n ∧ (∀ i, i < n → 0 ≤ f i ∧ f i ≤ 65535) ∧ M' = MD.full M.v1 (saC M.v2 at_.toNat f n) (saD M.d at_.toNat n) ∧ b = true) ∨ (¬ (M.Good ∧ stretch at_ n ∧ ∀ i, i < n → 0 ≤ f i ∧ f i ≤ 65535) ∧ M' = MZ ∧ b = false)
theorem saOut_same {M M1 M2 : MD} {at_ : Int} {n : Nat} {f : Nat → Int} {b c : Bool} (h : saOut M at_ n f M1 b) (k : saOut M at_ n f M2 c) : M1 = M2 ∧ b = c := by
  rcases h with ⟨g, s, x, rfl, rfl⟩ | ⟨g, rfl, rfl⟩
  · rcases k with ⟨_, _, _, rfl, rfl⟩ | ⟨g', rfl, rfl⟩
    · exact ⟨rfl, rfl⟩
    · exact absurd ⟨g, s, x⟩ g'
  · rcases k with ⟨g', s, x, rfl, rfl⟩ | ⟨g', rfl, rfl⟩
    · exact absurd ⟨g', s, x⟩ g
    · exact ⟨rfl, rfl⟩
theorem saOut_total {M M1 : MD} {at_ : Int} {n : Nat} {f : Nat → Int} {b : Bool} (h : saOut M at_ n f M1 b) : M1.total ≤ 108 := by
  rcases h with ⟨g, s, x, rfl, rfl⟩ | ⟨g, rfl, rfl⟩
  · rw [total_full]; omega
  · rw [total_zero]; omega
set_option maxHeartbeats 800000 in
theorem l1Place_yes (a n : Int) (w : World) (h : stretch a n) : Calls Try.prog 101 #[.int .i64 a, .int .i64 n] w fun e w' => e = .returned (.bool true) ∧ w' = w := by
  obtain ⟨h1, h2, h3⟩ := h
  go_enter Try.func101, Try.ntmps101
  go_wp2_with fail
  refine (l1At_yes _ _ h1.1 h1.2).mono ?_
  rintro e w ⟨rfl, rfl⟩
  go_wp2_with fail
  refine (l1In_yes _ _ _ _ h2.1 h2.2).mono ?_
  rintro e w ⟨rfl, rfl⟩
  obtain ⟨h11, h12⟩ := h1
  obtain ⟨h21, h22⟩ := h2
  have e1 : decide (a + n ≤ 48) = true := decide_eq_true h3
  go_wp2
  go_ret
  exact ⟨rfl, rfl⟩
set_option maxHeartbeats 800000 in
theorem l1Place_no (a n : Int) (w : World) (h : ¬ stretch a n) : Calls Try.prog 101 #[.int .i64 a, .int .i64 n] w fun e w' => e = .returned (.bool false) ∧ w' = w := by
  have HH : Hid (¬ stretch a n) := h
  clear h
  go_enter Try.func101, Try.ntmps101
  go_wp2_with fail
  by_cases h1 : 0 ≤ a ∧ a ≤ 47
  · refine (l1At_yes _ _ h1.1 h1.2).mono ?_
    rintro e w ⟨rfl, rfl⟩
    go_wp2_with fail
    by_cases h2 : 0 ≤ n ∧ n ≤ 8
    · refine (l1In_yes _ _ _ _ h2.1 h2.2).mono ?_
      rintro e w ⟨rfl, rfl⟩
      have h3 : ¬ (a + n ≤ 48) := fun h => HH.out ⟨h1, h2, h⟩
      obtain ⟨h11, h12⟩ := h1
      obtain ⟨h21, h22⟩ := h2
      have e1 : decide (a + n ≤ 48) = false := decide_eq_false h3
      go_wp2
      go_ret
      exact ⟨rfl, rfl⟩
    · have N2 : Hid (¬ (0 ≤ n ∧ n ≤ 8)) := h2
      clear h2 h1
      refine (l1In_no _ _ _ _ N2.out).mono ?_
      rintro e w ⟨rfl, rfl⟩
      go_wp2
      go_ret
      exact ⟨rfl, rfl⟩
  · have N1 : Hid (¬ (0 ≤ a ∧ a ≤ 47)) := h1
    clear h1
    refine (l1At_no _ _ N1.out).mono ?_
    rintro e w ⟨rfl, rfl⟩
    go_wp2
    go_ret
    exact ⟨rfl, rfl⟩
set_option maxHeartbeats 1600000 in
theorem specStoreAll_any (m : MV) (M : MD) (Y Y2 : Nat → Prop) (w : World) (at_ : Int) (ao : Option Addr) (n c : Nat) (f : Nat → Int) (h : MemAt Y w m M) (hI : IntsAt Y2 w ao n f) :
    Calls Try.prog 36 #[m.val M, .int .i64 at_, .slice ao n c] w (Gives (saOut M at_ n f) w) := by
  go_enter Try.func36, Try.ntmps36
  go_wp2_with fail
  have hb0 : Blw w ((w.alloc (.cells #[.slice m.a1 M.n1 m.c1, .slice m.a2 M.n2 m.c2, .slice m.a3 M.n3 m.c3] 26)).alloc (.cells #[.slice none 0 0, .slice none 0 0, .slice none 0 0] 26)) := ((Blw.refl _).alloc _).alloc _
  have rA := (box3 w (.slice m.a1 M.n1 m.c1) (.slice m.a2 M.n2 m.c2) (.slice m.a3 M.n3 m.c3) 26).blw ((Blw.refl _).alloc (.cells #[.slice none 0 0, .slice none 0 0, .slice none 0 0] 26))
  have rR := res_row w (.slice m.a1 M.n1 m.c1) (.slice m.a2 M.n2 m.c2) (.slice m.a3 M.n3 m.c3)
  refine (goodS_any m M Y _ (h.blw hb0)).mono ?_
  rintro e w1 ⟨b, rfl, hgd, hb1⟩
  replace rA := rA.blw hb1
  replace rR := rR.blw hb1
  replace hb1 := hb0.trans hb1
  replace h := h.blw hb1
  clear hb0
  have HG : Hid (b = true ↔ M.Good) := hgd
  clear hgd
  cases b
  · have NG : Hid (¬ M.Good) := fun g => absurd (HG.out.2 g) (by decide)
    obtain ⟨⟨x0, x1, x2⟩, f0, f1, f2⟩ := res6 rR
    clear HG rA h rR
    go_wp2
    exact bodyPost_ret (v := .tuple #[.agg #[.slice none 0 0, .slice none 0 0, .slice none 0 0], .bool false]) (by simp [results, Try.results36, go_sem, x0, x1, x2]) rfl (zero_gives (Or.inr ⟨fun g => NG.out g.1, rfl, rfl⟩) hb1)
  · have GD : Hid M.Good := HG.out.1 rfl
    clear HG
    by_cases hst : stretch at_ n
    · have HT : Hid (stretch at_ n) := hst
      clear hst
      go_wp2_with fail
      refine (l1Place_yes _ _ _ HT.out).mono ?_
      rintro e w1 ⟨rfl, rfl⟩
      go_wp2_with fail
      by_cases hx : ∀ i, i < n → 0 ≤ f i ∧ f i ≤ 65535
      · have HX : Hid (∀ i, i < n → 0 ≤ f i ∧ f i ≤ 65535) := hx
        clear hx
        refine (l1All_yes ao c n f 0 65535 _ _ (hI.blw hb1) HX.out).mono ?_
        rintro e w1 ⟨rfl, rfl⟩
        obtain ⟨p0, p1, p2⟩ := get3 rA
        go_wp2_with fail
        clear p0 p1 p2
        refine (l1Own_any m M Y _ GD.out h).mono ?_
        rintro e w2 ⟨m2, rfl, own, hb2⟩
        simp only [MV.val, MD.full]
        have rlt := rR.lt
        have HM : Hid _ := Mine.start (hb1.trans hb2) rlt (rR.blw hb2) own
        clear rA h hb1 own rR rlt hb2
        go_wp2_with fail
        obtain ⟨a, rfl⟩ := Int.eq_ofNat_of_zero_le HT.out.1.1
        have ha : a + n ≤ 48 := by have := HT.out.2.2; omega
        have hn8 : n ≤ 8 := by have := HT.out.2.1.2; omega
        revert HM
        generalize w2.heap.size = z
        generalize w2.alloc (.cells #[.slice m2.a1 12 m2.c1, .slice m2.a2 12 m2.c2, .slice m2.a3 12 m2.c3] 26) = w3
        intro HM
        go_loopw [31] (fun i wr => ∃ k : Nat, k ≤ n ∧ i = .int .i64 k ∧ Mine w wr z m2 M.v1 (saC M.v2 a f k) (saD M.d a k)) (fun i _ => n - (intOf i).toNat)
        case atStart => exact ⟨0, by omega, rfl, HM.out⟩
        case round =>
          obtain ⟨k, hk, rfl, I⟩ := hrel
          clear HM
          by_cases hlt : k < n
          · obtain ⟨b0, o0, rfl, -, cell⟩ := (hI.blw I.blw).2 k hlt
            obtain ⟨q0, q1, q2⟩ := get3 I.box
            obtain ⟨X, own, hx⟩ := I.own
            have HXX : Hid (∀ b, X b → w.heap.size + 1 < b ∧ b < wr.heap.size ∧ b ≠ z) := hx
            clear hx
            have hlt' : (k : Int) < n := by omega
            go_wp2_with fail
            have ek : ((a : Int) + (k : Int)) = ((a + k : Nat) : Int) := by omega
            rw [ek]
            clear ek
            refine (l1Store_any m2 _ _ _ X _ (a + k) (f k) (by omega) own (fun b hb => (HXX.out b hb).2.1)).mono ?_
            rintro e w4 ⟨⟨v, rfl⟩, own4, hm4⟩
            have I' : Mine w w4 z m2 M.v1 (saC M.v2 a f (k + 1)) (saD M.d a (k + 1)) := I.store HXX.out own4 hm4
            clear I own own4 hm4 q0 q1 q2 cell
            go_wp2
            go_roundw
            case rel => exact ⟨k + 1, by omega, by go_num, I'⟩
            case measure => simp [intOf]; omega
          · obtain rfl : k = n := by omega
            obtain ⟨q0, q1, q2⟩ := get3 I.box
            obtain ⟨⟨x0, x1, x2⟩, f0, f1, f2⟩ := res6 I.res
            obtain ⟨X, own, hx⟩ := I.own
            have HXX : Hid (∀ b, X b → w.heap.size + 1 < b ∧ b < wr.heap.size ∧ b ≠ z) := hx
            clear hx
            go_wp2
            exact bodyPost_ret (v := .tuple #[.agg #[.slice m2.a1 12 m2.c1, .slice m2.a2 12 m2.c2, .slice m2.a3 12 m2.c3], .bool true]) (by simp [results, Try.results36, go_sem, x0, x1, x2]) rfl (some_gives (Or.inl ⟨GD.out, HT.out, HX.out, rfl, rfl⟩) I.blw own (fun b hb => ⟨(HXX.out b hb).1, (HXX.out b hb).2.1⟩) rfl)
      · have NX : Hid (¬ ∀ i, i < n → 0 ≤ f i ∧ f i ≤ 65535) := hx
        have hx' : ∃ i, i < n ∧ ¬ (0 ≤ f i ∧ f i ≤ 65535) := Classical.byContradiction fun hh => NX.out fun i hi => Classical.byContradiction fun h3 => hh ⟨i, hi, h3⟩
        clear hx
        obtain ⟨i, hi, hx'⟩ := hx'
        have N3 : Hid _ := hx'
        clear hx'
        obtain ⟨⟨x0, x1, x2⟩, f0, f1, f2⟩ := res6 rR
        refine (l1All_no ao c n f 0 65535 _ _ (hI.blw hb1) i hi N3.out).mono ?_
        rintro e w1 ⟨rfl, rfl⟩
        clear rA h rR hi
        go_wp2
        exact bodyPost_ret (v := .tuple #[.agg #[.slice none 0 0, .slice none 0 0, .slice none 0 0], .bool false]) (by simp [results, Try.results36, go_sem, x0, x1, x2]) rfl (zero_gives (Or.inr ⟨fun g => NX.out g.2.2, rfl, rfl⟩) hb1)
    · have NX : Hid (¬ stretch at_ n) := hst
      obtain ⟨⟨x0, x1, x2⟩, f0, f1, f2⟩ := res6 rR
      clear hst rA h rR
      go_wp2_with fail
      refine (l1Place_no _ _ _ NX.out).mono ?_
      rintro e w1 ⟨rfl, rfl⟩
      go_wp2
      exact bodyPost_ret (v := .tuple #[.agg #[.slice none 0 0, .slice none 0 0, .slice none 0 0], .bool false]) (by simp [results, Try.results36, go_sem, x0, x1, x2]) rfl (zero_gives (Or.inr ⟨fun g => NX.out g.2.1, rfl, rfl⟩) hb1)
end Go.Proofs.Ytnbcjdoohmjghaa
/- 'impl.StoreAll'. -/
namespace Go.Proofs.Ytnbcjdoohmjghaa
open Go.RowKit
set_option linter.unusedSimpArgs false
set_option maxHeartbeats 800000 in
theorem isStretch_yes (a n : Int) (w : World) (h : stretch a n) : Calls Try.prog 100 #[.int .i64 a, .int .i64 n] w fun e w' => e = .returned (.bool true) ∧ w' = w := by
  obtain ⟨⟨h1, h2⟩, ⟨h3, h4⟩, h5⟩ := h
  go_enter Try.func100, Try.ntmps100
  go_wp2_with fail
  refine (isPlace_yes _ _ h1 h2).mono ?_
  rintro e w ⟨rfl, rfl⟩
  have e1 : decide (a + n ≤ 48) = true := decide_eq_true h5
  have e2 : decide (0 ≤ n) = true := decide_eq_true h3
  have e3 : decide (n ≤ 8) = true := decide_eq_true h4
  go_wp2
  go_ret
  exact ⟨rfl, rfl⟩
set_option maxHeartbeats 800000 in
theorem isStretch_no (a n : Int) (w : World) (h : ¬ stretch a n) : Calls Try.prog 100 #[.int .i64 a, .int .i64 n] w fun e w' => e = .returned (.bool false) ∧ w' = w := by
  have HH : Hid (¬ stretch a n) := h
  clear h
  go_enter Try.func100, Try.ntmps100
  go_wp2_with fail
  by_cases h1 : 0 ≤ a ∧ a ≤ 47
  · refine (isPlace_yes _ _ h1.1 h1.2).mono ?_
    rintro e w ⟨rfl, rfl⟩
    by_cases h2 : 0 ≤ n
    · have e2 : decide (0 ≤ n) = true := decide_eq_true h2
      by_cases h3 : n ≤ 8
      · have e3 : decide (n ≤ 8) = true := decide_eq_true h3
        have h4 : ¬ (a + n ≤ 48) := fun h => HH.out ⟨h1, ⟨h2, h3⟩, h⟩
        have e1 : decide (a + n ≤ 48) = false := decide_eq_false h4
        obtain ⟨h11, h12⟩ := h1
        go_wp2
        go_ret
        exact ⟨rfl, rfl⟩
      · have e3 : decide (n ≤ 8) = false := decide_eq_false h3
        clear h1
        go_wp2
        go_ret
        exact ⟨rfl, rfl⟩
    · have e2 : decide (0 ≤ n) = false := decide_eq_false h2
      clear h1
      go_wp2
      go_ret
      exact ⟨rfl, rfl⟩
  · have N1 : Hid (¬ (0 ≤ a ∧ a ≤ 47)) := h1
    clear h1
    refine (isPlace_no _ _ N1.out).mono ?_
    rintro e w ⟨rfl, rfl⟩
    go_wp2
    go_ret
    exact ⟨rfl, rfl⟩
set_option maxRecDepth 10000 in
set_option maxHeartbeats 1600000 in
theorem implStoreAll_any (m : MV) (M : MD) (Y Y2 : Nat → Prop) (w : World) (at_ : Int) (ao : Option Addr) (n c : Nat) (f : Nat → Int) (h : MemAt Y w m M) (hI : IntsAt Y2 w ao n f) :
    Calls Try.prog 35 #[m.val M, .int .i64 at_, .slice ao n c] w (Gives (saOut M at_ n f) w) := by
  go_enter Try.func35, Try.ntmps35
  go_wp2_with fail
  have hb0 : Blw w ((w.alloc (.cells #[.slice m.a1 M.n1 m.c1, .slice m.a2 M.n2 m.c2, .slice m.a3 M.n3 m.c3] 26)).alloc (.cells #[.slice none 0 0, .slice none 0 0, .slice none 0 0] 26)) := ((Blw.refl _).alloc _).alloc _
  have rR := res_row w (.slice m.a1 M.n1 m.c1) (.slice m.a2 M.n2 m.c2) (.slice m.a3 M.n3 m.c3)
  refine (holdMemory_any m M Y _ (h.blw hb0)).mono ?_
  rintro e w1 ⟨hr, hb1⟩
  replace rR := rR.blw hb1
  replace hb1 := hb0.trans hb1
  have r79 := row79 w1
  have zw := hb1.size
  have rlt := rR.lt
  clear h hb0
  rcases hr with ⟨good, cs, z1, z2, rfl⟩ | ⟨bad, rfl⟩
  · have hi : (Try.prog.info? 98).map (·.size) = some cs.size := by rw [z1]; exact info79
    have one := one_cells' z1 z2
    have GD : Hid M.Good := good
    clear good
    go_wp2_with (refine wpList_store_row rfl 98 (.tmp 8) (.tmp 15) rfl w1.heap.size 0 cs rfl rfl 108 _ (hcell M.v1 M.v2 M.d) r79 (by omega) hi one (fun j hj => z2 j (by omega)) ?_; intro wz qz1 qz2 qz3; have hz := held_facts hb1 rR qz1 qz2 z1; obtain ⟨rH, hbz, rZ⟩ := hz; clear qz1 qz2 qz3)
    have zlt := rH.lt
    clear r79 hi one z1 z2 rR hb1
    by_cases hst : stretch at_ n
    · have HT : Hid (stretch at_ n) := hst
      clear hst
      refine (isStretch_yes _ _ _ HT.out).mono ?_
      rintro e wz ⟨rfl, rfl⟩
      go_wp2_with fail
      obtain ⟨a, rfl⟩ := Int.eq_ofNat_of_zero_le HT.out.1.1
      have ha : a + n ≤ 48 := by have := HT.out.2.2; omega
      have hn8 : n ≤ 8 := by have := HT.out.2.1.2; omega
      have HZ : Hid _ := And.intro rH (And.intro rZ hbz)
      clear rH rZ hbz zlt
      generalize w1.heap.size = z at *
      go_loopw [29] (fun i wr => ∃ k : Nat, k ≤ n ∧ i = .int .i64 k ∧ (∀ t, t < k → 0 ≤ f t ∧ f t ≤ 65535) ∧ Row wr z 108 (hcell M.v1 (saC M.v2 a f k) (saD M.d a k)) ∧ Row wr (w.heap.size + 1) 3 (fun _ => .slice none 0 0) ∧ Blw w wr) (fun i _ => n - (intOf i).toNat)
      case atStart => exact ⟨0, by omega, rfl, fun t ht => absurd ht (Nat.not_lt_zero _), HZ.out.1, HZ.out.2.1, HZ.out.2.2⟩
      case round =>
        obtain ⟨k, hk, rfl, hok, rH, rZ, hbz⟩ := hrel
        have HO : Hid (∀ t, t < k → 0 ≤ f t ∧ f t ≤ 65535) := hok
        clear HZ hok
        by_cases hlt : k < n
        · obtain ⟨b0, o0, rfl, -, cell⟩ := (hI.blw hbz).2 k hlt
          have hlt' : (k : Int) < n := by omega
          go_wp2_with fail
          by_cases hx : wordOK (f k)
          · have HX : Hid (wordOK (f k)) := hx
            clear hx
            refine (isWord_yes _ _ HX.out).mono ?_
            rintro e wr ⟨rfl, rfl⟩
            go_wp2_with fail
            have ek : ((a : Int) + (k : Int)) = ((a + k : Nat) : Int) := by omega
            rw [ek]
            clear ek
            refine (storeWord_any _ _ _ _ (a + k) (f k) _ (by omega) rH).mono ?_
            rintro e w4 ⟨⟨v, rfl⟩, rH4, hm4⟩
            have J : Row w4 z 108 (hcell M.v1 (saC M.v2 a f (k + 1)) (saD M.d a (k + 1))) ∧ Row w4 (w.heap.size + 1) 3 (fun _ => .slice none 0 0) ∧ Blw w w4 := ⟨rH4, rZ.mod hm4 (by omega), Mod.blw hbz hm4 (fun i hi => by omega)⟩
            have HO' : Hid (∀ t, t < k + 1 → 0 ≤ f t ∧ f t ≤ 65535) := fun t ht => by
              by_cases e : t = k
              · subst e; exact HX.out
              · exact HO.out t (by omega)
            clear rH rZ hbz rH4 hm4 cell HO
            go_wp2
            go_roundw
            case rel => exact ⟨k + 1, by omega, by go_num, HO'.out, J⟩
            case measure => simp [intOf]; omega
          · have NX : Hid (¬ wordOK (f k)) := hx
            clear hx
            obtain ⟨⟨x0, x1, x2⟩, f0, f1, f2⟩ := res6 rZ
            refine (isWord_no _ _ NX.out).mono ?_
            rintro e wr ⟨rfl, rfl⟩
            clear rH rZ cell
            go_wp2
            exact bodyPost_ret (v := .tuple #[.agg #[.slice none 0 0, .slice none 0 0, .slice none 0 0], .bool false]) (by simp [results, Try.results35, go_sem, x0, x1, x2]) rfl (zero_gives (Or.inr ⟨fun g => NX.out (g.2.2 k hlt), rfl, rfl⟩) hbz)
        · obtain rfl : k = n := by omega
          have zr := rZ.lt
          go_wp2_with fail
          refine (giveOut_any _ _ _ _ _ rH).mono ?_
          rintro e w7 ⟨m4, rfl, own, hb4⟩
          simp only [MV.val, MD.full]
          obtain ⟨⟨x0, x1, x2⟩, f0, f1, f2⟩ := res6 (rZ.blw hb4)
          replace hbz := hbz.trans hb4
          clear rH rZ hb4
          go_wp2
          exact bodyPost_ret (v := .tuple #[.agg #[.slice m4.a1 12 m4.c1, .slice m4.a2 12 m4.c2, .slice m4.a3 12 m4.c3], .bool true]) (by simp [results, Try.results35, go_sem, x0, x1, x2]) rfl (some_gives (Or.inl ⟨GD.out, HT.out, HO.out, rfl, rfl⟩) hbz own (fun b hb => by have := hb.1; have := hb.2; exact ⟨by omega, by omega⟩) rfl)
    · have NX : Hid (¬ stretch at_ n) := hst
      obtain ⟨⟨x0, x1, x2⟩, f0, f1, f2⟩ := res6 rZ
      clear hst rH rZ
      refine (isStretch_no _ _ _ NX.out).mono ?_
      rintro e wz ⟨rfl, rfl⟩
      go_wp2
      exact bodyPost_ret (v := .tuple #[.agg #[.slice none 0 0, .slice none 0 0, .slice none 0 0], .bool false]) (by simp [results, Try.results35, go_sem, x0, x1, x2]) rfl (zero_gives (Or.inr ⟨fun g => NX.out g.2.1, rfl, rfl⟩) hbz)
  · have NG : Hid (¬ M.Good) := bad
    clear bad
    go_wp2_with (refine wpList_store_row rfl 98 (.tmp 8) (.tmp 15) rfl w1.heap.size 0 Try.zeroCells98 rfl rfl 108 _ (hcell zeros zeros (fun _ => false)) r79 (by rw [size79]; omega) (by rw [size79]; exact info79) one79 cell79 ?_; intro wz qz1 qz2 qz3; have hz := held_facts hb1 rR qz1 qz2 size79; obtain ⟨rH, hbz, rZ⟩ := hz; obtain ⟨⟨x0, x1, x2⟩, f0, f1, f2⟩ := res6 rZ; clear qz1 qz2 qz3 rH rZ)
    exact bodyPost_ret (v := .tuple #[.agg #[.slice none 0 0, .slice none 0 0, .slice none 0 0], .bool false]) (by simp [results, Try.results35, go_sem, x0, x1, x2]) rfl (zero_gives (Or.inr ⟨fun g => NG.out g.1, rfl, rfl⟩) hbz)
end Go.Proofs.Ytnbcjdoohmjghaa
/- Slots: what is one, its sum, its line. -/
namespace Go.Proofs.Ytnbcjdoohmjghaa
open Go.RowKit
set_option linter.unusedSimpArgs false
abbrev slotV (e a b : Int) : Value := .agg #[.int .i64 e, .int .i64 a, .int .i64 b]
def epochOK (e : Int) : Prop := 1 ≤ e ∧ e ≤ 1000
def slotOK (e a b : Int) : Prop := epochOK e ∧ wordOK a ∧ wordOK b
def sumOf (e a b : Int) : Int := (e * 31 + a * 7 + b * 3 + 12345) % 65521
set_option maxHeartbeats 400000 in
theorem isEpoch_yes (n : Int) (w : World) (h : epochOK n) : Calls Try.prog 112 #[.int .i64 n] w fun e w' => e = .returned (.bool true) ∧ w' = w := by
  obtain ⟨h1, h2⟩ := h
  go_enter Try.func112, Try.ntmps112
  go_wp2
  go_ret
  exact ⟨rfl, rfl⟩
set_option maxHeartbeats 400000 in
theorem isEpoch_no (n : Int) (w : World) (h : ¬ epochOK n) : Calls Try.prog 112 #[.int .i64 n] w fun e w' => e = .returned (.bool false) ∧ w' = w := by
  by_cases h1 : 1 ≤ n
  · have h2 : ¬ n ≤ 1000 := fun h3 => h ⟨h1, h3⟩
    clear h
    go_enter Try.func112, Try.ntmps112
    go_wp2
    go_ret
    exact ⟨rfl, rfl⟩
  · clear h
    have hd : decide (1 ≤ n) = false := by simpa using h1
    go_enter Try.func112, Try.ntmps112
    go_wp2
    go_ret
    exact ⟨rfl, rfl⟩
set_option maxHeartbeats 800000 in
theorem isSlot_yes (e a b : Int) (w : World) (h : slotOK e a b) : Calls Try.prog 105 #[slotV e a b] w fun r w' => r = .returned (.bool true) ∧ Blw w w' := by
  have H : Hid (slotOK e a b) := h
  clear h
  have hb : Blw w (w.alloc (.cells #[.int .i64 e, .int .i64 a, .int .i64 b] 56)) := (Blw.refl _).alloc _
  go_enter Try.func105, Try.ntmps105
  go_wp2_with fail
  refine (isEpoch_yes _ _ H.out.1).mono ?_
  rintro r w1 ⟨rfl, rfl⟩
  go_wp2_with fail
  refine (isWord_yes _ _ H.out.2.1).mono ?_
  rintro r w1 ⟨rfl, rfl⟩
  go_wp2_with fail
  refine (isWord_yes _ _ H.out.2.2).mono ?_
  rintro r w1 ⟨rfl, rfl⟩
  go_wp2
  go_ret
  exact ⟨rfl, hb⟩
set_option maxHeartbeats 800000 in
theorem isSlot_no (e a b : Int) (w : World) (h : ¬ slotOK e a b) : Calls Try.prog 105 #[slotV e a b] w fun r w' => r = .returned (.bool false) ∧ Blw w w' := by
  have H : Hid (¬ slotOK e a b) := h
  clear h
  have hb : Blw w (w.alloc (.cells #[.int .i64 e, .int .i64 a, .int .i64 b] 56)) := (Blw.refl _).alloc _
  go_enter Try.func105, Try.ntmps105
  go_wp2_with fail
  by_cases h1 : epochOK e
  · refine (isEpoch_yes _ _ h1).mono ?_
    rintro r w1 ⟨rfl, rfl⟩
    have H1 : Hid (epochOK e) := h1
    clear h1
    go_wp2_with fail
    by_cases h2 : wordOK a
    · refine (isWord_yes _ _ h2).mono ?_
      rintro r w1 ⟨rfl, rfl⟩
      have H2 : Hid (wordOK a) := h2
      clear h2
      go_wp2_with fail
      refine (isWord_no _ _ (fun h3 => H.out ⟨H1.out, H2.out, h3⟩)).mono ?_
      rintro r w1 ⟨rfl, rfl⟩
      go_wp2
      go_ret
      exact ⟨rfl, hb⟩
    · refine (isWord_no _ _ h2).mono ?_
      rintro r w1 ⟨rfl, rfl⟩
      clear h2
      go_wp2
      go_ret
      exact ⟨rfl, hb⟩
  · refine (isEpoch_no _ _ h1).mono ?_
    rintro r w1 ⟨rfl, rfl⟩
    clear h1
    go_wp2
    go_ret
    exact ⟨rfl, hb⟩
set_option maxHeartbeats 800000 in
theorem l2Slot_yes (e a b : Int) (w : World) (h : slotOK e a b) : Calls Try.prog 108 #[slotV e a b] w fun r w' => r = .returned (.bool true) ∧ Blw w w' := by
  have H : Hid (slotOK e a b) := h
  clear h
  have hb : Blw w (w.alloc (.cells #[.int .i64 e, .int .i64 a, .int .i64 b] 56)) := (Blw.refl _).alloc _
  go_enter Try.func108, Try.ntmps108
  go_wp2_with fail
  refine (l1In_yes _ _ _ _ H.out.1.1 H.out.1.2).mono ?_
  rintro r w1 ⟨rfl, rfl⟩
  go_wp2_with fail
  refine (l1In_yes _ _ _ _ H.out.2.1.1 H.out.2.1.2).mono ?_
  rintro r w1 ⟨rfl, rfl⟩
  go_wp2_with fail
  refine (l1In_yes _ _ _ _ H.out.2.2.1 H.out.2.2.2).mono ?_
  rintro r w1 ⟨rfl, rfl⟩
  go_wp2
  go_ret
  exact ⟨rfl, hb⟩
set_option maxHeartbeats 800000 in
theorem l2Slot_no (e a b : Int) (w : World) (h : ¬ slotOK e a b) : Calls Try.prog 108 #[slotV e a b] w fun r w' => r = .returned (.bool false) ∧ Blw w w' := by
  have H : Hid (¬ slotOK e a b) := h
  clear h
  have hb : Blw w (w.alloc (.cells #[.int .i64 e, .int .i64 a, .int .i64 b] 56)) := (Blw.refl _).alloc _
  go_enter Try.func108, Try.ntmps108
  go_wp2_with fail
  by_cases h1 : epochOK e
  · refine (l1In_yes _ _ _ _ h1.1 h1.2).mono ?_
    rintro r w1 ⟨rfl, rfl⟩
    have H1 : Hid (epochOK e) := h1
    clear h1
    go_wp2_with fail
    by_cases h2 : wordOK a
    · refine (l1In_yes _ _ _ _ h2.1 h2.2).mono ?_
      rintro r w1 ⟨rfl, rfl⟩
      have H2 : Hid (wordOK a) := h2
      clear h2
      go_wp2_with fail
      refine (l1In_no _ _ _ _ (fun h3 => H.out ⟨H1.out, H2.out, h3⟩)).mono ?_
      rintro r w1 ⟨rfl, rfl⟩
      go_wp2
      go_ret
      exact ⟨rfl, hb⟩
    · refine (l1In_no _ _ _ _ h2).mono ?_
      rintro r w1 ⟨rfl, rfl⟩
      clear h2
      go_wp2
      go_ret
      exact ⟨rfl, hb⟩
  · refine (l1In_no _ _ _ _ h1).mono ?_
    rintro r w1 ⟨rfl, rfl⟩
    clear h1
    go_wp2
    go_ret
    exact ⟨rfl, hb⟩
/-- What SlotLine answers. -/
def slOut (e : Int) : Value := if 1 ≤ e ∧ e ≤ 1000 then .tuple #[.int .i64 (e % 2), .bool true] else .tuple #[.int .i64 0, .bool false]
set_option maxHeartbeats 800000 in
theorem implLine_any (e : Int) (w : World) : Calls Try.prog 62 #[.int .i64 e] w fun r w' => r = .returned (slOut e) ∧ w' = w := by
  go_enter Try.func62, Try.ntmps62
  go_wp2_with fail
  by_cases h : epochOK e
  · refine (isEpoch_yes _ _ h).mono ?_
    rintro r w1 ⟨rfl, rfl⟩
    obtain ⟨h1, h2⟩ := h
    go_wp2
    go_ret2
    exact ⟨by rw [slOut, if_pos ⟨h1, h2⟩]; rfl, rfl⟩
  · refine (isEpoch_no _ _ h).mono ?_
    rintro r w1 ⟨rfl, rfl⟩
    have H : Hid (¬ epochOK e) := h
    clear h
    go_wp2
    go_ret2
    exact ⟨by rw [slOut, if_neg (show ¬ (1 ≤ e ∧ e ≤ 1000) from H.out)]; rfl, rfl⟩
set_option maxHeartbeats 800000 in
theorem specLine_any (e : Int) (w : World) : Calls Try.prog 63 #[.int .i64 e] w fun r w' => r = .returned (slOut e) ∧ w' = w := by
  go_enter Try.func63, Try.ntmps63
  go_wp2_with fail
  by_cases h : epochOK e
  · refine (l1In_yes _ _ _ _ h.1 h.2).mono ?_
    rintro r w1 ⟨rfl, rfl⟩
    obtain ⟨h1, h2⟩ := h
    go_wp2
    go_ret2
    exact ⟨by rw [slOut, if_pos ⟨h1, h2⟩]; rfl, rfl⟩
  · refine (l1In_no _ _ _ _ h).mono ?_
    rintro r w1 ⟨rfl, rfl⟩
    have H : Hid (¬ epochOK e) := h
    clear h
    go_wp2
    go_ret2
    exact ⟨by rw [slOut, if_neg (show ¬ (1 ≤ e ∧ e ≤ 1000) from H.out)]; rfl, rfl⟩

theorem box5 (w : World) (a b c d e : Value) (t : TypeId) : Row (w.alloc (.cells #[a, b, c, d, e] t)) w.heap.size 5 (fun i => if i = 0 then a else if i = 1 then b else if i = 2 then c else if i = 3 then d else e) :=
  ⟨_, t, heap_alloc_new _ _, by simp, fun i hi => by
    match i, hi with
    | 0, _ => rfl
    | 1, _ => rfl
    | 2, _ => rfl
    | 3, _ => rfl
    | 4, _ => rfl⟩
theorem get5 {w : World} {B : Nat} {a b c d e : Value} (r : Row w B 5 (fun i => if i = 0 then a else if i = 1 then b else if i = 2 then c else if i = 3 then d else e)) :
    (w.cell? ⟨B, 0, none⟩ = some a ∧ w.cell? ⟨B, 1, none⟩ = some b ∧ w.cell? ⟨B, 2, none⟩ = some c ∧ w.cell? ⟨B, 3, none⟩ = some d ∧ w.cell? ⟨B, 4, none⟩ = some e) ∧
    (w.frozen? ⟨B, 0, none⟩ = false ∧ w.frozen? ⟨B, 1, none⟩ = false ∧ w.frozen? ⟨B, 2, none⟩ = false ∧ w.frozen? ⟨B, 3, none⟩ = false ∧ w.frozen? ⟨B, 4, none⟩ = false) :=
  ⟨⟨r.cell (i := 0) (by omega), r.cell (i := 1) (by omega), r.cell (i := 2) (by omega), r.cell (i := 3) (by omega), r.cell (i := 4) (by omega)⟩, r.frozen 0, r.frozen 1, r.frozen 2, r.frozen 3, r.frozen 4⟩
abbrev recV (l e a b s : Int) : Value := .agg #[.int .i64 l, .int .i64 e, .int .i64 a, .int .i64 b, .int .i64 s]
abbrev z5 : Array Value := #[.int .i64 0, .int .i64 0, .int .i64 0, .int .i64 0, .int .i64 0]
set_option maxHeartbeats 1600000 in
theorem recordOf_yes (e a b : Int) (w : World) (h : slotOK e a b) : Calls Try.prog 106 #[slotV e a b] w fun r w' => r = .returned (.tuple #[recV (e % 2) e a b (sumOf e a b), .bool true]) ∧ Blw w w' := by
  have H : Hid (slotOK e a b) := h
  clear h
  go_enter Try.func106, Try.ntmps106
  go_wp2_with fail
  have hb0 : Blw w ((w.alloc (.cells #[.int .i64 e, .int .i64 a, .int .i64 b] 56)).alloc (.cells z5 120)) := ((Blw.refl _).alloc _).alloc _
  have rA := (box3 w (.int .i64 e) (.int .i64 a) (.int .i64 b) 56).blw ((Blw.refl _).alloc (.cells z5 120))
  have rR := box5 (w.alloc (.cells #[.int .i64 e, .int .i64 a, .int .i64 b] 56)) (.int .i64 0) (.int .i64 0) (.int .i64 0) (.int .i64 0) (.int .i64 0) 120
  rw [World.size_alloc] at rR
  refine (isSlot_yes e a b _ H.out).mono ?_
  rintro r w1 ⟨rfl, hb1⟩
  obtain ⟨p0, p1, p2⟩ := get3 (rA.blw hb1)
  obtain ⟨⟨x0, x1, x2, x3, x4⟩, f0, f1, f2, f3, f4⟩ := get5 (rR.blw hb1)
  replace hb1 := hb0.trans hb1
  clear hb0 rA rR
  go_wp2_with fail
  refine (implLine_any e _).mono ?_
  rintro r w1 ⟨rfl, rfl⟩
  obtain ⟨⟨e1, e2⟩, ⟨a1, a2⟩, b1, b2⟩ := H.out
  clear H
  rw [slOut, if_pos ⟨e1, e2⟩]
  go_wp2
  exact bodyPost_ret (v := .tuple #[recV (e % 2) e a b (sumOf e a b), .bool true]) (by simp [results, Try.results106, go_sem, x0, x1, x2, x3, x4, sumOf]) rfl ⟨rfl, ((((hb1.setCell (Nat.le_succ _) _).setCell (Nat.le_succ _) _).setCell (Nat.le_succ _) _).setCell (Nat.le_succ _) _).setCell (Nat.le_succ _) _⟩
set_option maxHeartbeats 1600000 in
theorem recordOf_no (e a b : Int) (w : World) (h : ¬ slotOK e a b) : Calls Try.prog 106 #[slotV e a b] w fun r w' => r = .returned (.tuple #[.agg z5, .bool false]) ∧ Blw w w' := by
  have H : Hid (¬ slotOK e a b) := h
  clear h
  go_enter Try.func106, Try.ntmps106
  go_wp2_with fail
  have hb0 : Blw w ((w.alloc (.cells #[.int .i64 e, .int .i64 a, .int .i64 b] 56)).alloc (.cells z5 120)) := ((Blw.refl _).alloc _).alloc _
  have rR := box5 (w.alloc (.cells #[.int .i64 e, .int .i64 a, .int .i64 b] 56)) (.int .i64 0) (.int .i64 0) (.int .i64 0) (.int .i64 0) (.int .i64 0) 120
  rw [World.size_alloc] at rR
  refine (isSlot_no e a b _ H.out).mono ?_
  rintro r w1 ⟨rfl, hb1⟩
  obtain ⟨⟨x0, x1, x2, x3, x4⟩, f0, f1, f2, f3, f4⟩ := get5 (rR.blw hb1)
  replace hb1 := hb0.trans hb1
  clear hb0 rR
  go_wp2
  exact bodyPost_ret (v := .tuple #[.agg z5, .bool false]) (by simp [results, Try.results106, go_sem, x0, x1, x2, x3, x4]) rfl ⟨rfl, ((((hb1.setCell (Nat.le_succ _) _).setCell (Nat.le_succ _) _).setCell (Nat.le_succ _) _).setCell (Nat.le_succ _) _).setCell (Nat.le_succ _) _⟩
/-- What SlotSum answers. -/
def ssOut (e a b : Int) (r : Ending) : Prop := (slotOK e a b ∧ r = .returned (.tuple #[.int .i64 (sumOf e a b), .bool true])) ∨ (¬ slotOK e a b ∧ r = .returned (.tuple #[.int .i64 0, .bool false]))
theorem ssOut_same {e a b : Int} {r s : Ending} (h : ssOut e a b r) (k : ssOut e a b s) : r = s := by
  rcases h with ⟨g, rfl⟩ | ⟨g, rfl⟩ <;> rcases k with ⟨g', rfl⟩ | ⟨g', rfl⟩
  · rfl
  · exact absurd g g'
  · exact absurd g' g
  · rfl
set_option maxHeartbeats 1600000 in
theorem implSum_any (e a b : Int) (w : World) : Calls Try.prog 59 #[slotV e a b] w fun r w' => ssOut e a b r ∧ Blw w w' := by
  go_enter Try.func59, Try.ntmps59
  go_wp2_with fail
  have hb0 : Blw w (w.alloc (.cells #[.int .i64 e, .int .i64 a, .int .i64 b] 56)) := (Blw.refl _).alloc _
  by_cases h : slotOK e a b
  · have H : Hid (slotOK e a b) := h
    refine (recordOf_yes e a b _ h).mono ?_
    rintro r w1 ⟨rfl, hb1⟩
    clear h
    replace hb1 := (hb0.trans hb1).alloc (.cells #[.int .i64 (e % 2), .int .i64 e, .int .i64 a, .int .i64 b, .int .i64 (sumOf e a b)] 120)
    go_wp2
    go_ret2
    exact ⟨Or.inl ⟨H.out, rfl⟩, hb1⟩
  · have H : Hid (¬ slotOK e a b) := h
    refine (recordOf_no e a b _ h).mono ?_
    rintro r w1 ⟨rfl, hb1⟩
    clear h
    replace hb1 := (hb0.trans hb1).alloc (.cells z5 120)
    go_wp2
    go_ret2
    exact ⟨Or.inr ⟨H.out, rfl⟩, hb1⟩
set_option maxHeartbeats 1600000 in
theorem l2Sum_any (e a b : Int) (w : World) (h : slotOK e a b) : Calls Try.prog 109 #[slotV e a b] w fun r w' => r = .returned (.int .i64 (sumOf e a b)) ∧ Blw w w' := by
  obtain ⟨⟨e1, e2⟩, ⟨a1, a2⟩, b1, b2⟩ := h
  have hb0 : Blw w (w.alloc (.cells #[.int .i64 e, .int .i64 a, .int .i64 b] 56)) := (Blw.refl _).alloc _
  go_enter Try.func109, Try.ntmps109
  go_wp2
  go_ret
  exact ⟨by simp [sumOf, Int.mul_comm], hb0⟩
set_option maxHeartbeats 1600000 in
theorem specSum_any (e a b : Int) (w : World) : Calls Try.prog 60 #[slotV e a b] w fun r w' => ssOut e a b r ∧ Blw w w' := by
  go_enter Try.func60, Try.ntmps60
  go_wp2_with fail
  have hb0 : Blw w (w.alloc (.cells #[.int .i64 e, .int .i64 a, .int .i64 b] 56)) := (Blw.refl _).alloc _
  have rA := box3 w (.int .i64 e) (.int .i64 a) (.int .i64 b) 56
  by_cases h : slotOK e a b
  · have H : Hid (slotOK e a b) := h
    refine (l2Slot_yes e a b _ h).mono ?_
    rintro r w1 ⟨rfl, hb1⟩
    obtain ⟨p0, p1, p2⟩ := get3 (rA.blw hb1)
    replace hb1 := hb0.trans hb1
    clear h rA hb0
    go_wp2_with fail
    refine (l2Sum_any e a b _ H.out).mono ?_
    rintro r w2 ⟨rfl, hb2⟩
    replace hb2 := hb1.trans hb2
    go_wp2
    go_ret2
    exact ⟨Or.inl ⟨H.out, rfl⟩, hb2⟩
  · have H : Hid (¬ slotOK e a b) := h
    refine (l2Slot_no e a b _ h).mono ?_
    rintro r w1 ⟨rfl, hb1⟩
    replace hb1 := hb0.trans hb1
    clear h rA hb0
    go_wp2
    go_ret2
    exact ⟨Or.inr ⟨H.out, rfl⟩, hb1⟩
set_option maxHeartbeats 1600000 in
theorem toSlot_any (e a b : Int) (w : World) : Calls Try.prog 64 #[slotV e a b] w fun r w' => r = .returned (slotV e a b) ∧ Blw w w' := by
  go_enter Try.func64, Try.ntmps64
  go_wp2
  exact bodyPost_ret (v := slotV e a b) (by simp [results, Try.results64, go_sem]) rfl ⟨rfl, (((Blw.refl _).alloc _).alloc _).alloc _⟩
end Go.Proofs.Ytnbcjdoohmjghaa
/- The next slot, whether two are alike, and the laws on SlotSum, SlotLine, NextSlot. -/
namespace Go.Proofs.Ytnbcjdoohmjghaa
open Go.RowKit
set_option linter.unusedSimpArgs false
/-- What NextSlot answers. -/
def nxOut (e a0 b0 a b : Int) (e' a' b' : Int) (ok : Bool) : Prop := (slotOK e a0 b0 ∧ slotOK (e + 1) a b ∧ e' = e + 1 ∧ a' = a ∧ b' = b ∧ ok = true) ∨ (¬ (slotOK e a0 b0 ∧ slotOK (e + 1) a b) ∧ e' = 0 ∧ a' = 0 ∧ b' = 0 ∧ ok = false)
theorem nxOut_same {e a0 b0 a b e1 a1 b1 e2 a2 b2 : Int} {o1 o2 : Bool} (h : nxOut e a0 b0 a b e1 a1 b1 o1) (k : nxOut e a0 b0 a b e2 a2 b2 o2) : e1 = e2 ∧ a1 = a2 ∧ b1 = b2 ∧ o1 = o2 := by
  rcases h with ⟨g, g2, rfl, rfl, rfl, rfl⟩ | ⟨g, rfl, rfl, rfl, rfl⟩ <;> rcases k with ⟨g', g2', rfl, rfl, rfl, rfl⟩ | ⟨g', rfl, rfl, rfl, rfl⟩
  · exact ⟨rfl, rfl, rfl, rfl⟩
  · exact absurd ⟨g, g2⟩ g'
  · exact absurd ⟨g', g2'⟩ g
  · exact ⟨rfl, rfl, rfl, rfl⟩
set_option maxHeartbeats 1600000 in
theorem implNext_any (e a0 b0 a b : Int) (w : World) : Calls Try.prog 45 #[slotV e a0 b0, .int .i64 a, .int .i64 b] w fun r w' => ∃ e' a' b' ok, r = .returned (.tuple #[slotV e' a' b', .bool ok]) ∧ nxOut e a0 b0 a b e' a' b' ok ∧ Blw w w' := by
  have rR : ∀ o : Obj, Row (((w.alloc (.cells #[.int .i64 e, .int .i64 a0, .int .i64 b0] 56)).alloc (.cells #[.int .i64 0, .int .i64 0, .int .i64 0] 56)).alloc o) (w.heap.size + 1) 3 (fun i => if i = 0 then Value.int .i64 0 else if i = 1 then .int .i64 0 else .int .i64 0) := fun o => by
    have := (box3 (w.alloc (.cells #[.int .i64 e, .int .i64 a0, .int .i64 b0] 56)) (.int .i64 0) (.int .i64 0) (.int .i64 0) 56).blw ((Blw.refl _).alloc o)
    rw [World.size_alloc] at this
    exact this
  have hb0 : ∀ o : Obj, Blw w (((w.alloc (.cells #[.int .i64 e, .int .i64 a0, .int .i64 b0] 56)).alloc (.cells #[.int .i64 0, .int .i64 0, .int .i64 0] 56)).alloc o) := fun o => (((Blw.refl _).alloc _).alloc _).alloc _
  have rN := fun x : Int => box3 ((w.alloc (.cells #[.int .i64 e, .int .i64 a0, .int .i64 b0] 56)).alloc (.cells #[.int .i64 0, .int .i64 0, .int .i64 0] 56)) (.int .i64 x) (.int .i64 a) (.int .i64 b) 56
  simp only [World.size_alloc] at rN
  go_enter Try.func45, Try.ntmps45
  by_cases h : slotOK e a0 b0
  · have H : Hid (slotOK e a0 b0) := h
    obtain ⟨⟨e1, e2⟩, -⟩ := h
    replace rR := rR (.cells #[.int .i64 (e + 1), .int .i64 a, .int .i64 b] 56)
    replace hb0 := hb0 (.cells #[.int .i64 (e + 1), .int .i64 a, .int .i64 b] 56)
    replace rN := rN (e + 1)
    go_wp2_with fail
    refine (isSlot_yes e a0 b0 _ H.out).mono ?_
    rintro r w1 ⟨rfl, hb1⟩
    replace rR := rR.blw hb1
    replace rN := rN.blw hb1
    replace hb1 := hb0.trans hb1
    obtain ⟨p0, p1, p2⟩ := get3 rN
    clear hb0
    go_wp2_with fail
    by_cases h2 : slotOK (e + 1) a b
    · have H2 : Hid (slotOK (e + 1) a b) := h2
      refine (isSlot_yes (e + 1) a b _ h2).mono ?_
      rintro r w2 ⟨rfl, hb2⟩
      clear h2 p0 p1 p2
      obtain ⟨p0, p1, p2⟩ := get3 (rN.blw hb2)
      obtain ⟨x0, x1, x2⟩ := get3 (rR.blw hb2)
      have f0 := (rR.blw hb2).frozen 0
      have f1 := (rR.blw hb2).frozen 1
      have f2 := (rR.blw hb2).frozen 2
      replace hb2 := hb1.trans hb2
      clear rN rR hb1 e1 e2
      go_wp2
      exact bodyPost_ret (v := .tuple #[slotV (e + 1) a b, .bool true]) (by simp [results, Try.results45, go_sem, x0, x1, x2]) rfl ⟨_, _, _, _, rfl, Or.inl ⟨H.out, H2.out, rfl, rfl, rfl, rfl⟩, ((hb2.setCell (Nat.le_succ _) _).setCell (Nat.le_succ _) _).setCell (Nat.le_succ _) _⟩
    · have H2 : Hid (¬ slotOK (e + 1) a b) := h2
      refine (isSlot_no (e + 1) a b _ h2).mono ?_
      rintro r w2 ⟨rfl, hb2⟩
      clear h2 p0 p1 p2
      obtain ⟨x0, x1, x2⟩ := get3 (rR.blw hb2)
      have f0 := (rR.blw hb2).frozen 0
      have f1 := (rR.blw hb2).frozen 1
      have f2 := (rR.blw hb2).frozen 2
      replace hb2 := hb1.trans hb2
      clear rN rR hb1 e1 e2
      go_wp2
      exact bodyPost_ret (v := .tuple #[slotV 0 0 0, .bool false]) (by simp [results, Try.results45, go_sem, x0, x1, x2]) rfl ⟨_, _, _, _, rfl, Or.inr ⟨fun g => H2.out g.2, rfl, rfl, rfl, rfl⟩, ((hb2.setCell (Nat.le_succ _) _).setCell (Nat.le_succ _) _).setCell (Nat.le_succ _) _⟩
  · have H : Hid (¬ slotOK e a0 b0) := h
    clear h
    replace rR := rR (.cells #[.int .i64 (wrap64 (e + 1)), .int .i64 a, .int .i64 b] 56)
    replace hb0 := hb0 (.cells #[.int .i64 (wrap64 (e + 1)), .int .i64 a, .int .i64 b] 56)
    clear rN
    go_wp2_with fail
    refine (isSlot_no e a0 b0 _ H.out).mono ?_
    rintro r w1 ⟨rfl, hb1⟩
    obtain ⟨x0, x1, x2⟩ := get3 (rR.blw hb1)
    have f0 := (rR.blw hb1).frozen 0
    have f1 := (rR.blw hb1).frozen 1
    have f2 := (rR.blw hb1).frozen 2
    replace hb1 := hb0.trans hb1
    clear rR hb0
    go_wp2
    exact bodyPost_ret (v := .tuple #[slotV 0 0 0, .bool false]) (by simp [results, Try.results45, go_sem, x0, x1, x2]) rfl ⟨_, _, _, _, rfl, Or.inr ⟨fun g => H.out g.1, rfl, rfl, rfl, rfl⟩, ((hb1.setCell (Nat.le_succ _) _).setCell (Nat.le_succ _) _).setCell (Nat.le_succ _) _⟩
set_option maxHeartbeats 1600000 in
theorem specNext_any (e a0 b0 a b : Int) (w : World) : Calls Try.prog 57 #[slotV e a0 b0, .int .i64 a, .int .i64 b] w fun r w' => ∃ e' a' b' ok, r = .returned (.tuple #[slotV e' a' b', .bool ok]) ∧ nxOut e a0 b0 a b e' a' b' ok ∧ Blw w w' := by
  have rR : ∀ o : Obj, Row (((w.alloc (.cells #[.int .i64 e, .int .i64 a0, .int .i64 b0] 56)).alloc (.cells #[.int .i64 0, .int .i64 0, .int .i64 0] 56)).alloc o) (w.heap.size + 1) 3 (fun i => if i = 0 then Value.int .i64 0 else if i = 1 then .int .i64 0 else .int .i64 0) := fun o => by
    have := (box3 (w.alloc (.cells #[.int .i64 e, .int .i64 a0, .int .i64 b0] 56)) (.int .i64 0) (.int .i64 0) (.int .i64 0) 56).blw ((Blw.refl _).alloc o)
    rw [World.size_alloc] at this
    exact this
  have hb0 : ∀ o : Obj, Blw w (((w.alloc (.cells #[.int .i64 e, .int .i64 a0, .int .i64 b0] 56)).alloc (.cells #[.int .i64 0, .int .i64 0, .int .i64 0] 56)).alloc o) := fun o => (((Blw.refl _).alloc _).alloc _).alloc _
  have rN := fun x : Int => box3 ((w.alloc (.cells #[.int .i64 e, .int .i64 a0, .int .i64 b0] 56)).alloc (.cells #[.int .i64 0, .int .i64 0, .int .i64 0] 56)) (.int .i64 x) (.int .i64 a) (.int .i64 b) 56
  simp only [World.size_alloc] at rN
  go_enter Try.func57, Try.ntmps57
  by_cases h : slotOK e a0 b0
  · have H : Hid (slotOK e a0 b0) := h
    obtain ⟨⟨e1, e2⟩, -⟩ := h
    replace rR := rR (.cells #[.int .i64 (e + 1), .int .i64 a, .int .i64 b] 56)
    replace hb0 := hb0 (.cells #[.int .i64 (e + 1), .int .i64 a, .int .i64 b] 56)
    replace rN := rN (e + 1)
    go_wp2_with fail
    refine (l2Slot_yes e a0 b0 _ H.out).mono ?_
    rintro r w1 ⟨rfl, hb1⟩
    replace rR := rR.blw hb1
    replace rN := rN.blw hb1
    replace hb1 := hb0.trans hb1
    obtain ⟨p0, p1, p2⟩ := get3 rN
    clear hb0
    go_wp2_with fail
    by_cases h2 : slotOK (e + 1) a b
    · have H2 : Hid (slotOK (e + 1) a b) := h2
      refine (l2Slot_yes (e + 1) a b _ h2).mono ?_
      rintro r w2 ⟨rfl, hb2⟩
      clear h2 p0 p1 p2
      obtain ⟨p0, p1, p2⟩ := get3 (rN.blw hb2)
      obtain ⟨x0, x1, x2⟩ := get3 (rR.blw hb2)
      have f0 := (rR.blw hb2).frozen 0
      have f1 := (rR.blw hb2).frozen 1
      have f2 := (rR.blw hb2).frozen 2
      replace hb2 := hb1.trans hb2
      clear rN rR hb1 e1 e2
      go_wp2
      exact bodyPost_ret (v := .tuple #[slotV (e + 1) a b, .bool true]) (by simp [results, Try.results57, go_sem, x0, x1, x2]) rfl ⟨_, _, _, _, rfl, Or.inl ⟨H.out, H2.out, rfl, rfl, rfl, rfl⟩, ((hb2.setCell (Nat.le_succ _) _).setCell (Nat.le_succ _) _).setCell (Nat.le_succ _) _⟩
    · have H2 : Hid (¬ slotOK (e + 1) a b) := h2
      refine (l2Slot_no (e + 1) a b _ h2).mono ?_
      rintro r w2 ⟨rfl, hb2⟩
      clear h2 p0 p1 p2
      obtain ⟨x0, x1, x2⟩ := get3 (rR.blw hb2)
      have f0 := (rR.blw hb2).frozen 0
      have f1 := (rR.blw hb2).frozen 1
      have f2 := (rR.blw hb2).frozen 2
      replace hb2 := hb1.trans hb2
      clear rN rR hb1 e1 e2
      go_wp2
      exact bodyPost_ret (v := .tuple #[slotV 0 0 0, .bool false]) (by simp [results, Try.results57, go_sem, x0, x1, x2]) rfl ⟨_, _, _, _, rfl, Or.inr ⟨fun g => H2.out g.2, rfl, rfl, rfl, rfl⟩, ((hb2.setCell (Nat.le_succ _) _).setCell (Nat.le_succ _) _).setCell (Nat.le_succ _) _⟩
  · have H : Hid (¬ slotOK e a0 b0) := h
    clear h
    replace rR := rR (.cells #[.int .i64 (wrap64 (e + 1)), .int .i64 a, .int .i64 b] 56)
    replace hb0 := hb0 (.cells #[.int .i64 (wrap64 (e + 1)), .int .i64 a, .int .i64 b] 56)
    clear rN
    go_wp2_with fail
    refine (l2Slot_no e a0 b0 _ H.out).mono ?_
    rintro r w1 ⟨rfl, hb1⟩
    obtain ⟨x0, x1, x2⟩ := get3 (rR.blw hb1)
    have f0 := (rR.blw hb1).frozen 0
    have f1 := (rR.blw hb1).frozen 1
    have f2 := (rR.blw hb1).frozen 2
    replace hb1 := hb0.trans hb1
    clear rR hb0
    go_wp2
    exact bodyPost_ret (v := .tuple #[slotV 0 0 0, .bool false]) (by simp [results, Try.results57, go_sem, x0, x1, x2]) rfl ⟨_, _, _, _, rfl, Or.inr ⟨fun g => H.out g.1, rfl, rfl, rfl, rfl⟩, ((hb1.setCell (Nat.le_succ _) _).setCell (Nat.le_succ _) _).setCell (Nat.le_succ _) _⟩
set_option maxHeartbeats 1600000 in
theorem eqSlot_same (e a b : Int) (w : World) : Calls Try.prog 73 #[slotV e a b, slotV e a b] w fun r w' => r = .returned (.bool true) ∧ Blw w w' := by
  have n1 : (e != e) = false := by simp
  have n2 : (a != a) = false := by simp
  have n3 : (b != b) = false := by simp
  go_enter Try.func73, Try.ntmps73
  go_wp2
  go_ret
  exact ⟨rfl, ((Blw.refl _).alloc _).alloc _⟩
set_option maxHeartbeats 1600000 in
theorem lawLine_any (e : Int) (w : World) : Calls Try.prog 12 #[.int .i64 e] w fun r w' => r = .returned (.bool true) ∧ Blw w w' := by
  go_enter Try.func12, Try.ntmps12
  go_wp2_with fail
  refine (specLine_any e _).mono ?_
  rintro r w1 ⟨rfl, rfl⟩
  obtain ⟨x, ok, hx⟩ : ∃ x ok, slOut e = .tuple #[.int .i64 x, .bool ok] := by unfold slOut; split; exact ⟨_, _, rfl⟩; exact ⟨_, _, rfl⟩
  rw [hx]
  go_wp2_with fail
  refine (implLine_any e _).mono ?_
  rintro r w1 ⟨rfl, rfl⟩
  rw [hx]
  have n1 : (x != x) = false := by simp
  have n2 : (ok != ok) = false := by simp
  go_wp2
  go_ret
  exact ⟨rfl, Blw.refl _⟩
set_option maxHeartbeats 1600000 in
theorem lawSum_any (e a b : Int) (w : World) : Calls Try.prog 7 #[slotV e a b] w fun r w' => r = .returned (.bool true) ∧ Blw w w' := by
  go_enter Try.func7, Try.ntmps7
  go_wp2_with fail
  have hb0 : Blw w (w.alloc (.cells #[.int .i64 e, .int .i64 a, .int .i64 b] 72)) := (Blw.refl _).alloc _
  have rA := box3 w (.int .i64 e) (.int .i64 a) (.int .i64 b) 72
  refine (toSlot_any e a b _).mono ?_
  rintro r w1 ⟨rfl, hb1⟩
  replace rA := rA.blw hb1
  replace hb1 := hb0.trans hb1
  clear hb0
  go_wp2_with fail
  refine (specSum_any e a b _).mono ?_
  rintro r w2 ⟨hs, hb2⟩
  replace rA := rA.blw hb2
  replace hb2 := hb1.trans hb2
  obtain ⟨x, ok, hx⟩ : ∃ x ok, r = .returned (.tuple #[.int .i64 x, .bool ok]) := by rcases hs with ⟨-, h⟩ | ⟨-, h⟩ <;> exact ⟨_, _, h⟩
  subst hx
  have HS : Hid (ssOut e a b (.returned (.tuple #[.int .i64 x, .bool ok]))) := hs
  obtain ⟨p0, p1, p2⟩ := get3 rA
  clear hb1 hs
  go_wp2_with fail
  refine (toSlot_any e a b _).mono ?_
  rintro r w3 ⟨rfl, hb3⟩
  replace hb3 := hb2.trans hb3
  clear p0 p1 p2 hb2 rA
  go_wp2_with fail
  refine (implSum_any e a b _).mono ?_
  rintro r w4 ⟨hs, hb4⟩
  obtain rfl := ssOut_same hs HS.out
  replace hb4 := hb3.trans hb4
  clear hs hb3
  have n1 : (x != x) = false := by simp
  have n2 : (ok != ok) = false := by simp
  go_wp2
  go_ret
  exact ⟨rfl, hb4⟩
set_option maxHeartbeats 1600000 in
theorem lawNext_any (e a0 b0 a b : Int) (w : World) : Calls Try.prog 11 #[slotV e a0 b0, .int .i64 a, .int .i64 b] w fun r w' => r = .returned (.bool true) ∧ Blw w w' := by
  go_enter Try.func11, Try.ntmps11
  go_wp2_with fail
  have hb0 : Blw w (w.alloc (.cells #[.int .i64 e, .int .i64 a0, .int .i64 b0] 72)) := (Blw.refl _).alloc _
  have rA := box3 w (.int .i64 e) (.int .i64 a0) (.int .i64 b0) 72
  refine (toSlot_any e a0 b0 _).mono ?_
  rintro r w1 ⟨rfl, hb1⟩
  replace rA := rA.blw hb1
  replace hb1 := hb0.trans hb1
  clear hb0
  go_wp2_with fail
  refine (specNext_any e a0 b0 a b _).mono ?_
  rintro r w2 ⟨e', a', b', ok, rfl, hs, hb2⟩
  have hA : Blw w2 (w2.alloc (.cells #[.int .i64 e', .int .i64 a', .int .i64 b'] 56)) := (Blw.refl _).alloc _
  replace rA := (rA.blw hb2).blw hA
  replace hb2 := (hb1.trans hb2).trans hA
  have rS := box3 w2 (.int .i64 e') (.int .i64 a') (.int .i64 b') 56
  have HS : Hid (nxOut e a0 b0 a b e' a' b' ok) := hs
  obtain ⟨p0, p1, p2⟩ := get3 rA
  clear hb1 hs hA
  go_wp2_with fail
  refine (toSlot_any e a0 b0 _).mono ?_
  rintro r w3 ⟨rfl, hb3⟩
  replace rS := rS.blw hb3
  replace hb3 := hb2.trans hb3
  clear p0 p1 p2 hb2 rA
  go_wp2_with fail
  refine (implNext_any e a0 b0 a b _).mono ?_
  rintro r w4 ⟨e4, a4, b4, ok4, rfl, hs, hb4⟩
  obtain ⟨rfl, rfl, rfl, rfl⟩ := nxOut_same hs HS.out
  have hA : Blw w4 (w4.alloc (.cells #[.int .i64 e4, .int .i64 a4, .int .i64 b4] 56)) := (Blw.refl _).alloc _
  replace rS := (rS.blw hb4).blw hA
  replace hb4 := (hb3.trans hb4).trans hA
  obtain ⟨p0, p1, p2⟩ := get3 rS
  clear hs hb3 hA rS
  go_wp2_with fail
  refine (eqSlot_same e4 a4 b4 _).mono ?_
  rintro r w5 ⟨rfl, hb5⟩
  replace hb5 := hb4.trans hb5
  have n2 : (ok4 != ok4) = false := by simp
  clear hb4 p0 p1 p2
  go_wp2
  go_ret
  exact ⟨rfl, hb5⟩
end Go.Proofs.Ytnbcjdoohmjghaa
/- What stands in the laws on functions that answer a memory and a bool. -/
namespace Go.Proofs.Ytnbcjdoohmjghaa
open Go.RowKit
abbrev Box (W : World) (z : Nat) (m : MV) (M : MD) : Prop := Row W z 3 (fun i => if i = 0 then .slice m.a1 M.n1 m.c1 else if i = 1 then .slice m.a2 M.n2 m.c2 else .slice m.a3 M.n3 m.c3)
/-- The argument, the model's answer (at z3), the argument's copy (at z4), the program's answer (at z5). -/
structure LawSt (w W : World) (m m3 m4 m5 : MV) (M M3 M4 M5 : MD) (z3 z4 z5 : Nat) : Prop where
  hB : Blw w W
  h : MemAt (fun b => b < w.heap.size) W m M
  A : Box W w.heap.size m M
  at3 : MemAt (fun b => b < z3) W m3 M3
  b8 : Box W z3 m3 M3
  own4 : MemOwn (fun b => z3 < b ∧ b < z4) W m4 M4
  b10 : Box W z4 m4 M
  own5 : MemOwn (fun b => z4 < b ∧ b < z5) W m5 M5
  b11 : Box W z5 m5 M3
  o1 : w.heap.size < z3
  o2 : z3 < z4
  o3 : z4 < z5
  o4 : z5 < W.heap.size
theorem LawSt.blw {w W W' : World} {m m3 m4 m5 : MV} {M M3 M4 M5 : MD} {z3 z4 z5 : Nat} (S : LawSt w W m m3 m4 m5 M M3 M4 M5 z3 z4 z5) (hb : Blw W W') : LawSt w W' m m3 m4 m5 M M3 M4 M5 z3 z4 z5 :=
  ⟨S.hB.trans hb, S.h.blw hb, S.A.blw hb, S.at3.blw hb, S.b8.blw hb, S.own4.blw hb, S.b10.blw hb, S.own5.blw hb, S.b11.blw hb, S.o1, S.o2, S.o3, Nat.lt_of_lt_of_le S.o4 hb.size⟩
theorem LawSt.mark4 {w W W' : World} {m m3 m4 m5 : MV} {M M3 M4 M4' M5 : MD} {z3 z4 z5 : Nat} (S : LawSt w W m m3 m4 m5 M M3 M4 M5 z3 z4 z5) (hm : Mod (fun b => z3 < b ∧ b < z4) W W') (own : MemOwn (fun b => z3 < b ∧ b < z4) W' m4 M4') : LawSt w W' m m3 m4 m5 M M3 M4' M5 z3 z4 z5 := by
  have o1 := S.o1
  have o2 := S.o2
  have o3 := S.o3
  exact ⟨Mod.blw S.hB hm (fun i hi => by omega), S.h.mod hm (fun b hb hh => by omega), S.A.mod hm (fun hh => by omega), S.at3.mod hm (fun b hb hh => by omega), S.b8.mod hm (fun hh => by omega), own, S.b10.mod hm (fun hh => by omega), S.own5.mod hm (fun b hb hh => by omega), S.b11.mod hm (fun hh => by omega), o1, o2, o3, Nat.lt_of_lt_of_le S.o4 hm.size⟩
theorem LawSt.mark5 {w W W' : World} {m m3 m4 m5 : MV} {M M3 M4 M5 M5' : MD} {z3 z4 z5 : Nat} (S : LawSt w W m m3 m4 m5 M M3 M4 M5 z3 z4 z5) (hm : Mod (fun b => z4 < b ∧ b < z5) W W') (own : MemOwn (fun b => z4 < b ∧ b < z5) W' m5 M5') : LawSt w W' m m3 m4 m5 M M3 M4 M5' z3 z4 z5 := by
  have o1 := S.o1
  have o2 := S.o2
  have o3 := S.o3
  exact ⟨Mod.blw S.hB hm (fun i hi => by omega), S.h.mod hm (fun b hb hh => by omega), S.A.mod hm (fun hh => by omega), S.at3.mod hm (fun b hb hh => by omega), S.b8.mod hm (fun hh => by omega), S.own4.mod hm (fun b hb hh => by omega), S.b10.mod hm (fun hh => by omega), own, S.b11.mod hm (fun hh => by omega), o1, o2, o3, Nat.lt_of_lt_of_le S.o4 hm.size⟩
theorem LawSt.start {w w3 w4 w5 : World} {m m3 m4 m5 : MV} {M M3 : MD} {Y3 : Nat → Prop} (hB : Blw w w3) (h : MemAt (fun b => b < w.heap.size) w3 m M) (A : Box w3 w.heap.size m M) (own3 : MemOwn Y3 w3 m3 M3) (hY : ∀ b, Y3 b → b < w3.heap.size)
    (hb4 : Blw (w3.alloc (.cells #[.slice m3.a1 M3.n1 m3.c1, .slice m3.a2 M3.n2 m3.c2, .slice m3.a3 M3.n3 m3.c3] 26)) w4)
    (own4 : MemOwn (fun b => (w3.alloc (.cells #[.slice m3.a1 M3.n1 m3.c1, .slice m3.a2 M3.n2 m3.c2, .slice m3.a3 M3.n3 m3.c3] 26)).heap.size ≤ b ∧ b < w4.heap.size) w4 m4 M)
    (hb5 : Blw (w4.alloc (.cells #[.slice m4.a1 M.n1 m4.c1, .slice m4.a2 M.n2 m4.c2, .slice m4.a3 M.n3 m4.c3] 26)) w5)
    (own5 : MemOwn (fun b => (w4.alloc (.cells #[.slice m4.a1 M.n1 m4.c1, .slice m4.a2 M.n2 m4.c2, .slice m4.a3 M.n3 m4.c3] 26)).heap.size ≤ b ∧ b < w5.heap.size) w5 m5 M3) :
    LawSt w (w5.alloc (.cells #[.slice m5.a1 M3.n1 m5.c1, .slice m5.a2 M3.n2 m5.c2, .slice m5.a3 M3.n3 m5.c3] 26)) m m3 m4 m5 M M3 M M3 w3.heap.size w4.heap.size w5.heap.size := by
  have a3 : Blw w3 (w3.alloc (.cells #[.slice m3.a1 M3.n1 m3.c1, .slice m3.a2 M3.n2 m3.c2, .slice m3.a3 M3.n3 m3.c3] 26)) := (Blw.refl _).alloc _
  have a4 : Blw w4 (w4.alloc (.cells #[.slice m4.a1 M.n1 m4.c1, .slice m4.a2 M.n2 m4.c2, .slice m4.a3 M.n3 m4.c3] 26)) := (Blw.refl _).alloc _
  have a5 : Blw w5 (w5.alloc (.cells #[.slice m5.a1 M3.n1 m5.c1, .slice m5.a2 M3.n2 m5.c2, .slice m5.a3 M3.n3 m5.c3] 26)) := (Blw.refl _).alloc _
  have c4 := hb4
  have c5 := (a4.trans hb5).trans a5
  have c45 := hb4.trans c5
  have c3 := a3.trans c45
  have s4 := hb4.size
  have s5 := hb5.size
  have sA := A.lt
  rw [World.size_alloc] at s4 s5
  refine ⟨hB.trans c3, h.blw c3, A.blw c3, (own3.mono hY).at.blw c3, (box3 w3 _ _ _ 26).blw c45, (own4.blw c5).mono (fun b hb => ⟨by have := hb.1; rw [World.size_alloc] at this; omega, hb.2⟩), (box3 w4 _ _ _ 26).blw (hb5.trans a5), (own5.blw a5).mono (fun b hb => ⟨by have := hb.1; rw [World.size_alloc] at this; omega, hb.2⟩), box3 w5 _ _ _ 26, sA, by omega, by omega, by rw [World.size_alloc]; omega⟩
theorem box_of {W : World} {z : Nat} {m : MV} {M : MD} (b : Box W z m M) : (W.cell? ⟨z, 0, none⟩ = some (.slice m.a1 M.n1 m.c1) ∧ W.cell? ⟨z, 1, none⟩ = some (.slice m.a2 M.n2 m.c2) ∧ W.cell? ⟨z, 2, none⟩ = some (.slice m.a3 M.n3 m.c3)) ∧
    ∀ o, ((W.alloc o).cell? ⟨z, 0, none⟩ = some (.slice m.a1 M.n1 m.c1) ∧ (W.alloc o).cell? ⟨z, 1, none⟩ = some (.slice m.a2 M.n2 m.c2) ∧ (W.alloc o).cell? ⟨z, 2, none⟩ = some (.slice m.a3 M.n3 m.c3)) :=
  ⟨get3 b, fun o => get3 (b.blw ((Blw.refl _).alloc o))⟩
end Go.Proofs.Ytnbcjdoohmjghaa
/- What stands in the laws on functions of a memory and a list of numbers that answer a memory and a bool. -/
namespace Go.Proofs.Ytnbcjdoohmjghaa
open Go.RowKit
theorem ints_row {w : World} {b n : Nat} {f : Nat → Int} (r : Row w b n (fun t => .int .i64 (f t))) (hn : n ≤ 1048576) : IntsAt (fun x => x = b) w (some ⟨b, 0, none⟩) n f :=
  ⟨by omega, fun i hi => ⟨b, 0, rfl, rfl, by rw [Nat.zero_add]; exact r.cell hi⟩⟩
theorem own_row {w : World} {b n : Nat} {f : Nat → Int} (r : Row w b n (fun t => .int .i64 (f t))) (hn : n ≤ 1048576) : IntsOwn (fun x => x = b) w (some ⟨b, 0, none⟩) n f :=
  ⟨by omega, fun _ => ⟨b, rfl, rfl, r⟩⟩
structure LawSI (w W : World) (m m3 m4 m5 : MV) (M M3 M4 M5 : MD) (z3 z4 z5 : Nat) (ao : Option Addr) (n : Nat) (f : Nat → Int) (zi : Nat) : Prop where
  s : LawSt w W m m3 m4 m5 M M3 M4 M5 z3 z4 z5
  own5 : MemOwn (fun b => zi < b ∧ b < z5) W m5 M5
  hI : IntsAt (fun b => b < w.heap.size) W ao n f
  i4 : Row W zi n (fun t => .int .i64 (f t))
  o : z4 < zi
  o' : zi < z5
theorem LawSI.blw {w W W' : World} {m m3 m4 m5 : MV} {M M3 M4 M5 : MD} {z3 z4 z5 : Nat} {ao : Option Addr} {n zi : Nat} {f : Nat → Int} (S : LawSI w W m m3 m4 m5 M M3 M4 M5 z3 z4 z5 ao n f zi) (hb : Blw W W') : LawSI w W' m m3 m4 m5 M M3 M4 M5 z3 z4 z5 ao n f zi :=
  ⟨S.s.blw hb, S.own5.blw hb, S.hI.blw hb, S.i4.blw hb, S.o, S.o'⟩
theorem LawSI.mark4 {w W W' : World} {m m3 m4 m5 : MV} {M M3 M4 M4' M5 : MD} {z3 z4 z5 : Nat} {ao : Option Addr} {n zi : Nat} {f : Nat → Int} (S : LawSI w W m m3 m4 m5 M M3 M4 M5 z3 z4 z5 ao n f zi) (hm : Mod (fun b => z3 < b ∧ b < z4) W W') (own : MemOwn (fun b => z3 < b ∧ b < z4) W' m4 M4') : LawSI w W' m m3 m4 m5 M M3 M4' M5 z3 z4 z5 ao n f zi := by
  have o1 := S.s.o1
  have o2 := S.s.o2
  have o := S.o
  have o' := S.o'
  exact ⟨S.s.mark4 hm own, S.own5.mod hm (fun b hb hh => by omega), S.hI.mod hm (fun b hb hh => by omega), S.i4.mod hm (fun hh => by omega), o, o'⟩
/-- The copy of the numbers is marked: it is not read again. -/
theorem LawSI.markI {w W W' : World} {m m3 m4 m5 : MV} {M M3 M4 M5 : MD} {z3 z4 z5 : Nat} {ao : Option Addr} {n zi : Nat} {f : Nat → Int} (S : LawSI w W m m3 m4 m5 M M3 M4 M5 z3 z4 z5 ao n f zi) {X : Nat → Prop} (hX : ∀ b, X b → b = zi) (hm : Mod X W W') : LawSt w W' m m3 m4 m5 M M3 M4 M5 z3 z4 z5 ∧ MemOwn (fun b => zi < b ∧ b < z5) W' m5 M5 ∧ IntsAt (fun b => b < w.heap.size) W' ao n f := by
  have o1 := S.s.o1
  have o2 := S.s.o2
  have o := S.o
  have o' := S.o'
  have own5 := S.own5.mod hm (fun b hb hh => by have := hX b hh; omega)
  exact ⟨⟨Mod.blw S.s.hB hm (fun i hi => by have := hX i hi; omega), S.s.h.mod hm (fun b hb hh => by have := hX b hh; omega), S.s.A.mod hm (fun hh => by have := hX _ hh; omega), S.s.at3.mod hm (fun b hb hh => by have := hX b hh; omega), S.s.b8.mod hm (fun hh => by have := hX _ hh; omega), S.s.own4.mod hm (fun b hb hh => by have := hX b hh; omega), S.s.b10.mod hm (fun hh => by have := hX _ hh; omega), own5.mono (fun b hb => ⟨by omega, hb.2⟩), S.s.b11.mod hm (fun hh => by have := hX _ hh; omega), o1, o2, S.s.o3, Nat.lt_of_lt_of_le S.s.o4 hm.size⟩, own5, S.hI.mod hm (fun b hb hh => by have := hX b hh; omega)⟩
theorem LawSI.start {w w3 w4 wi w5 : World} {m m3 m4 m5 : MV} {M M3 : MD} {Y3 : Nat → Prop} {ao : Option Addr} {n : Nat} {f : Nat → Int} (hB : Blw w w3) (h : MemAt (fun b => b < w.heap.size) w3 m M) (hI : IntsAt (fun b => b < w.heap.size) w3 ao n f) (A : Box w3 w.heap.size m M) (own3 : MemOwn Y3 w3 m3 M3) (hY : ∀ b, Y3 b → b < w3.heap.size)
    (hb4 : Blw (w3.alloc (.cells #[.slice m3.a1 M3.n1 m3.c1, .slice m3.a2 M3.n2 m3.c2, .slice m3.a3 M3.n3 m3.c3] 26)) w4)
    (own4 : MemOwn (fun b => (w3.alloc (.cells #[.slice m3.a1 M3.n1 m3.c1, .slice m3.a2 M3.n2 m3.c2, .slice m3.a3 M3.n3 m3.c3] 26)).heap.size ≤ b ∧ b < w4.heap.size) w4 m4 M)
    (hbi : Blw (w4.alloc (.cells #[.slice m4.a1 M.n1 m4.c1, .slice m4.a2 M.n2 m4.c2, .slice m4.a3 M.n3 m4.c3] 26)) wi)
    (i4 : Row wi (w4.heap.size + 1) n (fun t => .int .i64 (f t)))
    (hb5 : Blw wi w5)
    (own5 : MemOwn (fun b => wi.heap.size ≤ b ∧ b < w5.heap.size) w5 m5 M3) :
    LawSI w (w5.alloc (.cells #[.slice m5.a1 M3.n1 m5.c1, .slice m5.a2 M3.n2 m5.c2, .slice m5.a3 M3.n3 m5.c3] 26)) m m3 m4 m5 M M3 M M3 w3.heap.size w4.heap.size w5.heap.size ao n f (w4.heap.size + 1) := by
  have a3 : Blw w3 (w3.alloc (.cells #[.slice m3.a1 M3.n1 m3.c1, .slice m3.a2 M3.n2 m3.c2, .slice m3.a3 M3.n3 m3.c3] 26)) := (Blw.refl _).alloc _
  have a4 : Blw w4 (w4.alloc (.cells #[.slice m4.a1 M.n1 m4.c1, .slice m4.a2 M.n2 m4.c2, .slice m4.a3 M.n3 m4.c3] 26)) := (Blw.refl _).alloc _
  have a5 : Blw w5 (w5.alloc (.cells #[.slice m5.a1 M3.n1 m5.c1, .slice m5.a2 M3.n2 m5.c2, .slice m5.a3 M3.n3 m5.c3] 26)) := (Blw.refl _).alloc _
  have li := i4.lt
  have s5 := hb5.size
  have si := hbi.size
  refine ⟨LawSt.start hB h A own3 hY hb4 own4 (hbi.trans hb5) (own5.mono (fun b hb => ⟨by omega, hb.2⟩)), (own5.blw a5).mono (fun b hb => ⟨by omega, hb.2⟩), hI.blw ((((a3.trans hb4).trans a4).trans (hbi.trans hb5)).trans a5), i4.blw (hb5.trans a5), by omega, by omega⟩
end Go.Proofs.Ytnbcjdoohmjghaa
/- 'impl.WriteSlot' and 'spec.WriteSlot'. -/
namespace Go.Proofs.Ytnbcjdoohmjghaa
open Go.RowKit
set_option linter.unusedSimpArgs false
/-- The words of a slot. -/
def slotF (e a b : Int) : Nat → Int := fun i => if i = 0 then e else if i = 1 then a else if i = 2 then b else sumOf e a b
/-- What WriteSlot answers. -/
def wsOut (M : MD) (e a b : Int) (M' : MD) (ok : Bool) : Prop := (slotOK e a b ∧ saOut M (e % 2 * 4) 4 (slotF e a b) M' ok) ∨ (¬ slotOK e a b ∧ M' = MZ ∧ ok = false)
theorem wsOut_same {M M1 M2 : MD} {e a b : Int} {x y : Bool} (h : wsOut M e a b M1 x) (k : wsOut M e a b M2 y) : M1 = M2 ∧ x = y := by
  rcases h with ⟨g, h⟩ | ⟨g, rfl, rfl⟩ <;> rcases k with ⟨g', k⟩ | ⟨g', rfl, rfl⟩
  · exact saOut_same h k
  · exact absurd g g'
  · exact absurd g' g
  · exact ⟨rfl, rfl⟩
theorem wsOut_total {M M1 : MD} {e a b : Int} {x : Bool} (h : wsOut M e a b M1 x) : M1.total ≤ 108 := by
  rcases h with ⟨g, h⟩ | ⟨g, rfl, rfl⟩
  · exact saOut_total h
  · rw [total_zero]; omega
theorem zero_givesR {out : MD → Bool → Prop} {w w1 : World} {R : Nat} (hR : w.heap.size ≤ R) (ho : out MZ false) (hb : Blw w w1) :
    Gives out w (.returned (.tuple #[.agg #[.slice none 0 0, .slice none 0 0, .slice none 0 0], .bool false])) (((w1.setCell ⟨R, 0, none⟩ (.slice none 0 0)).setCell ⟨R, 1, none⟩ (.slice none 0 0)).setCell ⟨R, 2, none⟩ (.slice none 0 0)) :=
  ⟨mz, MZ, false, rfl, ho, own_zero _ _, Mod.blw hb (mod_set3 w1 _ _ _ _) (fun i hi => by omega)⟩
theorem some_givesR {out : MD → Bool → Prop} {w w1 : World} {X : Nat → Prop} {m : MV} {M : MD} {ok : Bool} {R : Nat} (hR : w.heap.size ≤ R) (ho : out M ok) (hb : Blw w w1) (own : MemOwn X w1 m M) (hx : ∀ b, X b → R < b ∧ b < w1.heap.size) {a b c : Value} (ha : Value.agg #[a, b, c] = m.val M) :
    Gives out w (.returned (.tuple #[.agg #[a, b, c], .bool ok])) (((w1.setCell ⟨R, 0, none⟩ a).setCell ⟨R, 1, none⟩ b).setCell ⟨R, 2, none⟩ c) :=
  ⟨m, M, ok, by rw [ha], ho, own_out own hx (mod_set3 w1 _ _ _ _) hR, Mod.blw hb (mod_set3 w1 _ _ _ _) (fun i hi => by omega)⟩
theorem row4i (w : World) (a b c d : Int) (t : TypeId) : Row (w.alloc (.cells #[.int .i64 a, .int .i64 b, .int .i64 c, .int .i64 d] t)) w.heap.size 4 (fun i => .int .i64 (if i = 0 then a else if i = 1 then b else if i = 2 then c else d)) :=
  ⟨_, t, heap_alloc_new _ _, by simp, fun i hi => by
    match i, hi with
    | 0, _ => rfl
    | 1, _ => rfl
    | 2, _ => rfl
    | 3, _ => rfl⟩
/-- The boxes at a function's start: the memory, the slot, the result. -/
theorem boxes3 (w : World) (m : MV) (M : MD) (e a b : Int) :
    Blw w (((w.alloc (.cells #[.slice m.a1 M.n1 m.c1, .slice m.a2 M.n2 m.c2, .slice m.a3 M.n3 m.c3] 26)).alloc (.cells #[.int .i64 e, .int .i64 a, .int .i64 b] 56)).alloc (.cells #[.slice none 0 0, .slice none 0 0, .slice none 0 0] 26)) ∧
    Box (((w.alloc (.cells #[.slice m.a1 M.n1 m.c1, .slice m.a2 M.n2 m.c2, .slice m.a3 M.n3 m.c3] 26)).alloc (.cells #[.int .i64 e, .int .i64 a, .int .i64 b] 56)).alloc (.cells #[.slice none 0 0, .slice none 0 0, .slice none 0 0] 26)) w.heap.size m M ∧
    Row (((w.alloc (.cells #[.slice m.a1 M.n1 m.c1, .slice m.a2 M.n2 m.c2, .slice m.a3 M.n3 m.c3] 26)).alloc (.cells #[.int .i64 e, .int .i64 a, .int .i64 b] 56)).alloc (.cells #[.slice none 0 0, .slice none 0 0, .slice none 0 0] 26)) (w.heap.size + 1) 3 (fun i => if i = 0 then Value.int .i64 e else if i = 1 then .int .i64 a else .int .i64 b) ∧
    Row (((w.alloc (.cells #[.slice m.a1 M.n1 m.c1, .slice m.a2 M.n2 m.c2, .slice m.a3 M.n3 m.c3] 26)).alloc (.cells #[.int .i64 e, .int .i64 a, .int .i64 b] 56)).alloc (.cells #[.slice none 0 0, .slice none 0 0, .slice none 0 0] 26)) (w.heap.size + 1 + 1) 3 (fun _ => .slice none 0 0) := by
  refine ⟨(((Blw.refl _).alloc _).alloc _).alloc _, (box3 w _ _ _ 26).blw (((Blw.refl _).alloc _).alloc _), ?_, ?_⟩
  · have := (box3 (w.alloc (.cells #[.slice m.a1 M.n1 m.c1, .slice m.a2 M.n2 m.c2, .slice m.a3 M.n3 m.c3] 26)) (.int .i64 e) (.int .i64 a) (.int .i64 b) 56).blw ((Blw.refl _).alloc (.cells #[.slice none 0 0, .slice none 0 0, .slice none 0 0] 26))
    rw [World.size_alloc] at this
    exact this
  · have := row_box ((w.alloc (.cells #[.slice m.a1 M.n1 m.c1, .slice m.a2 M.n2 m.c2, .slice m.a3 M.n3 m.c3] 26)).alloc (.cells #[.int .i64 e, .int .i64 a, .int .i64 b] 56)) 26
    rw [World.size_alloc, World.size_alloc] at this
    exact this
set_option maxHeartbeats 1600000 in
theorem implWrite_any (m : MV) (M : MD) (Y : Nat → Prop) (w : World) (e a b : Int) (h : MemAt Y w m M) :
    Calls Try.prog 47 #[m.val M, slotV e a b] w (Gives (wsOut M e a b) w) := by
  go_enter Try.func47, Try.ntmps47
  go_wp2_with fail
  obtain ⟨hb0, rA, rS, rR⟩ := boxes3 w m M e a b
  by_cases hs : slotOK e a b
  · have HS : Hid (slotOK e a b) := hs
    refine (recordOf_yes e a b _ hs).mono ?_
    rintro r w1 ⟨rfl, hb1⟩
    clear hs
    have hA : Blw w1 (w1.alloc (.cells #[.int .i64 (e % 2), .int .i64 e, .int .i64 a, .int .i64 b, .int .i64 (sumOf e a b)] 120)) := (Blw.refl _).alloc _
    replace rA := (rA.blw hb1).blw hA
    replace rS := (rS.blw hb1).blw hA
    replace rR := (rR.blw hb1).blw hA
    replace hb1 := (hb0.trans hb1).trans hA
    clear hb0
    obtain ⟨p0, p1, p2⟩ := get3 rA
    obtain ⟨q0, q1, q2⟩ := get3 rS
    have e1 := HS.out.1.1
    have e2 := HS.out.1.2
    clear hA
    go_wp2_with fail
    have r4 := row4i (w1.alloc (.cells #[.int .i64 (e % 2), .int .i64 e, .int .i64 a, .int .i64 b, .int .i64 (sumOf e a b)] 120)) e a b (sumOf e a b) 3
    rw [World.size_alloc] at r4
    have hB : Blw (w1.alloc (.cells #[.int .i64 (e % 2), .int .i64 e, .int .i64 a, .int .i64 b, .int .i64 (sumOf e a b)] 120)) ((w1.alloc (.cells #[.int .i64 (e % 2), .int .i64 e, .int .i64 a, .int .i64 b, .int .i64 (sumOf e a b)] 120)).alloc (.cells #[.int .i64 e, .int .i64 a, .int .i64 b, .int .i64 (sumOf e a b)] 3)) := (Blw.refl _).alloc _
    refine (implStoreAll_any m M Y _ _ (e % 2 * 4) _ 4 4 (slotF e a b) ((h.blw hb1).blw hB) (ints_row r4 (by omega))).mono ?_
    rintro r w2 ⟨m2, M2, ok, rfl, hout, own, hb2⟩
    have rlt := rR.lt
    have zB := hB.size
    replace hb2 := hB.trans hb2
    obtain ⟨⟨x0, x1, x2⟩, f0, f1, f2⟩ := res6 (rR.blw hb2)
    replace hb2 := hb1.trans hb2
    have HO : Hid (saOut M (e % 2 * 4) 4 (slotF e a b) M2 ok) := hout
    clear p0 p1 p2 q0 q1 q2 e1 e2 r4 hB rA rS rR hb1 hout h
    go_wp2
    exact bodyPost_ret (v := .tuple #[m2.val M2, .bool ok]) (by simp [results, Try.results47, go_sem, x0, x1, x2]) rfl (some_givesR (by omega) (Or.inl ⟨HS.out, HO.out⟩) hb2 own (fun b hb => ⟨by have := hb.1; omega, hb.2⟩) rfl)
  · have HS : Hid (¬ slotOK e a b) := hs
    refine (recordOf_no e a b _ hs).mono ?_
    rintro r w1 ⟨rfl, hb1⟩
    have hA : Blw w1 (w1.alloc (.cells z5 120)) := (Blw.refl _).alloc _
    replace hb1 := hb1.trans hA
    obtain ⟨⟨x0, x1, x2⟩, f0, f1, f2⟩ := res6 (rR.blw hb1)
    replace hb1 := hb0.trans hb1
    clear hs hb0 rA rS rR h hA
    go_wp2
    exact bodyPost_ret (v := .tuple #[.agg #[.slice none 0 0, .slice none 0 0, .slice none 0 0], .bool false]) (by simp [results, Try.results47, go_sem, x0, x1, x2]) rfl (zero_givesR (by omega) (Or.inr ⟨HS.out, rfl, rfl⟩) hb1)
theorem Mod.drew {X : Nat → Prop} {a b : World} (h : Mod X a b) : Mod X a b.drew := ⟨h.os, h.tape, h.output, h.size, h.block⟩
theorem Mod.alloc {X : Nat → Prop} {a b : World} (h : Mod X a b) (o : Obj) : Mod X a (b.alloc o) := h.trans (((Blw.refl b).alloc o).mod X)
theorem Mod.setBlw {X : Nat → Prop} {a b c : World} (h : Mod X a b) (k : Blw b c) : Mod X a c := h.trans (k.mod X)
theorem box3_mod {w : World} {B R : Nat} {a b c : Value} (r : Row w B 3 (fun i => if i = 0 then a else if i = 1 then b else c)) (hR : B ≠ R) :
    (∀ w', Mod (fun x => x = R) w w' → w'.cell? ⟨B, 0, none⟩ = some a) ∧ (∀ w', Mod (fun x => x = R) w w' → w'.cell? ⟨B, 1, none⟩ = some b) ∧ (∀ w', Mod (fun x => x = R) w w' → w'.cell? ⟨B, 2, none⟩ = some c) :=
  ⟨fun _ h => (get3 (r.mod h hR)).1, fun _ h => (get3 (r.mod h hR)).2.1, fun _ h => (get3 (r.mod h hR)).2.2⟩
theorem ints4 (w : World) (e a b : Int) : IntsAt (fun x => x = w.heap.size) (w.alloc (.cells #[.int .i64 e, .int .i64 a, .int .i64 b, .int .i64 (sumOf e a b)] 3)) (some ⟨w.heap.size, 0, none⟩) 4 (slotF e a b) := ints_row (row4i w e a b (sumOf e a b) 3) (by omega)
set_option maxRecDepth 10000 in
set_option maxHeartbeats 6400000 in
theorem specWrite_any (m : MV) (M : MD) (Y : Nat → Prop) (w : World) (e a b : Int) (h : MemAt Y w m M) :
    Calls Try.prog 52 #[m.val M, slotV e a b] w (Gives (wsOut M e a b) w) := by
  go_enter Try.func52, Try.ntmps52
  go_wp2_with fail
  obtain ⟨hb0, rA, rS, rR⟩ := boxes3 w m M e a b
  by_cases hs : slotOK e a b
  · have HS : Hid (slotOK e a b) := hs
    refine (l2Slot_yes e a b _ hs).mono ?_
    rintro r w1 ⟨rfl, hb1⟩
    clear hs
    replace rA := rA.blw hb1
    replace rS := rS.blw hb1
    replace rR := rR.blw hb1
    replace hb1 := hb0.trans hb1
    clear hb0
    have e1 := HS.out.1.1
    have e2 := HS.out.1.2
    have hwr : IntKind.i64.wrap (e.tmod 2 * 4) = e % 2 * 4 := by
      rw [Int.tmod_eq_emod_of_nonneg (by omega)]
      have h2 : e % 2 = 0 ∨ e % 2 = 1 := by omega
      rcases h2 with h2 | h2 <;> rw [h2] <;> rfl
    have H1 : Hid (MemAt Y w1 m M) := h.blw hb1
    obtain ⟨A0, A1, A2⟩ := box3_mod (R := w.heap.size + 1 + 1) rA (by omega)
    obtain ⟨S0, S1, S2⟩ := box3_mod (R := w.heap.size + 1 + 1) rS (by omega)
    have HR : Hid (Row w1 (w.heap.size + 1 + 1) 3 (fun _ => .slice none 0 0)) := rR
    have zR := rR.lt
    clear rA rS rR h
    go_wp2_with fail
    go_region_held3 (fun w' => Mod (fun x => x = w.heap.size + 1 + 1) w1 w') ((first | exact (Mod.refl _ _).drew | assumption | exact Mod.setBlw (by assumption) (by assumption) | exact Mod.alloc (by assumption) _ | exact Mod.trans (Blw.mod (by assumption) _) (mod_set3 _ _ _ _ _))) (first
      | (go_at_call 109; refine (l2Sum_any e a b _ HS.out).mono ?_; rintro r w2 ⟨rfl, hb2⟩)
      | (go_at_call 36; have hb12 : Blw w1 w2 := Blw.trans (Blw.refl w1).drew hb2; refine (specStoreAll_any m M Y _ _ (e % 2 * 4) _ 4 4 (slotF e a b) (by exact H1.out.blw (hb12.alloc _)) (by exact ints4 _ e a b)).mono ?_; rintro r w3 ⟨m3, M3, ok, rfl, hout, own, hb3⟩; have hb13 : Blw w1 w3 := (hb12.alloc _).trans hb3; obtain ⟨⟨x0, x1, x2⟩, f0, f1, f2⟩ := res6 (HR.out.blw hb13)))
    all_goals go_wp2
    all_goals have zz := hb12.size
    all_goals exact bodyPost_ret (v := .tuple #[m3.val M3, .bool ok]) (by simp [results, Try.results52, go_sem, x0, x1, x2]) rfl (some_givesR (by omega) (Or.inl ⟨HS.out, hout⟩) (hb1.trans hb13) own (fun b hb => ⟨by have := hb.1; rw [World.size_alloc] at this; omega, hb.2⟩) rfl)
  · have HS : Hid (¬ slotOK e a b) := hs
    refine (l2Slot_no e a b _ hs).mono ?_
    rintro r w1 ⟨rfl, hb1⟩
    obtain ⟨⟨x0, x1, x2⟩, f0, f1, f2⟩ := res6 (rR.blw hb1)
    replace hb1 := hb0.trans hb1
    clear hs hb0 rA rS rR h
    go_wp2
    exact bodyPost_ret (v := .tuple #[.agg #[.slice none 0 0, .slice none 0 0, .slice none 0 0], .bool false]) (by simp [results, Try.results52, go_sem, x0, x1, x2]) rfl (zero_givesR (by omega) (Or.inr ⟨HS.out, rfl, rfl⟩) hb1)
end Go.Proofs.Ytnbcjdoohmjghaa
/- 'impl.CommitSlot' and 'spec.CommitSlot'. -/
namespace Go.Proofs.Ytnbcjdoohmjghaa
open Go.RowKit
set_option linter.unusedSimpArgs false
/-- What CommitSlot answers. -/
def csOut (M : MD) (e a b : Int) (M' : MD) (ok : Bool) : Prop := ∃ M1 ok1, wsOut M e a b M1 ok1 ∧ ((ok1 = true ∧ flOut M1 (e % 2) M' ok) ∨ (ok1 = false ∧ M' = MZ ∧ ok = false))
theorem csOut_same {M M1 M2 : MD} {e a b : Int} {x y : Bool} (h : csOut M e a b M1 x) (k : csOut M e a b M2 y) : M1 = M2 ∧ x = y := by
  obtain ⟨N1, o1, h1, h2⟩ := h
  obtain ⟨N2, o2, k1, k2⟩ := k
  obtain ⟨rfl, rfl⟩ := wsOut_same h1 k1
  rcases h2 with ⟨rfl, h2⟩ | ⟨rfl, rfl, rfl⟩ <;> rcases k2 with ⟨g, k2⟩ | ⟨g, rfl, rfl⟩
  · exact flOut_same h2 k2
  · cases g
  · cases g
  · exact ⟨rfl, rfl⟩
theorem csOut_total {M M1 : MD} {e a b : Int} {x : Bool} (h : csOut M e a b M1 x) : M1.total ≤ 108 := by
  obtain ⟨N1, o1, h1, h2⟩ := h
  rcases h2 with ⟨rfl, h2⟩ | ⟨rfl, rfl, rfl⟩
  · exact flOut_total h2
  · rw [total_zero]; omega
set_option maxHeartbeats 1600000 in
theorem implCommit_any (m : MV) (M : MD) (Y : Nat → Prop) (w : World) (e a b : Int) (h : MemAt Y w m M) :
    Calls Try.prog 48 #[m.val M, slotV e a b] w (Gives (csOut M e a b) w) := by
  go_enter Try.func48, Try.ntmps48
  go_wp2_with fail
  obtain ⟨hb0, rA, rS, rR⟩ := boxes3 w m M e a b
  refine (implWrite_any m M Y _ e a b (h.blw hb0)).mono ?_
  rintro r w1 ⟨m1, M1, ok, rfl, hout, own1, hb1⟩
  have hA : Blw w1 (w1.alloc (.cells #[.slice m1.a1 M1.n1 m1.c1, .slice m1.a2 M1.n2 m1.c2, .slice m1.a3 M1.n3 m1.c3] 26)) := (Blw.refl _).alloc _
  replace rS := rS.blw (hb1.trans hA)
  replace rR := rR.blw (hb1.trans hA)
  have rM := box3 w1 (.slice m1.a1 M1.n1 m1.c1) (.slice m1.a2 M1.n2 m1.c2) (.slice m1.a3 M1.n3 m1.c3) 26
  replace hb1 := (hb0.trans hb1).trans hA
  have HO : Hid (wsOut M e a b M1 ok) := hout
  have H1 := own1.at.blw hA
  clear hout hb0 rA own1 hA h
  cases ok
  · obtain ⟨⟨x0, x1, x2⟩, f0, f1, f2⟩ := res6 rR
    clear rS rR rM H1
    go_wp2
    exact bodyPost_ret (v := .tuple #[.agg #[.slice none 0 0, .slice none 0 0, .slice none 0 0], .bool false]) (by simp [results, Try.results48, go_sem, x0, x1, x2]) rfl (zero_givesR (by omega) ⟨M1, false, HO.out, Or.inr ⟨rfl, rfl, rfl⟩⟩ hb1)
  · have HS : Hid (slotOK e a b) := by
      rcases HO.out with ⟨g, _⟩ | ⟨_, _, g⟩
      · exact g
      · exact absurd g (by decide)
    have H : Hid _ := H1
    obtain ⟨q0, q1, q2⟩ := get3 rS
    obtain ⟨p0, p1, p2⟩ := get3 rM
    have e1 := HS.out.1.1
    have e2 := HS.out.1.2
    clear H1
    go_wp2_with fail
    refine (implLine_any e _).mono ?_
    rintro r w2 ⟨rfl, rfl⟩
    rw [slOut, if_pos (show 1 ≤ e ∧ e ≤ 1000 from HS.out.1)]
    go_wp2_with fail
    refine (implFlush_any m1 M1 _ _ (e % 2) H.out).mono ?_
    rintro r w3 ⟨m3, M3, ok, rfl, hout, own, hb3⟩
    have zR := rR.lt
    obtain ⟨⟨x0, x1, x2⟩, f0, f1, f2⟩ := res6 (rR.blw hb3)
    replace hb3 := hb1.trans hb3
    have HF : Hid (flOut M1 (e % 2) M3 ok) := hout
    clear p0 p1 p2 q0 q1 q2 e1 e2 rS rR rM hb1 hout H
    go_wp2
    exact bodyPost_ret (v := .tuple #[m3.val M3, .bool ok]) (by simp [results, Try.results48, go_sem, x0, x1, x2]) rfl (some_givesR (by omega) ⟨M1, true, HO.out, Or.inl ⟨rfl, HF.out⟩⟩ hb3 own (fun b hb => ⟨by have := hb.1; omega, hb.2⟩) rfl)
set_option maxHeartbeats 1600000 in
theorem specCommit_any (m : MV) (M : MD) (Y : Nat → Prop) (w : World) (e a b : Int) (h : MemAt Y w m M) :
    Calls Try.prog 50 #[m.val M, slotV e a b] w (Gives (csOut M e a b) w) := by
  go_enter Try.func50, Try.ntmps50
  go_wp2_with fail
  obtain ⟨hb0, rA, rS, rR⟩ := boxes3 w m M e a b
  refine (specWrite_any m M Y _ e a b (h.blw hb0)).mono ?_
  rintro r w1 ⟨m1, M1, ok, rfl, hout, own1, hb1⟩
  have hA : Blw w1 (w1.alloc (.cells #[.slice m1.a1 M1.n1 m1.c1, .slice m1.a2 M1.n2 m1.c2, .slice m1.a3 M1.n3 m1.c3] 26)) := (Blw.refl _).alloc _
  replace rS := rS.blw (hb1.trans hA)
  replace rR := rR.blw (hb1.trans hA)
  have rM := box3 w1 (.slice m1.a1 M1.n1 m1.c1) (.slice m1.a2 M1.n2 m1.c2) (.slice m1.a3 M1.n3 m1.c3) 26
  replace hb1 := (hb0.trans hb1).trans hA
  have HO : Hid (wsOut M e a b M1 ok) := hout
  have H1 := own1.at.blw hA
  clear hout hb0 rA own1 hA h
  cases ok
  · obtain ⟨⟨x0, x1, x2⟩, f0, f1, f2⟩ := res6 rR
    clear rS rR rM H1
    go_wp2
    exact bodyPost_ret (v := .tuple #[.agg #[.slice none 0 0, .slice none 0 0, .slice none 0 0], .bool false]) (by simp [results, Try.results50, go_sem, x0, x1, x2]) rfl (zero_givesR (by omega) ⟨M1, false, HO.out, Or.inr ⟨rfl, rfl, rfl⟩⟩ hb1)
  · have HS : Hid (slotOK e a b) := by
      rcases HO.out with ⟨g, _⟩ | ⟨_, _, g⟩
      · exact g
      · exact absurd g (by decide)
    have H : Hid _ := H1
    obtain ⟨q0, q1, q2⟩ := get3 rS
    obtain ⟨p0, p1, p2⟩ := get3 rM
    have e1 := HS.out.1.1
    have e2 := HS.out.1.2
    clear H1
    go_wp2_with fail
    refine (specFlush_any m1 M1 _ _ (e % 2) H.out).mono ?_
    rintro r w3 ⟨m3, M3, ok, rfl, hout, own, hb3⟩
    have zR := rR.lt
    obtain ⟨⟨x0, x1, x2⟩, f0, f1, f2⟩ := res6 (rR.blw hb3)
    replace hb3 := hb1.trans hb3
    have HF : Hid (flOut M1 (e % 2) M3 ok) := hout
    clear p0 p1 p2 q0 q1 q2 e1 e2 rS rR rM hb1 hout H
    go_wp2
    exact bodyPost_ret (v := .tuple #[m3.val M3, .bool ok]) (by simp [results, Try.results50, go_sem, x0, x1, x2]) rfl (some_givesR (by omega) ⟨M1, true, HO.out, Or.inl ⟨rfl, HF.out⟩⟩ hb3 own (fun b hb => ⟨by have := hb.1; omega, hb.2⟩) rfl)
end Go.Proofs.Ytnbcjdoohmjghaa
/- What stands in the laws on functions of a memory and more that answer a memory and a bool, where a box may be made ahead of what it holds. -/
namespace Go.Proofs.Ytnbcjdoohmjghaa
open Go.RowKit
set_option linter.unusedSimpArgs false
/-- The boxes of a law's memory and slot. -/
theorem boxes2 (w : World) (m : MV) (M : MD) (e a b : Int) :
    Blw w ((w.alloc (.cells #[.slice m.a1 M.n1 m.c1, .slice m.a2 M.n2 m.c2, .slice m.a3 M.n3 m.c3] 77)).alloc (.cells #[.int .i64 e, .int .i64 a, .int .i64 b] 72)) ∧
    Box ((w.alloc (.cells #[.slice m.a1 M.n1 m.c1, .slice m.a2 M.n2 m.c2, .slice m.a3 M.n3 m.c3] 77)).alloc (.cells #[.int .i64 e, .int .i64 a, .int .i64 b] 72)) w.heap.size m M ∧
    Row ((w.alloc (.cells #[.slice m.a1 M.n1 m.c1, .slice m.a2 M.n2 m.c2, .slice m.a3 M.n3 m.c3] 77)).alloc (.cells #[.int .i64 e, .int .i64 a, .int .i64 b] 72)) (w.heap.size + 1) 3 (fun i => if i = 0 then Value.int .i64 e else if i = 1 then .int .i64 a else .int .i64 b) := by
  refine ⟨((Blw.refl _).alloc _).alloc _, (box3 w _ _ _ 77).blw ((Blw.refl _).alloc _), ?_⟩
  have := box3 (w.alloc (.cells #[.slice m.a1 M.n1 m.c1, .slice m.a2 M.n2 m.c2, .slice m.a3 M.n3 m.c3] 77)) (.int .i64 e) (.int .i64 a) (.int .i64 b) 72
  rw [World.size_alloc] at this
  exact this
theorem box_put {w : World} {R : Nat} {f : Nat → Value} (r : Row w R 3 f) (a b c : Value) : Row (((w.setCell ⟨R, 0, none⟩ a).setCell ⟨R, 1, none⟩ b).setCell ⟨R, 2, none⟩ c) R 3 (fun i => if i = 0 then a else if i = 1 then b else c) :=
  (((r.set 0 a).set 1 b).set 2 c).congr (fun i hi => by
    match i, hi with
    | 0, _ => rfl
    | 1, _ => rfl
    | 2, _ => rfl)
/-- A memory in its own box at z, all of it newer than w1. -/
structure Boxed (w1 W : World) (z : Nat) (m : MV) (M : MD) : Prop where
  blw : Blw w1 W
  lo : w1.heap.size ≤ z
  box : Box W z m M
  own : MemOwn (fun b => w1.heap.size ≤ b ∧ b < W.heap.size ∧ b ≠ z) W m M
theorem Boxed.late {w1 w4 : World} {X : Nat → Prop} {m : MV} {M : MD} (hb : Blw w1 w4) (own : MemOwn X w4 m M) (hX : ∀ b, X b → w1.heap.size ≤ b ∧ b < w4.heap.size) : Boxed w1 (w4.alloc (.cells #[.slice m.a1 M.n1 m.c1, .slice m.a2 M.n2 m.c2, .slice m.a3 M.n3 m.c3] 26)) w4.heap.size m M :=
  ⟨hb.alloc _, hb.size, box3 w4 _ _ _ 26, (own.blw ((Blw.refl _).alloc _)).mono (fun b h => by have := hX b h; exact ⟨this.1, by rw [World.size_alloc]; omega, by omega⟩)⟩
theorem Boxed.early {w1 w4 : World} {z : Nat} {X : Nat → Prop} {m : MV} {M : MD} {f : Nat → Value} (hb : Blw w1 w4) (r : Row w4 z 3 f) (hz : w1.heap.size ≤ z) (own : MemOwn X w4 m M) (hX : ∀ b, X b → w1.heap.size ≤ b ∧ b < w4.heap.size ∧ b ≠ z) : Boxed w1 (((w4.setCell ⟨z, 0, none⟩ (.slice m.a1 M.n1 m.c1)).setCell ⟨z, 1, none⟩ (.slice m.a2 M.n2 m.c2)).setCell ⟨z, 2, none⟩ (.slice m.a3 M.n3 m.c3)) z m M :=
  ⟨Mod.blw hb (mod_set3 w4 z _ _ _) (fun i hi => by omega), hz, box_put r _ _ _, (own.mod (mod_set3 w4 z _ _ _) (fun b h => (hX b h).2.2)).mono (fun b h => by have := hX b h; have s := (mod_set3 w4 z (.slice m.a1 M.n1 m.c1) (.slice m.a2 M.n2 m.c2) (.slice m.a3 M.n3 m.c3)).size; exact ⟨this.1, by omega, this.2.2⟩)⟩
/-- The argument (its box at w's size, the slot's behind it), the model's answer (its box at z3, all below s3), the argument's copy (below s4), the program's answer (below s5). -/
structure LawG (w W : World) (m m3 m4 m5 : MV) (M M3 M4 M5 : MD) (e a b : Int) (z3 s3 z4 s4 z5 s5 : Nat) : Prop where
  hB : Blw w W
  h : MemAt (fun b => b < w.heap.size) W m M
  A : Box W w.heap.size m M
  sl : Row W (w.heap.size + 1) 3 (fun i => if i = 0 then Value.int .i64 e else if i = 1 then .int .i64 a else .int .i64 b)
  at3 : MemAt (fun b => b < s3) W m3 M3
  b8 : Box W z3 m3 M3
  own4 : MemOwn (fun b => s3 ≤ b ∧ b < s4 ∧ b ≠ z4) W m4 M4
  b10 : Box W z4 m4 M
  own5 : MemOwn (fun b => s4 ≤ b ∧ b < s5 ∧ b ≠ z5) W m5 M5
  b11 : Box W z5 m5 M3
  o1 : w.heap.size + 1 < z3
  o3 : z3 < s3
  o4 : s3 ≤ z4 ∧ z4 < s4
  o5 : s4 ≤ z5 ∧ z5 < s5
  o : s5 ≤ W.heap.size
theorem LawG.blw {w W W' : World} {m m3 m4 m5 : MV} {M M3 M4 M5 : MD} {e a b : Int} {z3 s3 z4 s4 z5 s5 : Nat} (S : LawG w W m m3 m4 m5 M M3 M4 M5 e a b z3 s3 z4 s4 z5 s5) (hb : Blw W W') : LawG w W' m m3 m4 m5 M M3 M4 M5 e a b z3 s3 z4 s4 z5 s5 :=
  ⟨S.hB.trans hb, S.h.blw hb, S.A.blw hb, S.sl.blw hb, S.at3.blw hb, S.b8.blw hb, S.own4.blw hb, S.b10.blw hb, S.own5.blw hb, S.b11.blw hb, S.o1, S.o3, S.o4, S.o5, Nat.le_trans S.o hb.size⟩
theorem LawG.mark4 {w W W' : World} {m m3 m4 m5 : MV} {M M3 M4 M4' M5 : MD} {e a b : Int} {z3 s3 z4 s4 z5 s5 : Nat} (S : LawG w W m m3 m4 m5 M M3 M4 M5 e a b z3 s3 z4 s4 z5 s5) (hm : Mod (fun b => s3 ≤ b ∧ b < s4 ∧ b ≠ z4) W W') (own : MemOwn (fun b => s3 ≤ b ∧ b < s4 ∧ b ≠ z4) W' m4 M4') : LawG w W' m m3 m4 m5 M M3 M4' M5 e a b z3 s3 z4 s4 z5 s5 := by
  have o1 := S.o1
  have o3 := S.o3
  have o4 := S.o4
  have o5 := S.o5
  exact ⟨Mod.blw S.hB hm (fun i hi => by omega), S.h.mod hm (fun b hb hh => by omega), S.A.mod hm (fun hh => by omega), S.sl.mod hm (fun hh => by omega), S.at3.mod hm (fun b hb hh => by omega), S.b8.mod hm (fun hh => by omega), own, S.b10.mod hm (fun hh => by omega), S.own5.mod hm (fun b hb hh => by omega), S.b11.mod hm (fun hh => by omega), o1, o3, o4, o5, Nat.le_trans S.o hm.size⟩
theorem LawG.mark5 {w W W' : World} {m m3 m4 m5 : MV} {M M3 M4 M5 M5' : MD} {e a b : Int} {z3 s3 z4 s4 z5 s5 : Nat} (S : LawG w W m m3 m4 m5 M M3 M4 M5 e a b z3 s3 z4 s4 z5 s5) (hm : Mod (fun b => s4 ≤ b ∧ b < s5 ∧ b ≠ z5) W W') (own : MemOwn (fun b => s4 ≤ b ∧ b < s5 ∧ b ≠ z5) W' m5 M5') : LawG w W' m m3 m4 m5 M M3 M4 M5' e a b z3 s3 z4 s4 z5 s5 := by
  have o1 := S.o1
  have o3 := S.o3
  have o4 := S.o4
  have o5 := S.o5
  exact ⟨Mod.blw S.hB hm (fun i hi => by omega), S.h.mod hm (fun b hb hh => by omega), S.A.mod hm (fun hh => by omega), S.sl.mod hm (fun hh => by omega), S.at3.mod hm (fun b hb hh => by omega), S.b8.mod hm (fun hh => by omega), S.own4.mod hm (fun b hb hh => by omega), S.b10.mod hm (fun hh => by omega), own, S.b11.mod hm (fun hh => by omega), o1, o3, o4, o5, Nat.le_trans S.o hm.size⟩
theorem LawG.start {w w1 W3 w4 W5 : World} {m m3 m4 m5 : MV} {M M3 : MD} {e a b : Int} {z3 z5 : Nat} (hB : Blw w w1) (h : MemAt (fun b => b < w.heap.size) w1 m M) (A : Box w1 w.heap.size m M) (sl : Row w1 (w.heap.size + 1) 3 (fun i => if i = 0 then Value.int .i64 e else if i = 1 then .int .i64 a else .int .i64 b))
    (b3 : Boxed w1 W3 z3 m3 M3) (hb4 : Blw W3 w4) (own4 : MemOwn (fun b => W3.heap.size ≤ b ∧ b < w4.heap.size) w4 m4 M) (b5 : Boxed (w4.alloc (.cells #[.slice m4.a1 M.n1 m4.c1, .slice m4.a2 M.n2 m4.c2, .slice m4.a3 M.n3 m4.c3] 26)) W5 z5 m5 M3) :
    LawG w W5 m m3 m4 m5 M M3 M M3 e a b z3 W3.heap.size w4.heap.size (w4.heap.size + 1) z5 W5.heap.size := by
  have a4 : Blw w4 (w4.alloc (.cells #[.slice m4.a1 M.n1 m4.c1, .slice m4.a2 M.n2 m4.c2, .slice m4.a3 M.n3 m4.c3] 26)) := (Blw.refl _).alloc _
  have c5 := a4.trans b5.blw
  have c3 := hb4.trans c5
  have c1 := b3.blw.trans c3
  have s4 := hb4.size
  have l3 := b3.box.lt
  have l5 := b5.box.lt
  have k5 := b5.lo
  have k3 := b3.lo
  have sl' := sl.lt
  have b5o := b5.own
  rw [World.size_alloc] at k5
  simp only [World.size_alloc] at b5o
  exact ⟨hB.trans c1, h.blw c1, A.blw c1, sl.blw c1, (b3.own.mono (fun b hb => hb.2.1)).at.blw c3, b3.box.blw c3, (own4.blw c5).mono (fun b hb => ⟨hb.1, by omega, by omega⟩), (box3 w4 _ _ _ 26).blw b5.blw, b5o, b5.box, by omega, l3, ⟨by omega, by omega⟩, ⟨k5, l5⟩, Nat.le_refl _⟩
end Go.Proofs.Ytnbcjdoohmjghaa
