/- 'PendingIn' and 'DataOf', the model's and the program's. -/
import Derived.Test.YtglllnklcnlcjaaDeed
namespace Go.Proofs.Ytglllnklcnlcjaa
open Go.RowKit
set_option linter.unusedSimpArgs false
set_option linter.unusedVariables false
/-- What PendingIn answers. -/
def pnOut (M : MD) (x : Int) (b : Bool) : Prop := (M.Good ∧ (HS.of M).w 24 ≤ 3 ∧ x = (HS.of M).w 24 ∧ b = true) ∨ (¬ (M.Good ∧ (HS.of M).w 24 ≤ 3) ∧ x = 0 ∧ b = false)
theorem pnOut_same {M : MD} {x y : Int} {b c : Bool} (h : pnOut M x b) (k : pnOut M y c) : x = y ∧ b = c := by
  rcases h with ⟨g, l, rfl, rfl⟩ | ⟨g, rfl, rfl⟩
  · rcases k with ⟨_, _, rfl, rfl⟩ | ⟨g', _, _⟩
    · exact ⟨rfl, rfl⟩
    · exact absurd ⟨g, l⟩ g'
  · rcases k with ⟨g', l, _, _⟩ | ⟨_, rfl, rfl⟩
    · exact absurd ⟨g', l⟩ g
    · exact ⟨rfl, rfl⟩
/-- What DataOf answers. -/
def daOut (M : MD) (n : Nat) (f : Nat → Int) (b : Bool) : Prop := (M.Good ∧ n = 16 ∧ (∀ i, i < 16 → f i = (HS.of M).w (8 + i)) ∧ b = true) ∨ (¬ M.Good ∧ n = 0 ∧ b = false)
theorem daOut_same {M : MD} {n n' : Nat} {f f' : Nat → Int} {b c : Bool} (h : daOut M n f b) (k : daOut M n' f' c) : (n = n' ∧ ∀ i, i < n → f i = f' i) ∧ b = c := by
  rcases h with ⟨g, rfl, hf, rfl⟩ | ⟨g, rfl, rfl⟩
  · rcases k with ⟨_, rfl, hf', rfl⟩ | ⟨g', _, _⟩
    · exact ⟨⟨rfl, fun i hi => by rw [hf i hi, hf' i hi]⟩, rfl⟩
    · exact absurd g g'
  · rcases k with ⟨g', _⟩ | ⟨_, rfl, rfl⟩
    · exact absurd g' g
    · exact ⟨⟨rfl, fun i hi => absurd hi (Nat.not_lt_zero _)⟩, rfl⟩
theorem daOut_n {M : MD} {n : Nat} {f : Nat → Int} {b : Bool} (h : daOut M n f b) : n ≤ 16 := by
  rcases h with ⟨_, rfl, _⟩ | ⟨_, rfl, _⟩ <;> omega
set_option maxHeartbeats 1600000 in
theorem specPending_any (m : MV) (M : MD) (Y : Nat → Prop) (w : World) (h : MemAt Y w m M) :
    Calls Try.prog 33 #[m.val M] w fun e w' => ∃ x b, e = .returned (.tuple #[.int .i64 x, .bool b]) ∧ pnOut M x b ∧ Blw w w' := by
  go_enter Try.func33, Try.ntmps33
  go_wp2_with fail
  have hb0 : Blw w (w.alloc (.cells #[.slice m.a1 M.n1 m.c1, .slice m.a2 M.n2 m.c2, .slice m.a3 M.n3 m.c3] 26)) := (Blw.refl _).alloc _
  have rA := box3 w (.slice m.a1 M.n1 m.c1) (.slice m.a2 M.n2 m.c2) (.slice m.a3 M.n3 m.c3) 26
  refine (goodS_any m M Y _ (h.blw hb0)).mono ?_
  rintro e w1 ⟨b, rfl, hgd, hb1⟩
  replace rA := rA.blw hb1
  replace hb1 := hb0.trans hb1
  replace h := h.blw hb1
  clear hb0
  have HG : Hid (b = true ↔ M.Good) := hgd
  clear hgd
  cases b
  · have NG : Hid (¬ M.Good) := fun g => absurd (HG.out.2 g) (by decide)
    clear HG rA h
    go_wp2
    go_ret2
    exact ⟨0, false, rfl, Or.inr ⟨fun g => NG.out g.1, rfl, rfl⟩, hb1⟩
  · have GD : Hid M.Good := HG.out.1 rfl
    clear HG
    obtain ⟨q0, q1, q2⟩ := get3 rA
    go_wp2_with fail
    clear q0 q1 q2
    refine (l1Load_any m M Y _ 24 (by omega) GD.out h).mono ?_
    rintro e w2 ⟨rfl, hb2⟩
    replace rA := rA.blw hb2
    replace h := h.blw hb2
    replace hb2 := hb1.trans hb2
    clear hb1
    by_cases h3 : M.v2 (24 / 4) (24 % 4) ≤ 3
    · have d1 : decide (M.v2 (24 / 4) (24 % 4) > 3) = false := by simp only [decide_eq_false_iff_not]; omega
      obtain ⟨q0, q1, q2⟩ := get3 rA
      go_wp2_with fail
      clear q0 q1 q2
      refine (l1Load_any m M Y _ 24 (by omega) GD.out h).mono ?_
      rintro e w3 ⟨rfl, hb3⟩
      replace hb3 := hb2.trans hb3
      clear rA h hb2
      go_wp2
      go_ret2
      exact ⟨_, true, rfl, Or.inl ⟨GD.out, h3, rfl, rfl⟩, hb3⟩
    · have d1 : decide (M.v2 (24 / 4) (24 % 4) > 3) = true := by simp only [decide_eq_true_eq]; omega
      clear rA h
      go_wp2
      go_ret2
      exact ⟨0, false, rfl, Or.inr ⟨fun g => by have h9 : (HS.of M).w 24 ≤ 3 := g.2; have h8 : (HS.of M).w 24 = M.v2 (24 / 4) (24 % 4) := rfl; omega, rfl, rfl⟩, hb2⟩
set_option maxHeartbeats 1600000 in
theorem implPending_any (m : MV) (M : MD) (Y : Nat → Prop) (w : World) (h : MemAt Y w m M) :
    Calls Try.prog 21 #[m.val M] w fun e w' => ∃ x b, e = .returned (.tuple #[.int .i64 x, .bool b]) ∧ pnOut M x b ∧ Blw w w' := by
  go_enter Try.func21, Try.ntmps21
  go_wp2_with fail
  have hb0 : Blw w (w.alloc (.cells #[.slice m.a1 M.n1 m.c1, .slice m.a2 M.n2 m.c2, .slice m.a3 M.n3 m.c3] 26)) := (Blw.refl _).alloc _
  refine (implLoad_any m M Y _ 24 (h.blw hb0)).mono ?_
  rintro e w1 ⟨x, b, rfl, ho, hb1⟩
  replace hb1 := hb0.trans hb1
  have HO : Hid (ldOut M 24 x b) := ho
  clear hb0 h ho
  cases b
  · go_wp2
    go_ret2
    refine ⟨0, false, rfl, Or.inr ⟨fun g => ?_, rfl, rfl⟩, hb1⟩
    rcases HO.out with ⟨_, _, _, _, _, h⟩ | ⟨h, _⟩
    · cases h
    · exact h ⟨g.1, by omega, by omega⟩
  · have HV : Hid (M.Good ∧ x = (HS.of M).w 24) := by
      rcases HO.out with ⟨g, n, e, _, hx, _⟩ | ⟨_, _, h⟩
      · obtain rfl : n = 24 := by omega
        exact ⟨g, hx⟩
      · cases h
    by_cases h3 : x ≤ 3
    · have d1 : decide (x > 3) = false := by simp only [decide_eq_false_iff_not]; omega
      go_wp2
      go_ret2
      exact ⟨_, true, rfl, Or.inl ⟨HV.out.1, by rw [← HV.out.2]; exact h3, HV.out.2, rfl⟩, hb1⟩
    · have d1 : decide (x > 3) = true := by simp only [decide_eq_true_eq]; omega
      go_wp2
      go_ret2
      exact ⟨0, false, rfl, Or.inr ⟨fun g => by have h9 := g.2; have h8 := HV.out.2; omega, rfl, rfl⟩, hb1⟩
theorem put_ints' {Y : Nat → Prop} {w wr : World} {m : MV} {M : MD} {v : Value} {k : Nat} {f : Nat → Int} (P : Put Y w wr m M v k f) (hk : k ≤ 16) : ∃ ao cap, v = .slice ao k cap ∧ IntsOwn (fun b => w.heap.size ≤ b ∧ b < wr.heap.size) wr ao k f := by
  have own := P.own
  have blk := P.blk
  rcases P.own.2 with ⟨e1, e2⟩ | ⟨g, cap, cur, rfl, r⟩
  · subst e1
    obtain rfl : k = 0 := by simpa using e2
    exact ⟨none, 0, rfl, Nat.zero_le _, fun h => absurd h (Nat.lt_irrefl 0)⟩
  · refine ⟨_, cap, rfl, by omega, fun h => ⟨g, ?_, rfl, owned_row own (fun i hi => by simp [hi]) h⟩⟩
    have := blk g rfl
    exact ⟨by omega, this.2⟩
set_option maxRecDepth 10000 in
set_option maxHeartbeats 1600000 in
theorem specData_any (m : MV) (M : MD) (Y : Nat → Prop) (w : World) (h : MemAt Y w m M) (hY : ∀ b, Y b → b < w.heap.size) :
    Calls Try.prog 25 #[m.val M] w (GivesI (daOut M) w) := by
  obtain ⟨i0, hi, hz0, hz1, hz2⟩ := info_parts tinfo3
  go_enter Try.func25, Try.ntmps25
  go_wp2_with fail
  have hb0 : Blw w (w.alloc (.cells #[.slice m.a1 M.n1 m.c1, .slice m.a2 M.n2 m.c2, .slice m.a3 M.n3 m.c3] 26)) := (Blw.refl _).alloc _
  have rA := box3 w (.slice m.a1 M.n1 m.c1) (.slice m.a2 M.n2 m.c2) (.slice m.a3 M.n3 m.c3) 26
  refine (goodS_any m M Y _ (h.blw hb0)).mono ?_
  rintro e w1 ⟨b, rfl, hgd, hb1⟩
  replace rA := rA.blw hb1
  replace hb1 := hb0.trans hb1
  replace h := h.blw hb1
  clear hb0
  have HG : Hid (b = true ↔ M.Good) := hgd
  have HY : Hid (∀ b, Y b → b < w.heap.size) := hY
  clear hgd hY
  cases b
  · have NG : Hid (¬ M.Good) := fun g => absurd (HG.out.2 g) (by decide)
    clear HG rA h
    go_wp2
    go_ret2
    exact ⟨none, 0, 0, fun _ => 0, false, rfl, Or.inr ⟨NG.out, rfl, rfl⟩, ⟨by omega, fun h => absurd h (Nat.lt_irrefl 0)⟩, hb1⟩
  · have GD : Hid M.Good := HG.out.1 rfl
    clear HG
    go_wp2_with fail
    have P0 : Hid (Put Y w w1 m M (.slice none 0 0) 0 (wordsFrom M.v2 8)) := ⟨⟨by simp, Or.inl ⟨rfl, rfl⟩⟩, fun g hg => by simp [Value.ownBlock] at hg, hb1, rA, h⟩
    clear rA h hb1
    go_loopw [4, 5] (fun v i wr => ∃ k : Nat, k ≤ 16 ∧ i = .int .i64 ((8 + k : Nat) : Int) ∧ Put Y w wr m M v k (wordsFrom M.v2 8)) (fun _ i _ => 24 - (intOf i).toNat)
    case atStart => exact ⟨0, by omega, rfl, P0.out⟩
    case round =>
      obtain ⟨k, hk, rfl, I⟩ := hrel
      clear P0
      by_cases hlt : k < 16
      · obtain ⟨q0, q1, q2⟩ := get3 I.box
        have hlt' : ((8 + k : Nat) : Int) < 24 := by omega
        go_wp2_with fail
        clear q0 q1 q2
        refine (l1Load_any m M Y _ (8 + k) (by omega) GD.out I.h).mono ?_
        rintro e w4 ⟨rfl, hb4⟩
        have hb5 : Blw w4 (w4.alloc (.cells #[.int .i64 (M.v2 ((8 + k) / 4) ((8 + k) % 4))] 3)) := (Blw.refl _).alloc _
        have HO : Hid ((w4.alloc (.cells #[.int .i64 (M.v2 ((8 + k) / 4) ((8 + k) % 4))] 3)).ownsRow 0 3 1 _ k ((List.range k).map fun i => .int .i64 (wordsFrom M.v2 8 i))) := ownsRow_mod I.own ((hb4.trans hb5).mod (fun _ => False)) (fun _ _ => id)
        have HSrc : Hid (∀ j u, [Value.int .i64 (M.v2 ((8 + k) / 4) ((8 + k) % 4))][j]? = some u → (w4.alloc (.cells #[.int .i64 (M.v2 ((8 + k) / 4) ((8 + k) % 4))] 3)).cell? ((⟨w4.heap.size, 0, none⟩ : Addr).add j) = some u) := fun j u hj => by
          match j, hj with
          | 0, hj => rw [← hj]; go_cell
          | j + 1, hj => simp at hj
        have HN : Hid _ := fun g cap w' => put_next (g := g) (cap := cap) (w' := w') I (hb4.trans hb5) HY.out
        clear I hb4 hb5
        go_wp2_with (at_builtin; refine wpList_append_lies _ rfl (.tmp 13) (.tmp 17) 28 rfl 0 3 i0 (.int .i64 0) 1 8 Try.underlying28 hi hz0 hz1 hz2 rfl (by decide) _ k _ rfl HO.out ⟨w4.heap.size, 0, none⟩ 1 1 [.int .i64 (M.v2 ((8 + k) / 4) ((8 + k) % 4))] rfl (by simp) HSrc.out (fun u hu => by simp only [List.mem_singleton] at hu; subst hu; rfl) (by omega) (by unfold maxLen; omega) (by omega) (by omega) _ rfl ?_; intro g cap w' own' gr hg hgl; have I' := HN.out g cap w' own' gr hg hgl; clear own' gr hg hgl; simp only [Nat.zero_add])
        clear HN HO HSrc
        go_roundw
        case rel => exact ⟨k + 1, by omega, by go_num, I'⟩
        case measure => simp [intOf]; omega
      · obtain rfl : k = 16 := by omega
        obtain ⟨ao, cap, rfl, own⟩ := put_ints' I (by omega)
        have hbI := I.blw
        clear I
        go_wp2
        go_ret2
        exact ⟨ao, 16, cap, _, true, rfl, Or.inl ⟨GD.out, rfl, fun i hi => rfl, rfl⟩, own, hbI⟩
theorem mk16 (w : World) : (Instr.makeSlice 28 (.int .i64 16) (.int .i64 16)).run Try.prog w = .ok (.slice (some ⟨w.heap.size, 0, none⟩) 16 16) (w.alloc (.cells (madeCells #[.int .i64 0] 16) 3)) := mkInts 16 (by omega) w
set_option maxRecDepth 10000 in
set_option maxHeartbeats 1600000 in
theorem implData_any (m : MV) (M : MD) (Y : Nat → Prop) (w : World) (h : MemAt Y w m M) :
    Calls Try.prog 20 #[m.val M] w (GivesI (daOut M) w) := by
  go_enter Try.func20, Try.ntmps20
  go_wp2_with fail
  have hb0 : Blw w (w.alloc (.cells #[.slice m.a1 M.n1 m.c1, .slice m.a2 M.n2 m.c2, .slice m.a3 M.n3 m.c3] 26)) := (Blw.refl _).alloc _
  refine (holdMemory_any m M Y _ (h.blw hb0)).mono ?_
  rintro e w1 ⟨hr, hb1⟩
  replace hb1 := hb0.trans hb1
  have r79 := row79 w1
  have zw := hb1.size
  clear h hb0
  rcases hr with ⟨good, cs, z1, z2, rfl⟩ | ⟨bad, rfl⟩
  · have hi : (Try.prog.info? 91).map (·.size) = some cs.size := by rw [z1]; exact info79
    have one := one_cells' z1 z2
    have GD : Hid M.Good := good
    clear good
    have hmk := mk16
    go_wp2_with (refine wpList_store_row rfl 91 (.tmp 4) (.tmp 11) rfl w1.heap.size 0 cs rfl rfl 108 _ (hcell M.v1 M.v2 M.d) r79 (by omega) hi one (fun j hj => z2 j (by omega)) ?_; intro wz qz1 qz2 qz3; have hz := held_facts' hb1 qz1 qz2 z1; obtain ⟨rH, hbz⟩ := hz; clear qz1 qz2 qz3)
    clear hmk
    have zlt := rH.lt
    clear r79 hi one z1 z2 hb1
    have hA : Blw wz (wz.alloc (.cells (madeCells #[.int .i64 0] 16) 3)) := (Blw.refl _).alloc _
    have HZ : Hid (Row _ w1.heap.size 108 (hcell M.v1 M.v2 M.d) ∧ Blw w _) := And.intro (rH.blw hA) (hbz.trans hA)
    have HR : Hid (Row _ wz.heap.size 16 (fun _ => .int .i64 0)) := Row.made wz (.int .i64 0) 16 3
    have zz := hbz.size
    clear rH hbz hA
    generalize w1.heap.size = z at *
    go_loopw [18] (fun i wr => ∃ k : Nat, k ≤ 16 ∧ i = .int .i64 k ∧ Row wr z 108 (hcell M.v1 M.v2 M.d) ∧ Row wr wz.heap.size 16 (fun t => Value.int .i64 (if t < k then wordsFrom M.v2 8 t else 0)) ∧ Blw w wr) (fun i _ => 16 - (intOf i).toNat)
    case atStart => exact ⟨0, by omega, rfl, HZ.out.1, Row.congr HR.out (fun i _ => by simp), HZ.out.2⟩
    case round =>
      obtain ⟨k, hk, rfl, rH, rN, hb⟩ := hrel
      clear HZ HR
      by_cases hlt : k < 16
      · have hlt' : (k : Int) < 16 := by omega
        go_wp2_with fail
        have ek : ((8 : Int) + (k : Int)) = ((8 + k : Nat) : Int) := by omega
        rw [ek]
        clear ek
        refine (wordAt_any _ _ _ _ (8 + k) _ (by omega) rH).mono ?_
        rintro e wr ⟨rfl, rfl⟩
        have g2 : wr.cell? ⟨wz.heap.size, k, none⟩ = some (.int .i64 0) := by simpa using rN.cell hlt
        have g3 := rN.frozen k
        have J : Hid (Row (wr.setCell ⟨wz.heap.size, k, none⟩ (.int .i64 (M.v2 ((8 + k) / 4) ((8 + k) % 4)))) z 108 (hcell M.v1 M.v2 M.d) ∧ Row (wr.setCell ⟨wz.heap.size, k, none⟩ (.int .i64 (M.v2 ((8 + k) / 4) ((8 + k) % 4)))) wz.heap.size 16 (fun t => Value.int .i64 (if t < k + 1 then wordsFrom M.v2 8 t else 0)) ∧ Blw w (wr.setCell ⟨wz.heap.size, k, none⟩ (.int .i64 (M.v2 ((8 + k) / 4) ((8 + k) % 4))))) :=
          ⟨rH.setOther (by show z ≠ wz.heap.size; omega) _, (rN.set k _).congr (fun t ht => by
            by_cases e : t = k
            · subst e; simp [wordsFrom]
            · have e2 : (t < k + 1) = (t < k) := by simp; omega
              simp [e, e2]), hb.setCell (by show w.heap.size ≤ wz.heap.size; omega) _⟩
        clear rH rN hb
        go_wp2
        go_roundw
        case rel => exact ⟨k + 1, by omega, by go_num, J.out⟩
        case measure => simp [intOf]; omega
      · obtain rfl : k = 16 := by omega
        have rlt := rN.lt
        go_wp2
        go_ret2
        exact ⟨_, 16, _, wordsFrom M.v2 8, true, rfl, Or.inl ⟨GD.out, rfl, fun i hi => rfl, rfl⟩, ⟨by omega, fun _ => ⟨_, ⟨by omega, rlt⟩, rfl, rN.congr (fun t ht => by simp [ht])⟩⟩, hb⟩
  · have NG : Hid (¬ M.Good) := bad
    clear bad
    go_wp2_with (refine wpList_store_row rfl 91 (.tmp 4) (.tmp 11) rfl w1.heap.size 0 Try.zeroCells91 rfl rfl 108 _ (hcell zeros zeros (fun _ => false)) r79 (by rw [size79]; omega) (by rw [size79]; exact info79) one79 cell79 ?_; intro wz qz1 qz2 qz3; have hz := held_facts' hb1 qz1 qz2 size79; obtain ⟨rH, hbz⟩ := hz; clear qz1 qz2 qz3 rH)
    go_ret2
    exact ⟨none, 0, 0, fun _ => 0, false, rfl, Or.inr ⟨NG.out, rfl, rfl⟩, ⟨by omega, fun h => absurd h (Nat.lt_irrefl 0)⟩, hbz⟩
end Go.Proofs.Ytglllnklcnlcjaa
