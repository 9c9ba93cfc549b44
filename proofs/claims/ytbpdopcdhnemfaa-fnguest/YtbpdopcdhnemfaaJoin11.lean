/- Merged by program, in this order: EqH, Sm, Fg. -/
import Derived.ChangeKeysEq
import Derived.Test.YtbpdopcdhnemfaaJoin10
/- Held guests compared as wholes. -/
namespace Go.Proofs.Ytbpdopcdhnemfaa
open Go.RowKit
set_option linter.unusedSimpArgs false
set_option linter.unusedVariables false
theorem cells3' : Try.prog.cellsOf 3 = 1 := by kernel_rfl
theorem plain3 : Try.prog.plainKey 3 = true := by kernel_rfl
theorem plain4 : Try.prog.plainKey 4 = true := by kernel_rfl
theorem eqItems_ints (d : Nat) (f g : Nat → Int) (xs ys : Array Value) (w : World) : ∀ (is : List Nat), (∀ i ∈ is, xs[i]? = some (.int .i64 (f i)) ∧ ys[i]? = some (.int .i64 (g i))) →
    ∃ r : Bool, (Op.eqItems (d + 1) 3 1 xs ys is).run Try.prog w = .ok r w ∧ (r = true ↔ ∀ i ∈ is, f i = g i)
  | [], _ => ⟨true, by simp [Op.eqItems], by simp⟩
  | i :: is, h => by
    obtain ⟨h1, h2⟩ := h i (by simp)
    obtain ⟨r, hr, hiff⟩ := eqItems_ints d f g xs ys w is (fun j hj => h j (by simp [hj]))
    have p1 := run_part_plain (P := Try.prog) w plain3 (off := i * 1) (by rw [Nat.mul_one]; exact h1)
    have p2 := run_part_plain (P := Try.prog) w plain3 (off := i * 1) (by rw [Nat.mul_one]; exact h2)
    simp only [Op.eqItems, Sem.run_bind, p1, p2, Result.andThen_ok, run_equalIn_int w d 3 .i64 .i64 (f i) (g i) Try.underlying3]
    by_cases e : f i = g i
    · refine ⟨r, by simpa [e] using hr, ?_⟩
      rw [hiff]
      simp [e]
    · exact ⟨false, by simp [e], by simp [e]⟩
theorem eqArr_ints (d : Nat) (T n : Nat) (f g : Nat → Int) (xs ys : Array Value) (w : World) (hu : Try.prog.underlying T = some (.array n 3)) (h : ∀ i, i < n → xs[i]? = some (.int .i64 (f i)) ∧ ys[i]? = some (.int .i64 (g i))) :
    ∃ r : Bool, (Op.equalIn (d + 2) T (.agg xs) (.agg ys)).run Try.prog w = .ok r w ∧ (r = true ↔ ∀ i, i < n → f i = g i) := by
  obtain ⟨i3, hi⟩ := info_of_underlying (P := Try.prog) Try.underlying3
  obtain ⟨r, hr, hiff⟩ := eqItems_ints d f g xs ys w (List.range n) (fun i hi => h i (List.mem_range.1 hi))
  refine ⟨r, ?_, hiff.trans (by simp [List.mem_range])⟩
  rw [run_equalIn_array w (d + 1) xs ys hu hi, cells3']
  exact hr
theorem eqFields_of (d : Nat) (R : Nat → Prop) (xs ys : Array Value) (w : World) : ∀ (fs : List Field), (∀ f ∈ fs, f.name ≠ "_" ∧ ∃ (a b : Value) (r : Bool), (part f.type xs f.offset).run Try.prog w = .ok a w ∧ (part f.type ys f.offset).run Try.prog w = .ok b w ∧ (Op.equalIn d f.type a b).run Try.prog w = .ok r w ∧ (r = true ↔ R f.offset)) →
    ∃ r : Bool, (Op.eqFields d xs ys fs).run Try.prog w = .ok r w ∧ (r = true ↔ ∀ f ∈ fs, R f.offset)
  | [], _ => ⟨true, by simp [Op.eqFields], by simp⟩
  | f :: fs, h => by
    obtain ⟨hn, a, b, r1, p1, p2, p3, hr1⟩ := h f (by simp)
    obtain ⟨r, hr, hiff⟩ := eqFields_of d R xs ys w fs (fun g hg => h g (by simp [hg]))
    simp only [Op.eqFields, Sem.run_bind, Sem.run_ite]
    rw [if_pos (by simpa using hn)]
    simp only [p1, p2, p3, Result.andThen_ok]
    cases r1
    · exact ⟨false, by simp, by simp; intro e; exact absurd (hr1.2 e) (by simp)⟩
    · refine ⟨r, by simpa using hr, ?_⟩
      rw [hiff]
      simp [hr1.1 rfl]
theorem part_arr (T n off : Nat) (xs : Array Value) (w : World) (hu : Try.prog.underlying T = some (.array n 3)) (hs : (Try.prog.info? T).map (·.size) = some n) : (part T xs off).run Try.prog w = .ok (.agg (xs.extract off (off + n))) w := by
  have hagg : (isAgg T).run Try.prog w = .ok true w := by
    unfold isAgg
    rw [Sem.run_bind, run_underlying hu w]
    simp
  cases hq : Try.prog.info? T with
  | none => simp [hq] at hs
  | some i =>
    simp [hq] at hs
    simp [part, Sem.run_bind, hagg, sizeOf, typeInfo, hq, hs]
/-- What a place of a held guest says of two of them. -/
def RH (D E : GD) (o : Nat) : Prop := if o = 0 then D.at_ = E.at_ else if o = 1 then D.acc = E.acc else if o = 2 then ∀ i, i < 8 → D.c i = E.c i else if o = 10 then ∀ i, i < 20 → tz D i = tz E i else if o = 30 then (D.nt : Int) = E.nt else D.d = E.d
theorem fieldsH : (Try.prog.fieldsOf 148).toList.map (fun f => (f.type, f.offset)) = [(3, 0), (3, 1), (145, 2), (146, 10), (3, 30), (4, 31)] := by kernel_rfl
theorem namesH : (Try.prog.fieldsOf 148).toList.all (fun f => f.name != "_") = true := by kernel_rfl
theorem lst_at (D : GD) {i : Nat} (hi : i < 32) : ((lst 32 (hc D)).toArray)[i]? = some (hc D i) := by
  rw [List.getElem?_toArray]; exact lst_get hi
theorem alike_RH {D E : GD} (gD : D.Good) (gE : E.Good) (h : ∀ o, o = 0 ∨ o = 1 ∨ o = 2 ∨ o = 10 ∨ o = 30 ∨ o = 31 → RH D E o) : D.Alike E := by
  have h0 : D.at_ = E.at_ := h 0 (by omega)
  have h1 : D.acc = E.acc := h 1 (by omega)
  have h2 : ∀ i, i < 8 → D.c i = E.c i := h 2 (by omega)
  have h3 : ∀ i, i < 20 → tz D i = tz E i := h 10 (by omega)
  have h4 : (D.nt : Int) = E.nt := h 30 (by omega)
  have h5 : D.d = E.d := h 31 (by omega)
  have hnt : D.nt = E.nt := by omega
  have g1 := gD.nt
  refine ⟨h0, h1, by rw [gD.nc, gE.nc], fun i hi => h2 i (by rw [gD.nc] at hi; exact hi), hnt, fun i hi => ?_, h5⟩
  have := h3 i (by omega)
  unfold tz at this
  rw [if_pos hi, if_pos (by omega)] at this
  exact this
theorem RH_alike {D E : GD} (gD : D.Good) (h : D.Alike E) (o : Nat) : RH D E o := by
  unfold RH
  have hnt := h.nt
  split
  · exact h.a
  · split
    · exact h.acc
    · split
      · exact fun i hi => h.c i (by rw [gD.nc]; exact hi)
      · split
        · intro i hi
          unfold tz
          rw [← hnt]
          split
          · exact h.t i (by assumption)
          · rfl
        · split
          · rw [hnt]
          · exact h.d
set_option maxRecDepth 4000 in
/-- Two held guests compared. -/
theorem eqHeld (D E : GD) (gD : D.Good) (gE : E.Good) (w : World) : ∃ r : Bool, (binOp .eql 148 (.agg (lst 32 (hc D)).toArray) (.agg (lst 32 (hc E)).toArray)).run Try.prog w = .ok (.bool r) w ∧ (r = true ↔ D.Alike E) := by
  have u : Try.prog.underlying 148 = some (.struct (Try.prog.fieldsOf 148)) := by kernel_rfl
  have hp : Try.prog.stoodInHeld 148 = false := by kernel_rfl
  obtain ⟨r, hr, hiff⟩ := eqFields_of 9999 (RH D E) (lst 32 (hc D)).toArray (lst 32 (hc E)).toArray w (Try.prog.fieldsOf 148).toList (fun f hf => by
    refine ⟨by have := List.all_eq_true.1 namesH f hf; simpa using this, ?_⟩
    have hm := List.mem_map_of_mem (f := fun f => (f.type, f.offset)) hf
    rw [fieldsH] at hm
    simp only [List.mem_cons, Prod.mk.injEq, List.not_mem_nil, or_false] at hm
    have ci : ∀ o, o < 32 → ∀ v, hc D o = v → (part 3 (lst 32 (hc D)).toArray o).run Try.prog w = .ok v w := fun o ho v hv => run_part_plain w plain3 (by rw [lst_at D ho, hv])
    have ce : ∀ o, o < 32 → ∀ v, hc E o = v → (part 3 (lst 32 (hc E)).toArray o).run Try.prog w = .ok v w := fun o ho v hv => run_part_plain w plain3 (by rw [lst_at E ho, hv])
    rcases hm with ⟨e1, e2⟩ | ⟨e1, e2⟩ | ⟨e1, e2⟩ | ⟨e1, e2⟩ | ⟨e1, e2⟩ | ⟨e1, e2⟩ <;> rw [e1, e2]
    · exact ⟨_, _, _, ci 0 (by omega) _ rfl, ce 0 (by omega) _ rfl, run_equalIn_int w 9998 3 .i64 .i64 _ _ Try.underlying3, by simp [RH]⟩
    · exact ⟨_, _, _, ci 1 (by omega) _ rfl, ce 1 (by omega) _ rfl, run_equalIn_int w 9998 3 .i64 .i64 _ _ Try.underlying3, by simp [RH]⟩
    · obtain ⟨r, hr, hi⟩ := eqArr_ints 9997 145 8 D.c E.c ((lst 32 (hc D)).toArray.extract 2 (2 + 8)) ((lst 32 (hc E)).toArray.extract 2 (2 + 8)) w Try.underlying145 (fun i hi => by
        have q : ∀ G : GD, ((lst 32 (hc G)).toArray.extract 2 (2 + 8))[i]? = some (.int .i64 (G.c i)) := fun G => by
          rw [Array.getElem?_extract, if_pos (by simp [lst]; omega), lst_at G (by omega)]
          unfold hc hcf
          rw [if_neg (by omega), if_neg (by omega), if_pos (by omega), Nat.add_sub_cancel_left]
        exact ⟨q D, q E⟩)
      exact ⟨_, _, r, part_arr 145 8 2 _ w Try.underlying145 (by kernel_rfl), part_arr 145 8 2 _ w Try.underlying145 (by kernel_rfl), hr, by rw [hi]; simp [RH]⟩
    · obtain ⟨r, hr, hi⟩ := eqArr_ints 9997 146 20 (tz D) (tz E) ((lst 32 (hc D)).toArray.extract 10 (10 + 20)) ((lst 32 (hc E)).toArray.extract 10 (10 + 20)) w Try.underlying146 (fun i hi => by
        have q : ∀ G : GD, ((lst 32 (hc G)).toArray.extract 10 (10 + 20))[i]? = some (.int .i64 (tz G i)) := fun G => by
          rw [Array.getElem?_extract, if_pos (by simp [lst]; omega), lst_at G (by omega)]
          unfold hc hcf
          rw [if_neg (by omega), if_neg (by omega), if_neg (by omega), if_pos (by omega), Nat.add_sub_cancel_left]
        exact ⟨q D, q E⟩)
      exact ⟨_, _, r, part_arr 146 20 10 _ w Try.underlying146 (by kernel_rfl), part_arr 146 20 10 _ w Try.underlying146 (by kernel_rfl), hr, by rw [hi]; simp [RH]⟩
    · exact ⟨_, _, _, ci 30 (by omega) _ rfl, ce 30 (by omega) _ rfl, run_equalIn_int w 9998 3 .i64 .i64 _ _ Try.underlying3, by simp [RH]⟩
    · exact ⟨_, _, _, run_part_plain w plain4 (by rw [lst_at D (by omega)]; rfl), run_part_plain w plain4 (by rw [lst_at E (by omega)]; rfl), run_equalIn_bool w 9998 4 _ _ Try.underlying4, by simp [RH]⟩)
  refine ⟨r, ?_, ?_⟩
  · rw [run_eql_struct, run_equalIn_struct w 9999 148 _ _ u hp, hr]
    rfl
  · rw [hiff]
    constructor
    · intro h
      refine alike_RH gD gE fun o ho => ?_
      have : ∃ T, (T, o) ∈ (Try.prog.fieldsOf 148).toList.map (fun f => (f.type, f.offset)) := by
        rw [fieldsH]
        rcases ho with e | e | e | e | e | e <;> subst e
        · exact ⟨3, by simp⟩
        · exact ⟨3, by simp⟩
        · exact ⟨145, by simp⟩
        · exact ⟨146, by simp⟩
        · exact ⟨3, by simp⟩
        · exact ⟨4, by simp⟩
      obtain ⟨T, hT⟩ := this
      obtain ⟨f, hf, e⟩ := List.mem_map.1 hT
      cases e
      exact h f hf
    · exact fun h f _ => RH_alike gD h _
end Go.Proofs.Ytbpdopcdhnemfaa
/- SameGuest: both sides. -/
namespace Go.Proofs.Ytbpdopcdhnemfaa
open Go.RowKit
set_option linter.unusedSimpArgs false
set_option linter.unusedVariables false
theorem eql_big {ops : Array Oper} {rest : List Oper} {o : Oper} {a : Act} {w : World} {Q : Exit → Act → World → Prop} (hg : o.guard = none) (T T2 : TypeId) (x y : Operand) (ho : o.op = .binOp .eql T x y T2) (xs ys : Array Value) (hx : a.eval x = .agg xs) (hy : a.eval y = .agg ys)
    (hm : Try.prog.eqGuardType Try.prog.depth T = false) (r : Bool) (hr : (binOp .eql T (.agg xs) (.agg ys)).run Try.prog w = .ok (.bool r) w) (h : wpList Try.prog ops Q rest (a.put o.dst (.bool r)) w) : wpList Try.prog ops Q (o :: rest) a w := by
  refine wpList_plain hg fun K hK => ?_
  unfold Oper.wp execOp
  simp only [ho, hx, hy, Sem.run_bind, run_eqGuard_agg _ _ _ _ _ _ _ hm, Result.andThen_ok, hr]
  exact hK _ _ h
set_option maxHeartbeats 800000 in
theorem l1Same_len (a1 a2 : Option Addr) (c1 c2 n m : Nat) (w : World) (h : ¬ n = m) :
    Calls Try.prog 178 #[.slice a1 n c1, .slice a2 m c2] w fun e w' => e = .returned (.bool false) ∧ w' = w := by
  have d1 : ((n : Int) != (m : Int)) = true := by simp; omega
  go_enter Try.func178, Try.ntmps178
  go_wp2
  go_ret
  exact ⟨rfl, rfl⟩
theorem l1Same_any (a1 a2 : Option Addr) (c1 c2 n m : Nat) (f g : Nat → Int) {Y Z : Nat → Prop} (w : World) (h1 : IntsAt Y w a1 n f) (h2 : IntsAt Z w a2 m g) :
    Calls Try.prog 178 #[.slice a1 n c1, .slice a2 m c2] w fun e w' => ∃ r, e = .returned (.bool r) ∧ (r = true ↔ n = m ∧ ∀ i, i < n → f i = g i) ∧ Blw w w' := by
  by_cases e : n = m
  · subst e
    by_cases ha : ∀ i, i < n → f i = g i
    · exact (l1Same_yes a1 a2 c1 c2 n f g w h1 h2 ha).mono fun e w' ⟨k1, k2⟩ => ⟨true, k1, iff_t ⟨rfl, ha⟩, by obtain ⟨q, rfl⟩ := k2; exact drewN_blw w q⟩
    · obtain ⟨i, hi0, hn⟩ : ∃ i, i < n ∧ ¬ f i = g i := Classical.byContradiction fun hx => ha fun i hi0 => Classical.byContradiction fun hy => hx ⟨i, hi0, hy⟩
      exact (l1Same_no a1 a2 c1 c2 n f g w h1 h2 i hi0 hn).mono fun e w' ⟨k1, k2⟩ => ⟨false, k1, iff_f (fun q => ha q.2), by obtain ⟨q, rfl⟩ := k2; exact drewN_blw w q⟩
  · exact (l1Same_len a1 a2 c1 c2 n m w e).mono fun _ w' ⟨k1, k2⟩ => ⟨false, k1, iff_f (fun q => e q.1), by rw [k2]; exact Blw.refl _⟩
set_option maxRecDepth 10000 in
set_option maxHeartbeats 3200000 in
theorem l9Same_any (v u : GV) (D E : GD) (X Y : Nat → Prop) (w : World) (h1 : GAt X w v D) (h2 : GAt Y w u E) :
    Calls Try.prog 123 #[v.val D, u.val E] w fun e w' => ∃ r, e = .returned (.bool r) ∧ (r = true ↔ D.Alike E) ∧ Blw w w' := by
  have HB : Hid (Blw w ((w.alloc (.cells #[.int .i64 D.at_, .int .i64 D.acc, .slice v.a1 D.nc v.c1, .slice v.a2 D.nt v.c2, .bool D.d] 61)).alloc (.cells #[.int .i64 E.at_, .int .i64 E.acc, .slice u.a1 E.nc u.c1, .slice u.a2 E.nt u.c2, .bool E.d] 61))) := ((Blw.refl _).alloc _).alloc _
  have H1 : Hid (GAt X ((w.alloc (.cells #[.int .i64 D.at_, .int .i64 D.acc, .slice v.a1 D.nc v.c1, .slice v.a2 D.nt v.c2, .bool D.d] 61)).alloc (.cells #[.int .i64 E.at_, .int .i64 E.acc, .slice u.a1 E.nc u.c1, .slice u.a2 E.nt u.c2, .bool E.d] 61)) v D) := h1.blw HB.out
  have H2 : Hid (GAt Y ((w.alloc (.cells #[.int .i64 D.at_, .int .i64 D.acc, .slice v.a1 D.nc v.c1, .slice v.a2 D.nt v.c2, .bool D.d] 61)).alloc (.cells #[.int .i64 E.at_, .int .i64 E.acc, .slice u.a1 E.nc u.c1, .slice u.a2 E.nt u.c2, .bool E.d] 61)) u E) := h2.blw HB.out
  have R1 : Hid (Row ((w.alloc (.cells #[.int .i64 D.at_, .int .i64 D.acc, .slice v.a1 D.nc v.c1, .slice v.a2 D.nt v.c2, .bool D.d] 61)).alloc (.cells #[.int .i64 E.at_, .int .i64 E.acc, .slice u.a1 E.nc u.c1, .slice u.a2 E.nt u.c2, .bool E.d] 61)) w.heap.size 5 (gb v D)) := (row5 w _ _ _ _ _ 61).blw ((Blw.refl _).alloc _)
  have r2 := row5 (w.alloc (.cells #[.int .i64 D.at_, .int .i64 D.acc, .slice v.a1 D.nc v.c1, .slice v.a2 D.nt v.c2, .bool D.d] 61)) (.int .i64 E.at_) (.int .i64 E.acc) (.slice u.a1 E.nc u.c1) (.slice u.a2 E.nt u.c2) (.bool E.d) 61
  rw [World.size_alloc] at r2
  have R2 : Hid (Row ((w.alloc (.cells #[.int .i64 D.at_, .int .i64 D.acc, .slice v.a1 D.nc v.c1, .slice v.a2 D.nt v.c2, .bool D.d] 61)).alloc (.cells #[.int .i64 E.at_, .int .i64 E.acc, .slice u.a1 E.nc u.c1, .slice u.a2 E.nt u.c2, .bool E.d] 61)) (w.heap.size + 1) 5 (gb u E)) := r2
  clear h1 h2 r2
  go_enter Try.func123, Try.ntmps123
  go_upto_region 1 with fail
  generalize ((w.alloc (.cells #[.int .i64 D.at_, .int .i64 D.acc, .slice v.a1 D.nc v.c1, .slice v.a2 D.nt v.c2, .bool D.d] 61)).alloc (.cells #[.int .i64 E.at_, .int .i64 E.acc, .slice u.a1 E.nc u.c1, .slice u.a2 E.nt u.c2, .bool E.d] 61)) = w0 at *
  obtain ⟨p0, p1, p2, p3, p4⟩ := get5 R1.out
  obtain ⟨q0, q1, q2, q3, q4⟩ := get5 R2.out
  by_cases g0 : D.at_ = E.at_
  case neg =>
    have d0 : (D.at_ == E.at_) = false := by simp [g0]
    have HN : Hid (¬ D.Alike E) := fun g => g0 g.a
    clear g0
    go_wp2
    go_ret
    exact ⟨false, rfl, iff_f HN.out, HB.out⟩
  have d0 : (D.at_ == E.at_) = true := by simp [g0]
  have G0 : Hid (D.at_ = E.at_) := g0
  clear g0
  by_cases g1 : D.acc = E.acc
  case neg =>
    have d1 : (D.acc == E.acc) = false := by simp [g1]
    have HN : Hid (¬ D.Alike E) := fun g => g1 g.acc
    clear g1
    go_wp2
    go_ret
    exact ⟨false, rfl, iff_f HN.out, HB.out⟩
  have d1 : (D.acc == E.acc) = true := by simp [g1]
  have G1 : Hid (D.acc = E.acc) := g1
  clear g1
  go_wp2_with fail
  clear p0 p1 p2 p3 p4 q0 q1 q2 q3 q4 d0 d1
  refine (l1Same_any _ _ _ _ D.nc E.nc D.c E.c _ H1.out.c H2.out.c).mono ?_
  rintro e w1 ⟨r, rfl, hr, hb1⟩
  replace HB : Hid (Blw w w1) := HB.out.trans hb1
  replace H1 : Hid (GAt X w1 v D) := H1.out.blw hb1
  replace H2 : Hid (GAt Y w1 u E) := H2.out.blw hb1
  replace R1 : Hid (Row w1 w.heap.size 5 (gb v D)) := R1.out.blw hb1
  replace R2 : Hid (Row w1 (w.heap.size + 1) 5 (gb u E)) := R2.out.blw hb1
  have HR : Hid (r = true ↔ D.nc = E.nc ∧ ∀ i, i < D.nc → D.c i = E.c i) := hr
  clear hb1 hr
  obtain ⟨p0, p1, p2, p3, p4⟩ := get5 R1.out
  obtain ⟨q0, q1, q2, q3, q4⟩ := get5 R2.out
  cases r
  · have HN : Hid (¬ D.Alike E) := fun g => by have := HR.out.2 ⟨g.nc, g.c⟩; cases this
    go_wp2
    go_ret
    exact ⟨false, rfl, iff_f HN.out, HB.out⟩
  have G2 : Hid (D.nc = E.nc ∧ ∀ i, i < D.nc → D.c i = E.c i) := HR.out.1 (by first | rfl | trivial)
  clear HR
  go_wp2_with fail
  clear p0 p1 p2 p3 p4 q0 q1 q2 q3 q4
  refine (l1Same_any _ _ _ _ D.nt E.nt D.t E.t _ H1.out.t H2.out.t).mono ?_
  rintro e w2 ⟨r, rfl, hr, hb1⟩
  replace HB : Hid (Blw w w2) := HB.out.trans hb1
  replace R1 : Hid (Row w2 w.heap.size 5 (gb v D)) := R1.out.blw hb1
  replace R2 : Hid (Row w2 (w.heap.size + 1) 5 (gb u E)) := R2.out.blw hb1
  have HR : Hid (r = true ↔ D.nt = E.nt ∧ ∀ i, i < D.nt → D.t i = E.t i) := hr
  clear hb1 hr H1 H2
  obtain ⟨p0, p1, p2, p3, p4⟩ := get5 R1.out
  obtain ⟨q0, q1, q2, q3, q4⟩ := get5 R2.out
  cases r
  · have HN : Hid (¬ D.Alike E) := fun g => by have := HR.out.2 ⟨g.nt, g.t⟩; cases this
    go_wp2
    go_ret
    exact ⟨false, rfl, iff_f HN.out, HB.out⟩
  have G3 : Hid (D.nt = E.nt ∧ ∀ i, i < D.nt → D.t i = E.t i) := HR.out.1 (by first | rfl | trivial)
  clear HR
  have HF : Hid ((D.d == E.d) = true ↔ D.Alike E) := ⟨fun e => ⟨G0.out, G1.out, G2.out.1, G2.out.2, G3.out.1, G3.out.2, by simpa using e⟩, fun g => by simp [g.d]⟩
  clear G0 G1 G2 G3
  go_wp2
  go_ret
  exact ⟨_, rfl, HF.out, HB.out⟩
def sgOut (D E : GD) (x r : Bool) : Prop := (D.Good ∧ E.Good ∧ r = true ∧ (x = true ↔ D.Alike E)) ∨ (¬ (D.Good ∧ E.Good) ∧ r = false ∧ x = false)
theorem sgOut_same {D E : GD} {x y r q : Bool} (h : sgOut D E x r) (k : sgOut D E y q) : x = y ∧ r = q := by
  rcases h with ⟨g, g', rfl, hx⟩ | ⟨g, rfl, rfl⟩ <;> rcases k with ⟨l, l', rfl, hy⟩ | ⟨l, rfl, rfl⟩
  · refine ⟨?_, rfl⟩
    cases x <;> cases y <;> simp_all
  · exact absurd ⟨g, g'⟩ l
  · exact absurd ⟨l, l'⟩ g
  · exact ⟨rfl, rfl⟩
set_option maxRecDepth 10000 in
set_option maxHeartbeats 3200000 in
theorem specSame_any (v u : GV) (D E : GD) (X Y : Nat → Prop) (w : World) (h1 : GAt X w v D) (h2 : GAt Y w u E) :
    Calls Try.prog 48 #[v.val D, u.val E] w fun e w' => ∃ x r, e = .returned (.tuple #[.bool x, .bool r]) ∧ sgOut D E x r ∧ Blw w w' := by
  have HB : Hid (Blw w ((w.alloc (.cells #[.int .i64 D.at_, .int .i64 D.acc, .slice v.a1 D.nc v.c1, .slice v.a2 D.nt v.c2, .bool D.d] 61)).alloc (.cells #[.int .i64 E.at_, .int .i64 E.acc, .slice u.a1 E.nc u.c1, .slice u.a2 E.nt u.c2, .bool E.d] 61))) := ((Blw.refl _).alloc _).alloc _
  have H1 : Hid (GAt X ((w.alloc (.cells #[.int .i64 D.at_, .int .i64 D.acc, .slice v.a1 D.nc v.c1, .slice v.a2 D.nt v.c2, .bool D.d] 61)).alloc (.cells #[.int .i64 E.at_, .int .i64 E.acc, .slice u.a1 E.nc u.c1, .slice u.a2 E.nt u.c2, .bool E.d] 61)) v D) := h1.blw HB.out
  have H2 : Hid (GAt Y ((w.alloc (.cells #[.int .i64 D.at_, .int .i64 D.acc, .slice v.a1 D.nc v.c1, .slice v.a2 D.nt v.c2, .bool D.d] 61)).alloc (.cells #[.int .i64 E.at_, .int .i64 E.acc, .slice u.a1 E.nc u.c1, .slice u.a2 E.nt u.c2, .bool E.d] 61)) u E) := h2.blw HB.out
  have R1 : Hid (Row ((w.alloc (.cells #[.int .i64 D.at_, .int .i64 D.acc, .slice v.a1 D.nc v.c1, .slice v.a2 D.nt v.c2, .bool D.d] 61)).alloc (.cells #[.int .i64 E.at_, .int .i64 E.acc, .slice u.a1 E.nc u.c1, .slice u.a2 E.nt u.c2, .bool E.d] 61)) w.heap.size 5 (gb v D)) := (row5 w _ _ _ _ _ 61).blw ((Blw.refl _).alloc _)
  have r2 := row5 (w.alloc (.cells #[.int .i64 D.at_, .int .i64 D.acc, .slice v.a1 D.nc v.c1, .slice v.a2 D.nt v.c2, .bool D.d] 61)) (.int .i64 E.at_) (.int .i64 E.acc) (.slice u.a1 E.nc u.c1) (.slice u.a2 E.nt u.c2) (.bool E.d) 61
  rw [World.size_alloc] at r2
  have R2 : Hid (Row ((w.alloc (.cells #[.int .i64 D.at_, .int .i64 D.acc, .slice v.a1 D.nc v.c1, .slice v.a2 D.nt v.c2, .bool D.d] 61)).alloc (.cells #[.int .i64 E.at_, .int .i64 E.acc, .slice u.a1 E.nc u.c1, .slice u.a2 E.nt u.c2, .bool E.d] 61)) (w.heap.size + 1) 5 (gb u E)) := r2
  clear h1 h2 r2
  go_enter Try.func48, Try.ntmps48
  go_upto_region 1 with fail
  generalize ((w.alloc (.cells #[.int .i64 D.at_, .int .i64 D.acc, .slice v.a1 D.nc v.c1, .slice v.a2 D.nt v.c2, .bool D.d] 61)).alloc (.cells #[.int .i64 E.at_, .int .i64 E.acc, .slice u.a1 E.nc u.c1, .slice u.a2 E.nt u.c2, .bool E.d] 61)) = w0 at *
  obtain ⟨p0, p1, p2, p3, p4⟩ := get5 R1.out
  obtain ⟨q0, q1, q2, q3, q4⟩ := get5 R2.out
  go_wp2_with fail
  clear p0 p1 p2 p3 p4 q0 q1 q2 q3 q4
  refine (specGoodG_any v D _ _ H1.out).mono ?_
  rintro e w1 ⟨r, rfl, hr, hb1⟩
  replace HB : Hid (Blw w w1) := HB.out.trans hb1
  replace H1 : Hid (GAt X w1 v D) := H1.out.blw hb1
  replace H2 : Hid (GAt Y w1 u E) := H2.out.blw hb1
  replace R1 : Hid (Row w1 w.heap.size 5 (gb v D)) := R1.out.blw hb1
  replace R2 : Hid (Row w1 (w.heap.size + 1) 5 (gb u E)) := R2.out.blw hb1
  have HR : Hid (r = true ↔ D.Good) := hr
  clear hb1 hr
  cases r
  · have HN : Hid (¬ (D.Good ∧ E.Good)) := fun g => by have := HR.out.2 g.1; cases this
    go_wp2
    exact bodyPost_ret (v := .tuple #[.bool false, .bool false]) (by simp [results, Try.results48, go_sem]) rfl ⟨_, _, rfl, Or.inr ⟨HN.out, rfl, rfl⟩, HB.out⟩
  have GD1 : Hid D.Good := HR.out.1 (by first | rfl | trivial)
  clear HR
  obtain ⟨p0, p1, p2, p3, p4⟩ := get5 R1.out
  obtain ⟨q0, q1, q2, q3, q4⟩ := get5 R2.out
  go_wp2_with fail
  clear p0 p1 p2 p3 p4 q0 q1 q2 q3 q4
  refine (specGoodG_any u E _ _ H2.out).mono ?_
  rintro e w2 ⟨r, rfl, hr, hb1⟩
  replace HB : Hid (Blw w w2) := HB.out.trans hb1
  replace H1 : Hid (GAt X w2 v D) := H1.out.blw hb1
  replace H2 : Hid (GAt Y w2 u E) := H2.out.blw hb1
  replace R1 : Hid (Row w2 w.heap.size 5 (gb v D)) := R1.out.blw hb1
  replace R2 : Hid (Row w2 (w.heap.size + 1) 5 (gb u E)) := R2.out.blw hb1
  have HR : Hid (r = true ↔ E.Good) := hr
  clear hb1 hr
  cases r
  · have HN : Hid (¬ (D.Good ∧ E.Good)) := fun g => by have := HR.out.2 g.2; cases this
    go_wp2
    exact bodyPost_ret (v := .tuple #[.bool false, .bool false]) (by simp [results, Try.results48, go_sem]) rfl ⟨_, _, rfl, Or.inr ⟨HN.out, rfl, rfl⟩, HB.out⟩
  have GE1 : Hid E.Good := HR.out.1 (by first | rfl | trivial)
  clear HR
  obtain ⟨p0, p1, p2, p3, p4⟩ := get5 R1.out
  obtain ⟨q0, q1, q2, q3, q4⟩ := get5 R2.out
  go_wp2_with fail
  clear p0 p1 p2 p3 p4 q0 q1 q2 q3 q4
  refine (l9Same_any v u D E _ _ _ H1.out H2.out).mono ?_
  rintro e w3 ⟨r, rfl, hr, hb1⟩
  replace HB : Hid (Blw w w3) := HB.out.trans hb1
  replace H1 : Hid (GAt X w3 v D) := H1.out.blw hb1
  replace H2 : Hid (GAt Y w3 u E) := H2.out.blw hb1
  replace R1 : Hid (Row w3 w.heap.size 5 (gb v D)) := R1.out.blw hb1
  replace R2 : Hid (Row w3 (w.heap.size + 1) 5 (gb u E)) := R2.out.blw hb1
  have HR : Hid (r = true ↔ D.Alike E) := hr
  clear hb1 hr
  go_wp2
  exact bodyPost_ret (v := .tuple #[.bool r, .bool true]) (by simp [results, Try.results48, go_sem]) rfl ⟨_, _, rfl, Or.inl ⟨GD1.out, GE1.out, rfl, HR.out⟩, HB.out⟩
set_option maxRecDepth 10000 in
set_option maxHeartbeats 3200000 in
theorem implSame_any (v u : GV) (D E : GD) (X Y : Nat → Prop) (w : World) (h1 : GAt X w v D) (h2 : GAt Y w u E) (hX : ∀ b, X b → b < w.heap.size) (hY : ∀ b, Y b → b < w.heap.size) :
    Calls Try.prog 47 #[v.val D, u.val E] w fun e w' => ∃ x r, e = .returned (.tuple #[.bool x, .bool r]) ∧ sgOut D E x r ∧ Blw w w' := by
  have HB : Hid (Blw w ((w.alloc (.cells #[.int .i64 D.at_, .int .i64 D.acc, .slice v.a1 D.nc v.c1, .slice v.a2 D.nt v.c2, .bool D.d] 61)).alloc (.cells #[.int .i64 E.at_, .int .i64 E.acc, .slice u.a1 E.nc u.c1, .slice u.a2 E.nt u.c2, .bool E.d] 61))) := ((Blw.refl _).alloc _).alloc _
  have H1 : Hid (GAt X ((w.alloc (.cells #[.int .i64 D.at_, .int .i64 D.acc, .slice v.a1 D.nc v.c1, .slice v.a2 D.nt v.c2, .bool D.d] 61)).alloc (.cells #[.int .i64 E.at_, .int .i64 E.acc, .slice u.a1 E.nc u.c1, .slice u.a2 E.nt u.c2, .bool E.d] 61)) v D) := h1.blw HB.out
  have H2 : Hid (GAt Y ((w.alloc (.cells #[.int .i64 D.at_, .int .i64 D.acc, .slice v.a1 D.nc v.c1, .slice v.a2 D.nt v.c2, .bool D.d] 61)).alloc (.cells #[.int .i64 E.at_, .int .i64 E.acc, .slice u.a1 E.nc u.c1, .slice u.a2 E.nt u.c2, .bool E.d] 61)) u E) := h2.blw HB.out
  have R1 : Hid (Row ((w.alloc (.cells #[.int .i64 D.at_, .int .i64 D.acc, .slice v.a1 D.nc v.c1, .slice v.a2 D.nt v.c2, .bool D.d] 61)).alloc (.cells #[.int .i64 E.at_, .int .i64 E.acc, .slice u.a1 E.nc u.c1, .slice u.a2 E.nt u.c2, .bool E.d] 61)) w.heap.size 5 (gb v D)) := (row5 w _ _ _ _ _ 61).blw ((Blw.refl _).alloc _)
  have r2 := row5 (w.alloc (.cells #[.int .i64 D.at_, .int .i64 D.acc, .slice v.a1 D.nc v.c1, .slice v.a2 D.nt v.c2, .bool D.d] 61)) (.int .i64 E.at_) (.int .i64 E.acc) (.slice u.a1 E.nc u.c1) (.slice u.a2 E.nt u.c2) (.bool E.d) 61
  rw [World.size_alloc] at r2
  have R2 : Hid (Row ((w.alloc (.cells #[.int .i64 D.at_, .int .i64 D.acc, .slice v.a1 D.nc v.c1, .slice v.a2 D.nt v.c2, .bool D.d] 61)).alloc (.cells #[.int .i64 E.at_, .int .i64 E.acc, .slice u.a1 E.nc u.c1, .slice u.a2 E.nt u.c2, .bool E.d] 61)) (w.heap.size + 1) 5 (gb u E)) := r2
  have HX : Hid ((∀ b, X b → b < w.heap.size) ∧ ∀ b, Y b → b < w.heap.size) := ⟨hX, hY⟩
  clear h1 h2 r2 hX hY
  go_enter Try.func47, Try.ntmps47
  go_upto_region 1 with fail
  generalize ((w.alloc (.cells #[.int .i64 D.at_, .int .i64 D.acc, .slice v.a1 D.nc v.c1, .slice v.a2 D.nt v.c2, .bool D.d] 61)).alloc (.cells #[.int .i64 E.at_, .int .i64 E.acc, .slice u.a1 E.nc u.c1, .slice u.a2 E.nt u.c2, .bool E.d] 61)) = w0 at *
  obtain ⟨p0, p1, p2, p3, p4⟩ := get5 R1.out
  go_wp2_with fail
  clear p0 p1 p2 p3 p4
  have hx1 : ∀ b, X b → b < w0.heap.size := fun b hb => Nat.lt_of_lt_of_le (HX.out.1 b hb) HB.out.size
  refine (holdGuest_any v D X _ H1.out hx1).mono ?_
  rintro e w1 ⟨⟨hg, rfl⟩ | ⟨hg, rfl⟩, hb⟩
  case inr =>
    have HG : Hid (¬ (D.Good ∧ E.Good)) := fun g => hg g.1
    replace HB : Hid (Blw w w1) := HB.out.trans hb
    clear hg hb H1 H2 R1 R2 HX hx1
    go_wp2_with (first | (refine alloc_big rfl 148 rfl 32 hz zeroH ?_; intro wa1 RZ1 hba1 hza1) | (refine store_big rfl 148 _ _ rfl _ 32 hz hz rfl rfl wdH RZ1 (fun i _ => hcf_one _ _ _ _ _ _ i) ?_; intro wb1 RH1 hmb1 hsb1; clear RZ1) | fail)
    have hs := HB.out.size
    exact bodyPost_ret (v := .tuple #[.bool false, .bool false]) (by simp [results, Try.results47, go_sem]) rfl ⟨_, _, rfl, Or.inr ⟨HG.out, rfl, rfl⟩, Mod.blw (HB.out.trans hba1) hmb1 (fun i hi => by omega)⟩
  have HGD : Hid D.Good := hg
  replace HB : Hid (Blw w w1) := HB.out.trans hb
  replace H2 : Hid (GAt Y w1 u E) := H2.out.blw hb
  replace R2 : Hid (Row w1 (w.heap.size + 1) 5 (gb u E)) := R2.out.blw hb
  clear hg hb H1 R1 hx1
  go_upto_region 2 with (first | (refine alloc_big rfl 148 rfl 32 hz zeroH ?_; intro wa1 RZ1 hba1 hza1) | (refine store_big rfl 148 _ _ rfl _ 32 (hc D) hz rfl rfl wdH RZ1 (fun i _ => hc_one _ i) ?_; intro wb1 RH1 hmb1 hsb1; clear RZ1) | fail)
  have hs0 := HB.out.size
  have hb12 : Blw w1 wb1 := Mod.blw hba1 hmb1 (fun i hi => by omega)
  have HK : Hid (Row wb1 w1.heap.size 32 (hc D)) := RH1
  replace HB : Hid (Blw w wb1) := HB.out.trans hb12
  replace H2 : Hid (GAt Y wb1 u E) := H2.out.blw hb12
  replace R2 : Hid (Row wb1 (w.heap.size + 1) 5 (gb u E)) := R2.out.blw hb12
  generalize w1.heap.size = z1 at *
  clear hba1 hza1 RH1 hmb1 hsb1 hb12 wa1 hs0
  obtain ⟨p0, p1, p2, p3, p4⟩ := get5 R2.out
  go_wp2_with fail
  clear p0 p1 p2 p3 p4
  have hx1 : ∀ b, Y b → b < wb1.heap.size := fun b hb => Nat.lt_of_lt_of_le (HX.out.2 b hb) HB.out.size
  refine (holdGuest_any u E Y _ H2.out hx1).mono ?_
  rintro e w2 ⟨⟨hg, rfl⟩ | ⟨hg, rfl⟩, hb⟩
  case inr =>
    have HG : Hid (¬ (D.Good ∧ E.Good)) := fun g => hg g.2
    replace HB : Hid (Blw w w2) := HB.out.trans hb
    clear hg hb H2 R2 HX hx1 HK
    go_wp2_with (first | (refine alloc_big rfl 148 rfl 32 hz zeroH ?_; intro wa2 RZ2 hba2 hza2) | (refine store_big rfl 148 _ _ rfl _ 32 hz hz rfl rfl wdH RZ2 (fun i _ => hcf_one _ _ _ _ _ _ i) ?_; intro wb2 RH2 hmb2 hsb2; clear RZ2) | fail)
    have hs := HB.out.size
    exact bodyPost_ret (v := .tuple #[.bool false, .bool false]) (by simp [results, Try.results47, go_sem]) rfl ⟨_, _, rfl, Or.inr ⟨HG.out, rfl, rfl⟩, Mod.blw (HB.out.trans hba2) hmb2 (fun i hi => by omega)⟩
  have HGE : Hid E.Good := hg
  replace HB : Hid (Blw w w2) := HB.out.trans hb
  replace HK : Hid (Row w2 z1 32 (hc D)) := HK.out.blw hb
  clear hg hb H2 R2 HX hx1
  go_upto_region 5 with (first | (refine alloc_big rfl 148 rfl 32 hz zeroH ?_; intro wa2 RZ2 hba2 hza2) | (refine store_big rfl 148 _ _ rfl _ 32 (hc E) hz rfl rfl wdH RZ2 (fun i _ => hc_one _ i) ?_; intro wb2 RH2 hmb2 hsb2; clear RZ2) | fail)
  have hs0 := HB.out.size
  have hb12 : Blw w2 wb2 := Mod.blw hba2 hmb2 (fun i hi => by omega)
  have HK2 : Hid (Row wb2 w2.heap.size 32 (hc E)) := RH2
  replace HB : Hid (Blw w wb2) := HB.out.trans hb12
  replace HK : Hid (Row wb2 z1 32 (hc D)) := HK.out.blw hb12
  clear hba2 hza2 RH2 hmb2 hsb2 hb12 wa2 hs0
  generalize w2.heap.size = z2 at *
  have hc1 := HK.out.cells
  have hc2 := HK2.out.cells
  obtain ⟨x, hx, hxi⟩ := eqHeld D E HGD.out HGE.out wb2
  have HXI : Hid (x = true ↔ D.Alike E) := hxi
  clear hxi HK HK2
  go_wp2_with (first | (refine load_big rfl 148 _ rfl _ _ 32 rfl (hc D) wdH hc1 ?_) | (refine load_big rfl 148 _ rfl _ _ 32 rfl (hc E) wdH hc2 ?_) | (refine eql_big rfl 148 _ _ _ rfl _ _ rfl rfl (by kernel_rfl) x hx ?_) | fail)
  exact bodyPost_ret (v := .tuple #[.bool x, .bool true]) (by simp [results, Try.results47, go_sem]) rfl ⟨_, _, rfl, Or.inl ⟨HGD.out, HGE.out, rfl, HXI.out⟩, HB.out⟩
end Go.Proofs.Ytbpdopcdhnemfaa
/- FnGuest: the walk. -/
namespace Go.Proofs.Ytbpdopcdhnemfaa
open Go.RowKit
set_option linter.unusedSimpArgs false
set_option linter.unusedVariables false
/-- What a good run is, and what it leaves. -/
theorem run_cells {n : Nat} {F : Nat → Nat → Int} {D : GD} (hp : progOK n F) (hg : D.Good) {k : Int} {m : Nat} {f : Nat → Int} {r : Bool} (ht : tbOut n F D k m f r) (hk : stepsOK k) {i : Nat} (h : ¬ (runG n F k.toNat D).c i = D.c i) : isIn m f (i : Int) := by
  rcases ht with ⟨_, _, _, h3⟩ | ⟨q, _⟩
  · refine (h3 (i : Int)).2 ⟨i, rfl, ?_⟩
    apply Classical.byContradiction
    intro hc
    exact h (runG_cell hp _ hg i hc)
  · exact absurd ⟨hp, hg, hk⟩ q
theorem rg_ok {n : Nat} {F : Nat → Nat → Int} {D R : GD} {k x : Int} {r : Bool} (h : rgOut n F D k R x r) (hp : progOK n F) (hg : D.Good) (hk : stepsOK k) : R = runG n F k.toNat D ∧ x = (manyG n F k.toNat D : Int) ∧ r = true := by
  rcases h with ⟨_, e1, e2, e3⟩ | ⟨q, _⟩
  · exact ⟨e1, e2, e3⟩
  · exact absurd ⟨hp, hg, hk⟩ q
set_option maxRecDepth 10000 in
set_option maxHeartbeats 12800000 in
theorem lawGuest (ao1 : Option Addr) (n1 c1 : Nat) (f1 : Nat → Int) (ao2 : Option Addr) (n2 c2 : Nat) (f2 : Nat → Int) (w : World) (h1 : BytesAt (fun b => b < w.heap.size) w ao1 n1 f1) (h2 : BytesAt (fun b => b < w.heap.size) w ao2 n2 f2) :
    Calls Try.prog 5 #[.slice ao1 n1 c1, .slice ao2 n2 c2] w fun e w' => e = .returned (.bool true) ∧ Blw w w' := by
  have H1 : Hid (BY w ao1 n1 f1) := h1
  have H2 : Hid (BY w ao2 n2 f2) := h2
  clear h1 h2
  go_enter Try.func5, Try.ntmps5
  by_cases hd : wrap64 ((n1 : Int) + n2) > 1048576
  · have d1 : decide (wrap64 ((n1 : Int) + n2) > 1048576) = true := by simpa using hd
    clear hd
    go_wp2
    go_ret
    exact ⟨rfl, Blw.refl _⟩
  have d1 : decide (wrap64 ((n1 : Int) + n2) > 1048576) = false := by simpa using hd
  clear hd
  have HB : Hid (Blw w w) := Blw.refl w
  go_wp2_with fail
  clear d1
  refine (drawRunG_any ao1 n1 c1 f1 _ H1.out).mono ?_
  rintro e w1 ⟨ap, np, cp, F, u, D, k, rfl, hnp, hko, hs, own, hb⟩
  replace HB : Hid (Blw _ _) := Blw.trans HB.out hb
  replace H1 : Hid (BY w1 ao1 n1 f1) := BY.blw H1.out hb
  replace H2 : Hid (BY w1 ao2 n2 f2) := BY.blw H2.out hb
  have P5 : Hid (PX w1 ap np F) := hko.at.mono (fun x hx => hx.2)
  clear H1
  have hA : Blw w1 (w1.alloc (.cells #[.int .i64 D.at_, .int .i64 D.acc, .slice u.a1 D.nc u.c1, .slice u.a2 D.nt u.c2, .bool D.d] 61)) := (Blw.refl _).alloc _
  have hat9 : GAt (fun x => x < (w1.alloc (.cells #[.int .i64 D.at_, .int .i64 D.acc, .slice u.a1 D.nc u.c1, .slice u.a2 D.nt u.c2, .bool D.d] 61)).heap.size) (w1.alloc (.cells #[.int .i64 D.at_, .int .i64 D.acc, .slice u.a1 D.nc u.c1, .slice u.a2 D.nt u.c2, .bool D.d] 61)) u D := (GAt.blw own.at hA).mono (fun x hx => Nat.lt_of_lt_of_le hx.2 hA.size)
  have hro9 := row5 w1 (.int .i64 D.at_) (.int .i64 D.acc) (.slice u.a1 D.nc u.c1) (.slice u.a2 D.nt u.c2) (.bool D.d) 61
  replace HB : Hid (Blw _ _) := Blw.trans HB.out hA
  replace H2 : Hid (BY (w1.alloc (.cells #[.int .i64 D.at_, .int .i64 D.acc, .slice u.a1 D.nc u.c1, .slice u.a2 D.nt u.c2, .bool D.d] 61)) ao2 n2 f2) := BY.blw H2.out hA
  replace P5 : Hid (PX (w1.alloc (.cells #[.int .i64 D.at_, .int .i64 D.acc, .slice u.a1 D.nc u.c1, .slice u.a2 D.nt u.c2, .bool D.d] 61)) ap np F) := PX.blw P5.out hA
  have X6 : Hid (GX (w1.alloc (.cells #[.int .i64 D.at_, .int .i64 D.acc, .slice u.a1 D.nc u.c1, .slice u.a2 D.nt u.c2, .bool D.d] 61)) w1.heap.size u D) := ⟨hat9, hro9⟩
  clear hA hat9 hro9
  clear own hko hb hs hnp
  obtain ⟨p0, p1, p2, p3, p4⟩ := get5 X6.out.box
  go_wp2_with fail
  clear p0 p1 p2 p3 p4
  refine (implRunC_any ap cp np F u D k _ _ _ P5.out X6.out.at_ (fun x hx => hx)).mono ?_
  rintro e w2 ⟨u8, R8, x9, r10, rfl, ho, hcap, hs, own, hb⟩
  replace HB : Hid (Blw _ _) := Blw.trans HB.out hb
  replace H2 : Hid (BY w2 ao2 n2 f2) := BY.blw H2.out hb
  replace P5 : Hid (PX w2 ap np F) := PX.blw P5.out hb
  replace X6 : Hid (GX w2 w1.heap.size u D) := GX.blw X6.out hb
  have O8 : Hid (rgOut np F D k R8 x9 r10) := ho
  have HCAP : Hid (r10 = true → R8.nt ≤ u8.c2 ∧ ∃ z : Nat, u8.a2 = some ⟨z, 0, none⟩) := hcap
  have hA : Blw w2 (w2.alloc (.cells #[.int .i64 R8.at_, .int .i64 R8.acc, .slice u8.a1 R8.nc u8.c1, .slice u8.a2 R8.nt u8.c2, .bool R8.d] 61)) := (Blw.refl _).alloc _
  have hat9 : GAt (fun x => x < (w2.alloc (.cells #[.int .i64 R8.at_, .int .i64 R8.acc, .slice u8.a1 R8.nc u8.c1, .slice u8.a2 R8.nt u8.c2, .bool R8.d] 61)).heap.size) (w2.alloc (.cells #[.int .i64 R8.at_, .int .i64 R8.acc, .slice u8.a1 R8.nc u8.c1, .slice u8.a2 R8.nt u8.c2, .bool R8.d] 61)) u8 R8 := (GAt.blw own.at hA).mono (fun x hx => Nat.lt_of_lt_of_le hx.2 hA.size)
  have hro9 := row5 w2 (.int .i64 R8.at_) (.int .i64 R8.acc) (.slice u8.a1 R8.nc u8.c1) (.slice u8.a2 R8.nt u8.c2) (.bool R8.d) 61
  replace HB : Hid (Blw _ _) := Blw.trans HB.out hA
  replace H2 : Hid (BY (w2.alloc (.cells #[.int .i64 R8.at_, .int .i64 R8.acc, .slice u8.a1 R8.nc u8.c1, .slice u8.a2 R8.nt u8.c2, .bool R8.d] 61)) ao2 n2 f2) := BY.blw H2.out hA
  replace P5 : Hid (PX (w2.alloc (.cells #[.int .i64 R8.at_, .int .i64 R8.acc, .slice u8.a1 R8.nc u8.c1, .slice u8.a2 R8.nt u8.c2, .bool R8.d] 61)) ap np F) := PX.blw P5.out hA
  replace X6 : Hid (GX (w2.alloc (.cells #[.int .i64 R8.at_, .int .i64 R8.acc, .slice u8.a1 R8.nc u8.c1, .slice u8.a2 R8.nt u8.c2, .bool R8.d] 61)) w1.heap.size u D) := GX.blw X6.out hA
  have X8 : Hid (GX (w2.alloc (.cells #[.int .i64 R8.at_, .int .i64 R8.acc, .slice u8.a1 R8.nc u8.c1, .slice u8.a2 R8.nt u8.c2, .bool R8.d] 61)) w2.heap.size u8 R8) := ⟨hat9, hro9⟩
  clear hA hat9 hro9
  clear own hb hs ho hcap
  obtain ⟨p0, p1, p2, p3, p4⟩ := get5 X6.out.box
  go_wp2_with fail
  clear p0 p1 p2 p3 p4
  refine (specRun_any ap cp np F u D k _ _ _ P5.out X6.out.at_).mono ?_
  rintro e w3 ⟨u11, R11, x12, r13, rfl, ho, hs, own, hb⟩
  replace HB : Hid (Blw _ _) := Blw.trans HB.out hb
  replace H2 : Hid (BY w3 ao2 n2 f2) := BY.blw H2.out hb
  replace P5 : Hid (PX w3 ap np F) := PX.blw P5.out hb
  replace X6 : Hid (GX w3 w1.heap.size u D) := GX.blw X6.out hb
  replace X8 : Hid (GX w3 w2.heap.size u8 R8) := GX.blw X8.out hb
  obtain ⟨e1, e2, e3⟩ := rgOut_same ho O8.out
  subst e1 e2 e3
  have hA : Blw w3 (w3.alloc (.cells #[.int .i64 R11.at_, .int .i64 R11.acc, .slice u11.a1 R11.nc u11.c1, .slice u11.a2 R11.nt u11.c2, .bool R11.d] 61)) := (Blw.refl _).alloc _
  have hat9 : GAt (fun x => x < (w3.alloc (.cells #[.int .i64 R11.at_, .int .i64 R11.acc, .slice u11.a1 R11.nc u11.c1, .slice u11.a2 R11.nt u11.c2, .bool R11.d] 61)).heap.size) (w3.alloc (.cells #[.int .i64 R11.at_, .int .i64 R11.acc, .slice u11.a1 R11.nc u11.c1, .slice u11.a2 R11.nt u11.c2, .bool R11.d] 61)) u11 R11 := (GAt.blw own.at hA).mono (fun x hx => Nat.lt_of_lt_of_le hx.2 hA.size)
  have hro9 := row5 w3 (.int .i64 R11.at_) (.int .i64 R11.acc) (.slice u11.a1 R11.nc u11.c1) (.slice u11.a2 R11.nt u11.c2) (.bool R11.d) 61
  replace HB : Hid (Blw _ _) := Blw.trans HB.out hA
  replace H2 : Hid (BY (w3.alloc (.cells #[.int .i64 R11.at_, .int .i64 R11.acc, .slice u11.a1 R11.nc u11.c1, .slice u11.a2 R11.nt u11.c2, .bool R11.d] 61)) ao2 n2 f2) := BY.blw H2.out hA
  replace P5 : Hid (PX (w3.alloc (.cells #[.int .i64 R11.at_, .int .i64 R11.acc, .slice u11.a1 R11.nc u11.c1, .slice u11.a2 R11.nt u11.c2, .bool R11.d] 61)) ap np F) := PX.blw P5.out hA
  replace X6 : Hid (GX (w3.alloc (.cells #[.int .i64 R11.at_, .int .i64 R11.acc, .slice u11.a1 R11.nc u11.c1, .slice u11.a2 R11.nt u11.c2, .bool R11.d] 61)) w1.heap.size u D) := GX.blw X6.out hA
  replace X8 : Hid (GX (w3.alloc (.cells #[.int .i64 R11.at_, .int .i64 R11.acc, .slice u11.a1 R11.nc u11.c1, .slice u11.a2 R11.nt u11.c2, .bool R11.d] 61)) w2.heap.size u8 R11) := GX.blw X8.out hA
  have X11 : Hid (GX (w3.alloc (.cells #[.int .i64 R11.at_, .int .i64 R11.acc, .slice u11.a1 R11.nc u11.c1, .slice u11.a2 R11.nt u11.c2, .bool R11.d] 61)) w3.heap.size u11 R11) := ⟨hat9, hro9⟩
  clear hA hat9 hro9
  clear own hb hs ho
  obtain ⟨p0, p1, p2, p3, p4⟩ := get5 X6.out.box
  go_wp2_with fail
  clear p0 p1 p2 p3 p4
  refine (implTouched_any ap cp np F u D k _ _ _ P5.out X6.out.at_ (fun x hx => hx)).mono ?_
  rintro e w4 ⟨a14, m14, c14, f14, r15, rfl, ho, hs, own, hb⟩
  replace HB : Hid (Blw _ _) := Blw.trans HB.out hb
  replace H2 : Hid (BY w4 ao2 n2 f2) := BY.blw H2.out hb
  replace P5 : Hid (PX w4 ap np F) := PX.blw P5.out hb
  replace X6 : Hid (GX w4 w1.heap.size u D) := GX.blw X6.out hb
  replace X8 : Hid (GX w4 w2.heap.size u8 R11) := GX.blw X8.out hb
  replace X11 : Hid (GX w4 w3.heap.size u11 R11) := GX.blw X11.out hb
  have O14 : Hid (tbOut np F D k m14 f14 r15) := ho
  have L14 : Hid (LI w4 a14 m14 f14) := own.at.mono (fun x hx => hx.2)
  clear own hb hs ho
  obtain ⟨p0, p1, p2, p3, p4⟩ := get5 X6.out.box
  go_wp2_with fail
  clear p0 p1 p2 p3 p4
  refine (specTouched_any ap cp np F u D k _ _ _ P5.out X6.out.at_).mono ?_
  rintro e w5 ⟨a16, m16, c16, f16, r17, rfl, ho, hs, own, hb⟩
  replace HB : Hid (Blw _ _) := Blw.trans HB.out hb
  replace H2 : Hid (BY w5 ao2 n2 f2) := BY.blw H2.out hb
  replace P5 : Hid (PX w5 ap np F) := PX.blw P5.out hb
  replace X6 : Hid (GX w5 w1.heap.size u D) := GX.blw X6.out hb
  replace X8 : Hid (GX w5 w2.heap.size u8 R11) := GX.blw X8.out hb
  replace X11 : Hid (GX w5 w3.heap.size u11 R11) := GX.blw X11.out hb
  replace L14 : Hid (LI w5 a14 m14 f14) := LI.blw L14.out hb
  obtain ⟨⟨e1, ef⟩, e3⟩ := tbOut_same ho O14.out
  obtain rfl := e1.symm
  obtain rfl := e3.symm
  have L16 : Hid (LI w5 a16 m14 f16) := own.at.mono (fun x hx => hx.2)
  have HEF : Hid (∀ i, i < m14 → f16 i = f14 i) := ef
  clear own hb hs ho ef
  have q1 : (r13 != r13) = false := by simp
  have q2 : (x12 != x12) = false := by simp
  have q3 : (r15 != r15) = false := by simp
  obtain ⟨p0, p1, p2, p3, p4⟩ := get5 X8.out.box
  obtain ⟨q0, q1, q2, q3, q4⟩ := get5 X11.out.box
  go_wp2_with fail
  clear p0 p1 p2 p3 p4 q0 q1 q2 q3 q4
  refine (sameGuest_same u8 u11 R11 _ X8.out.at_ X11.out.at_).mono ?_
  rintro e w6 ⟨rfl, hb⟩
  replace HB : Hid (Blw _ _) := Blw.trans HB.out hb
  replace H2 : Hid (BY w6 ao2 n2 f2) := BY.blw H2.out hb
  replace P5 : Hid (PX w6 ap np F) := PX.blw P5.out hb
  replace X6 : Hid (GX w6 w1.heap.size u D) := GX.blw X6.out hb
  replace X8 : Hid (GX w6 w2.heap.size u8 R11) := GX.blw X8.out hb
  replace X11 : Hid (GX w6 w3.heap.size u11 R11) := GX.blw X11.out hb
  replace L14 : Hid (LI w6 a14 m14 f14) := LI.blw L14.out hb
  replace L16 : Hid (LI w6 a16 m14 f16) := LI.blw L16.out hb
  clear hb
  clear X11
  go_wp2_with fail
  refine (sameInts_any a14 a16 c14 c16 m14 m14 f14 f16 _ L14.out L16.out).mono ?_
  rintro e w7 ⟨rs, rfl, hrs, hb⟩
  replace HB : Hid (Blw _ _) := Blw.trans HB.out hb
  replace H2 : Hid (BY w7 ao2 n2 f2) := BY.blw H2.out hb
  replace P5 : Hid (PX w7 ap np F) := PX.blw P5.out hb
  replace X6 : Hid (GX w7 w1.heap.size u D) := GX.blw X6.out hb
  replace X8 : Hid (GX w7 w2.heap.size u8 R11) := GX.blw X8.out hb
  replace L14 : Hid (LI w7 a14 m14 f14) := LI.blw L14.out hb
  replace L16 : Hid (LI w7 a16 m14 f16) := LI.blw L16.out hb
  obtain rfl : rs = true := hrs.2 ⟨rfl, fun i hi => (HEF.out i hi).symm⟩
  clear hrs hb HEF
  clear L16
  go_upto_if 99 with fail
  clear q1 q2 q3
  go_cut [18, 19, 20, 21, 22, 23, 24, 25] from 99 to 203 (fun v18 v19 v20 v21 v22 v23 v24 v25 wx => Blw w7 wx)
  case first =>
    cases r13
    · go_wp2_with fail
      go_meet
      exact Blw.refl _
    obtain ⟨⟨hp, hg, hk⟩, hR, hx⟩ : (progOK np F ∧ D.Good ∧ stepsOK k) ∧ R11 = runG np F k.toNat D ∧ x12 = (manyG np F k.toNat D : Int) := by
      rcases O8.out with ⟨h1, h2, h3, _⟩ | ⟨_, _, _, h⟩
      · exact ⟨h1, h2, h3⟩
      · cases h
    obtain ⟨K, rfl⟩ : ∃ K : Nat, k = (K : Int) := ⟨k.toNat, by have := hk.1; omega⟩
    rw [Int.toNat_natCast] at hR hx
    have hK60 : K ≤ 60 := by have := hk.2; omega
    have r15t : r15 = true := by
      rcases O14.out with ⟨_, h, _⟩ | ⟨q, _⟩
      · exact h
      · exact absurd ⟨hp, hg, hk⟩ q
    subst r15t
    have HP : Hid (progOK np F ∧ D.Good ∧ stepsOK (K : Int)) := ⟨hp, hg, hk⟩
    have HR : Hid (runG np F K D = R11) := hR.symm
    have HX : Hid ((manyG np F K D : Int) = x12) := hx.symm
    have HRG : Hid R11.Good := by rw [hR]; exact runG_good hp _ hg
    have HTOLD : Hid (D.nt ≤ R11.nt ∧ ∀ i, i < D.nt → R11.t i = D.t i) := by rw [hR]; exact runG_told K D
    have HCELL : Hid (∀ i, ¬ R11.c i = D.c i → isIn m14 f14 (i : Int)) := fun i h => run_cells hp hg O14.out hk (by rw [Int.toNat_natCast, ← hR]; exact h)
    have HMANY : Hid (x12 ≤ K ∧ (x12 < K → R11.d = true)) := by have := manyG_le (n := np) (F := F) K D; rw [← hR] at this; rw [hx]; exact ⟨by omega, fun h => this.2 (by omega)⟩
    obtain ⟨hcap, zt, hzt⟩ := HCAP.out rfl
    have HCP : Hid (R11.nt ≤ u8.c2 ∧ u8.a2 = some ⟨zt, 0, none⟩) := ⟨hcap, hzt⟩
    clear hp hg hk hR hx hcap hzt O8 O14 HCAP
    have HC : Hid (Blw w7 w7) := Blw.refl _
    go_wp2_with fail
    refine (numberOf_any ao2 n2 c2 f2 _ _ H2.out).mono ?_
    rintro e w99 ⟨x, rfl, hx, hw9⟩
    obtain rfl := hw9.symm
    obtain ⟨y, hy, hyK⟩ : ∃ y : Nat, (x : Int).tmod ((K : Int) + 1) = (y : Int) ∧ y ≤ K := ⟨x % (K + 1), by rw [Int.tmod_eq_emod_of_nonneg (by omega)]; norm_cast, Nat.le_of_lt_succ (Nat.mod_lt x (Nat.succ_pos K))⟩
    have e1 : IntKind.i64.wrap ((K : Int) + 1) = (K : Int) + 1 := by rw [IntKind.wrap_i64] <;> omega
    have e2 : ¬ (K : Int) + 1 = 0 := by omega
    have e3 : IntKind.i64.wrap (y : Int) = (y : Int) := by rw [IntKind.wrap_i64] <;> omega
    clear hx
    obtain ⟨p0, p1, p2, p3, p4⟩ := get5 X6.out.box
    go_wp2_with fail
    clear p0 p1 p2 p3 p4
    clear e1 e2 hy e3
    refine (implRun_any ap cp np F u D (y : Int) _ _ _ P5.out X6.out.at_ (fun x hx => hx)).mono ?_
    rintro e w8 ⟨u19, R19, x20, r21, rfl, ho, hs, own, hb⟩
    replace HB : Hid (Blw _ _) := Blw.trans HB.out hb
    replace HC : Hid (Blw _ _) := Blw.trans HC.out hb
    replace H2 : Hid (BY w8 ao2 n2 f2) := BY.blw H2.out hb
    replace P5 : Hid (PX w8 ap np F) := PX.blw P5.out hb
    replace X6 : Hid (GX w8 w1.heap.size u D) := GX.blw X6.out hb
    replace X8 : Hid (GX w8 w2.heap.size u8 R11) := GX.blw X8.out hb
    replace L14 : Hid (LI w8 a14 m14 f14) := LI.blw L14.out hb
    obtain ⟨eR, ex, er⟩ := rg_ok ho HP.out.1 HP.out.2.1 ⟨by omega, by omega⟩
    subst er
    rw [Int.toNat_natCast] at eR ex
    have HR19 : Hid (R19 = runG np F y D ∧ x20 = (manyG np F y D : Int)) := ⟨eR, ex⟩
    have HG19 : Hid R19.Good := by rw [eR]; exact runG_good HP.out.1 _ HP.out.2.1
    clear eR ex
    have hA : Blw w8 (w8.alloc (.cells #[.int .i64 R19.at_, .int .i64 R19.acc, .slice u19.a1 R19.nc u19.c1, .slice u19.a2 R19.nt u19.c2, .bool R19.d] 61)) := (Blw.refl _).alloc _
    have hat9 : GAt (fun x => x < (w8.alloc (.cells #[.int .i64 R19.at_, .int .i64 R19.acc, .slice u19.a1 R19.nc u19.c1, .slice u19.a2 R19.nt u19.c2, .bool R19.d] 61)).heap.size) (w8.alloc (.cells #[.int .i64 R19.at_, .int .i64 R19.acc, .slice u19.a1 R19.nc u19.c1, .slice u19.a2 R19.nt u19.c2, .bool R19.d] 61)) u19 R19 := (GAt.blw own.at hA).mono (fun x hx => Nat.lt_of_lt_of_le hx.2 hA.size)
    have hro9 := row5 w8 (.int .i64 R19.at_) (.int .i64 R19.acc) (.slice u19.a1 R19.nc u19.c1) (.slice u19.a2 R19.nt u19.c2) (.bool R19.d) 61
    replace HB : Hid (Blw _ _) := Blw.trans HB.out hA
    replace HC : Hid (Blw _ _) := Blw.trans HC.out hA
    replace H2 : Hid (BY (w8.alloc (.cells #[.int .i64 R19.at_, .int .i64 R19.acc, .slice u19.a1 R19.nc u19.c1, .slice u19.a2 R19.nt u19.c2, .bool R19.d] 61)) ao2 n2 f2) := BY.blw H2.out hA
    replace P5 : Hid (PX (w8.alloc (.cells #[.int .i64 R19.at_, .int .i64 R19.acc, .slice u19.a1 R19.nc u19.c1, .slice u19.a2 R19.nt u19.c2, .bool R19.d] 61)) ap np F) := PX.blw P5.out hA
    replace X6 : Hid (GX (w8.alloc (.cells #[.int .i64 R19.at_, .int .i64 R19.acc, .slice u19.a1 R19.nc u19.c1, .slice u19.a2 R19.nt u19.c2, .bool R19.d] 61)) w1.heap.size u D) := GX.blw X6.out hA
    replace X8 : Hid (GX (w8.alloc (.cells #[.int .i64 R19.at_, .int .i64 R19.acc, .slice u19.a1 R19.nc u19.c1, .slice u19.a2 R19.nt u19.c2, .bool R19.d] 61)) w2.heap.size u8 R11) := GX.blw X8.out hA
    replace L14 : Hid (LI (w8.alloc (.cells #[.int .i64 R19.at_, .int .i64 R19.acc, .slice u19.a1 R19.nc u19.c1, .slice u19.a2 R19.nt u19.c2, .bool R19.d] 61)) a14 m14 f14) := LI.blw L14.out hA
    have X19 : Hid (GX (w8.alloc (.cells #[.int .i64 R19.at_, .int .i64 R19.acc, .slice u19.a1 R19.nc u19.c1, .slice u19.a2 R19.nt u19.c2, .bool R19.d] 61)) w8.heap.size u19 R19) := ⟨hat9, hro9⟩
    clear hA hat9 hro9
    clear own hb hs ho
    have e1 : IntKind.i64.wrap ((K : Int) - y) = ((K - y : Nat) : Int) := by rw [IntKind.wrap_i64] <;> omega
    obtain ⟨p0, p1, p2, p3, p4⟩ := get5 X19.out.box
    go_wp2_with fail
    clear p0 p1 p2 p3 p4
    clear e1
    refine (implRun_any ap cp np F u19 R19 ((K - y : Nat) : Int) _ _ _ P5.out X19.out.at_ (fun x hx => hx)).mono ?_
    rintro e w9 ⟨u22, R22, x23, r24, rfl, ho, hs, own, hb⟩
    replace HB : Hid (Blw _ _) := Blw.trans HB.out hb
    replace HC : Hid (Blw _ _) := Blw.trans HC.out hb
    replace H2 : Hid (BY w9 ao2 n2 f2) := BY.blw H2.out hb
    replace P5 : Hid (PX w9 ap np F) := PX.blw P5.out hb
    replace X6 : Hid (GX w9 w1.heap.size u D) := GX.blw X6.out hb
    replace X8 : Hid (GX w9 w2.heap.size u8 R11) := GX.blw X8.out hb
    replace L14 : Hid (LI w9 a14 m14 f14) := LI.blw L14.out hb
    replace X19 : Hid (GX w9 w8.heap.size u19 R19) := GX.blw X19.out hb
    obtain ⟨eR, ex, er⟩ := rg_ok ho HP.out.1 HG19.out ⟨by omega, by omega⟩
    subst er
    rw [Int.toNat_natCast] at eR ex
    obtain ⟨ad1, ad2⟩ := runG_add (n := np) (F := F) y (K - y) D
    rw [show y + (K - y) = K by omega] at ad1 ad2
    have eR2 : R22 = R11 := by rw [eR, HR19.out.1, ← ad1]; exact HR.out
    have ex2 : x20 + x23 = x12 := by rw [ex, HR19.out.1, HR19.out.2, ← HX.out, ad2]; omega
    obtain rfl := eR2.symm
    have HXX : Hid (x20 + x23 = x12) := ex2
    have hx60 : 0 ≤ x12 ∧ x12 ≤ 60 := ⟨by have := HX.out; omega, by have := HMANY.out.1; omega⟩
    clear eR ex ad1 ad2 ex2 HR19 HG19
    have hA : Blw w9 (w9.alloc (.cells #[.int .i64 R11.at_, .int .i64 R11.acc, .slice u22.a1 R11.nc u22.c1, .slice u22.a2 R11.nt u22.c2, .bool R11.d] 61)) := (Blw.refl _).alloc _
    have hat9 : GAt (fun x => x < (w9.alloc (.cells #[.int .i64 R11.at_, .int .i64 R11.acc, .slice u22.a1 R11.nc u22.c1, .slice u22.a2 R11.nt u22.c2, .bool R11.d] 61)).heap.size) (w9.alloc (.cells #[.int .i64 R11.at_, .int .i64 R11.acc, .slice u22.a1 R11.nc u22.c1, .slice u22.a2 R11.nt u22.c2, .bool R11.d] 61)) u22 R11 := (GAt.blw own.at hA).mono (fun x hx => Nat.lt_of_lt_of_le hx.2 hA.size)
    have hro9 := row5 w9 (.int .i64 R11.at_) (.int .i64 R11.acc) (.slice u22.a1 R11.nc u22.c1) (.slice u22.a2 R11.nt u22.c2) (.bool R11.d) 61
    replace HB : Hid (Blw _ _) := Blw.trans HB.out hA
    replace HC : Hid (Blw _ _) := Blw.trans HC.out hA
    replace H2 : Hid (BY (w9.alloc (.cells #[.int .i64 R11.at_, .int .i64 R11.acc, .slice u22.a1 R11.nc u22.c1, .slice u22.a2 R11.nt u22.c2, .bool R11.d] 61)) ao2 n2 f2) := BY.blw H2.out hA
    replace P5 : Hid (PX (w9.alloc (.cells #[.int .i64 R11.at_, .int .i64 R11.acc, .slice u22.a1 R11.nc u22.c1, .slice u22.a2 R11.nt u22.c2, .bool R11.d] 61)) ap np F) := PX.blw P5.out hA
    replace X6 : Hid (GX (w9.alloc (.cells #[.int .i64 R11.at_, .int .i64 R11.acc, .slice u22.a1 R11.nc u22.c1, .slice u22.a2 R11.nt u22.c2, .bool R11.d] 61)) w1.heap.size u D) := GX.blw X6.out hA
    replace X8 : Hid (GX (w9.alloc (.cells #[.int .i64 R11.at_, .int .i64 R11.acc, .slice u22.a1 R11.nc u22.c1, .slice u22.a2 R11.nt u22.c2, .bool R11.d] 61)) w2.heap.size u8 R11) := GX.blw X8.out hA
    replace L14 : Hid (LI (w9.alloc (.cells #[.int .i64 R11.at_, .int .i64 R11.acc, .slice u22.a1 R11.nc u22.c1, .slice u22.a2 R11.nt u22.c2, .bool R11.d] 61)) a14 m14 f14) := LI.blw L14.out hA
    replace X19 : Hid (GX (w9.alloc (.cells #[.int .i64 R11.at_, .int .i64 R11.acc, .slice u22.a1 R11.nc u22.c1, .slice u22.a2 R11.nt u22.c2, .bool R11.d] 61)) w8.heap.size u19 R19) := GX.blw X19.out hA
    have X22 : Hid (GX (w9.alloc (.cells #[.int .i64 R11.at_, .int .i64 R11.acc, .slice u22.a1 R11.nc u22.c1, .slice u22.a2 R11.nt u22.c2, .bool R11.d] 61)) w9.heap.size u22 R11) := ⟨hat9, hro9⟩
    clear hA hat9 hro9
    clear own hb hs ho
    clear X19
    obtain ⟨p0, p1, p2, p3, p4⟩ := get5 X8.out.box
    go_wp2_with fail
    clear p0 p1 p2 p3 p4
    refine (implGoodG_any u8 R11 _ _ X8.out.at_ (fun x hx => hx)).mono ?_
    rintro e w10 ⟨rg, rfl, hgd, hb⟩
    replace HB : Hid (Blw _ _) := Blw.trans HB.out hb
    replace HC : Hid (Blw _ _) := Blw.trans HC.out hb
    replace H2 : Hid (BY w10 ao2 n2 f2) := BY.blw H2.out hb
    replace P5 : Hid (PX w10 ap np F) := PX.blw P5.out hb
    replace X6 : Hid (GX w10 w1.heap.size u D) := GX.blw X6.out hb
    replace X8 : Hid (GX w10 w2.heap.size u8 R11) := GX.blw X8.out hb
    replace L14 : Hid (LI w10 a14 m14 f14) := LI.blw L14.out hb
    replace X22 : Hid (GX w10 w9.heap.size u22 R11) := GX.blw X22.out hb
    obtain rfl : rg = true := hgd.2 HRG.out
    clear hgd hb
    have e1 : IntKind.i64.wrap (x20 + x23) = x12 := by rw [HXX.out, IntKind.wrap_i64] <;> omega
    have e2 : (x12 != x12) = false := by simp
    obtain ⟨p0, p1, p2, p3, p4⟩ := get5 X22.out.box
    obtain ⟨q0, q1, q2, q3, q4⟩ := get5 X8.out.box
    go_wp2_with fail
    clear p0 p1 p2 p3 p4 q0 q1 q2 q3 q4
    clear e1 e2
    refine (sameGuest_same u22 u8 R11 _ X22.out.at_ X8.out.at_).mono ?_
    rintro e w11 ⟨rfl, hb⟩
    replace HB : Hid (Blw _ _) := Blw.trans HB.out hb
    replace HC : Hid (Blw _ _) := Blw.trans HC.out hb
    replace H2 : Hid (BY w11 ao2 n2 f2) := BY.blw H2.out hb
    replace P5 : Hid (PX w11 ap np F) := PX.blw P5.out hb
    replace X6 : Hid (GX w11 w1.heap.size u D) := GX.blw X6.out hb
    replace X8 : Hid (GX w11 w2.heap.size u8 R11) := GX.blw X8.out hb
    replace L14 : Hid (LI w11 a14 m14 f14) := LI.blw L14.out hb
    replace X22 : Hid (GX w11 w9.heap.size u22 R11) := GX.blw X22.out hb
    clear hb
    clear X22
    obtain ⟨p0, p1, p2, p3, p4⟩ := get5 X8.out.box
    have hd9 : x12 < (K : Int) → R11.d = true := HMANY.out.2
    have hcase : (decide (x12 < (K : Int)) = true ∧ R11.d = true) ∨ decide (x12 < (K : Int)) = false := by
      by_cases h : x12 < (K : Int)
      · exact Or.inl ⟨by simpa using h, hd9 h⟩
      · exact Or.inr (by simpa using h)
    clear hd9
    rcases hcase with ⟨hc1, hdt⟩ | hc1
    · rw [hdt] at p4
      clear hdt
      go_wp2_with fail
      clear p0 p1 p2 p3 p4 hc1
      have hn8 : R11.nc = 8 ∧ D.nc = 8 := ⟨HRG.out.nc, HP.out.2.1.nc⟩
      obtain ⟨hn8a, hn8b⟩ := hn8
      have HN8 : Hid (R11.nc = 8 ∧ D.nc = 8) := ⟨hn8a, hn8b⟩
      clear hn8a hn8b
      go_loopw [164] (fun i wr => ∃ j : Nat, j ≤ 8 ∧ i = .int .i64 j ∧ Blw w11 wr) (fun i _ => 8 - (intOf i).toNat)
      case atStart => exact ⟨0, by omega, rfl, Blw.refl _⟩
      case round =>
        obtain ⟨j, hj, rfl, hb⟩ := hrel
        have HD : Hid (Blw w11 wr) := hb
        clear hb
        by_cases hlt : j < 8
        · have hlt' : (j : Int) < (R11.nc : Int) := by have := HN8.out.1; omega
          have hlt2 : (j : Int) < (D.nc : Int) := by have := HN8.out.2; omega
          obtain ⟨b, o, eb, -, g1⟩ := (X8.out.blw HD.out).at_.c.2 j (by have := HN8.out.1; omega)
          obtain ⟨b', o', eb', -, g2⟩ := (X6.out.blw HD.out).at_.c.2 j (by have := HN8.out.2; omega)
          have A8 : ∀ w', Blw wr w' → w'.cell? ⟨w2.heap.size, 2, none⟩ = some (.slice (some ⟨b, o, none⟩) R11.nc u8.c1) := fun w' hh => by have := (get5 ((X8.out.blw HD.out).blw hh).box).2.2.1; rw [eb] at this; exact this
          have A6 : ∀ w', Blw wr w' → w'.cell? ⟨w1.heap.size, 2, none⟩ = some (.slice (some ⟨b', o', none⟩) D.nc u.c1) := fun w' hh => by have := (get5 ((X6.out.blw HD.out).blw hh).box).2.2.1; rw [eb'] at this; exact this
          have G8 : ∀ w', Blw wr w' → w'.cell? ⟨b, o + j, none⟩ = some (.int .i64 (R11.c j)) := fun w' hh => hh.cell g1
          have G6 : ∀ w', Blw wr w' → w'.cell? ⟨b', o' + j, none⟩ = some (.int .i64 (D.c j)) := fun w' hh => hh.cell g2
          have HLW : Hid (LI wr a14 m14 f14) := L14.out.blw HD.out
          by_cases hne : R11.c j = D.c j
          · have d1 : (R11.c j != D.c j) = false := by simp [hne]
            clear g1 g2 eb eb' hne X8 X6 L14 P5 H2 HCELL HN8
            generalize R11.c j = cj at *
            generalize D.c j = dj at *
            generalize R11.nc = n8 at *
            generalize D.nc = n6 at *
            go_upto_region 19 with fail
            have hdr : Blw wr wr.drew := (Blw.refl _).drew
            have HST : Hid (wr.drew.cell? ⟨w2.heap.size, 2, none⟩ = some (.slice (some ⟨b, o, none⟩) n8 u8.c1) ∧ wr.drew.cell? ⟨w1.heap.size, 2, none⟩ = some (.slice (some ⟨b', o', none⟩) n6 u.c1) ∧ wr.drew.cell? ⟨b, o + j, none⟩ = some (.int .i64 cj) ∧ wr.drew.cell? ⟨b', o' + j, none⟩ = some (.int .i64 dj)) := ⟨A8 _ hdr, A6 _ hdr, G8 _ hdr, G6 _ hdr⟩
            have HDD : Hid (Blw w11 wr.drew) := HD.out.trans hdr
            have HLD : Hid (LI wr.drew a14 m14 f14) := HLW.out.blw hdr
            clear hdr A8 A6 G8 G6 HD HLW
            refine wp_region_noPanic ?_
            refine wp_region_held_drew (S := (fun w' => w'.cell? ⟨w2.heap.size, 2, none⟩ = some (.slice (some ⟨b, o, none⟩) n8 u8.c1) ∧ w'.cell? ⟨w1.heap.size, 2, none⟩ = some (.slice (some ⟨b', o', none⟩) n6 u.c1) ∧ w'.cell? ⟨b, o + j, none⟩ = some (.int .i64 cj) ∧ w'.cell? ⟨b', o' + j, none⟩ = some (.int .i64 dj))) (by kernel_rfl) HST.out (fun hB => ?_)
            clear hB
            generalize wr.drew = wd at *
            refine wpAnyH_take (i := 0) (oi := { dst := some 167, op := Op.fieldAddr 61 (Operand.tmp 8) 2, type := 0, pos := _, after := #[], guard := none }) (v := (.pointer (some ⟨w2.heap.size, 2, none⟩))) rfl (by kernel_rfl) (by kernel_rfl) (by kernel_rfl) (fun _ _ _ h => h) (Or.inl ⟨by rfl, fun w' hS => by (try dsimp only at hS); go_simp⟩) HST.out ?_
            simp only [Act.put, List.setIfInBounds_toArray, List.set_cons_zero, List.set_cons_succ]
            refine wpAnyH_take (i := 2) (oi := { dst := some 169, op := Op.move (Operand.tmp 25), type := 3, pos := _, after := #[], guard := none }) (v := (.int .i64 (j : Int))) rfl (by kernel_rfl) (by kernel_rfl) (by kernel_rfl) (fun _ _ _ h => h) (Or.inl ⟨by rfl, fun w' hS => by (try dsimp only at hS); go_simp⟩) HST.out ?_
            simp only [Act.put, List.setIfInBounds_toArray, List.set_cons_zero, List.set_cons_succ]
            refine wpAnyH_take (i := 5) (oi := { dst := some 172, op := Op.fieldAddr 61 (Operand.tmp 6) 2, type := 0, pos := _, after := #[], guard := none }) (v := (.pointer (some ⟨w1.heap.size, 2, none⟩))) rfl (by kernel_rfl) (by kernel_rfl) (by kernel_rfl) (fun _ _ _ h => h) (Or.inl ⟨by rfl, fun w' hS => by (try dsimp only at hS); go_simp⟩) HST.out ?_
            simp only [Act.put, List.setIfInBounds_toArray, List.set_cons_zero, List.set_cons_succ]
            refine wpAnyH_take (i := 7) (oi := { dst := some 174, op := Op.move (Operand.tmp 25), type := 3, pos := _, after := #[], guard := none }) (v := (.int .i64 (j : Int))) rfl (by kernel_rfl) (by kernel_rfl) (by kernel_rfl) (fun _ _ _ h => h) (Or.inl ⟨by rfl, fun w' hS => by (try dsimp only at hS); go_simp⟩) HST.out ?_
            simp only [Act.put, List.setIfInBounds_toArray, List.set_cons_zero, List.set_cons_succ]
            refine wpAnyH_take (i := 1) (oi := { dst := some 168, op := Op.load 26 (Operand.tmp 167), type := 26, pos := _, after := #[{ on := 0, ground := Ground.data }], guard := none }) (v := (.slice (some ⟨b, o, none⟩) n8 u8.c1)) rfl (by kernel_rfl) (by kernel_rfl) (by kernel_rfl) (fun _ _ _ h => h) (Or.inl ⟨by rfl, fun w' hS => by (try dsimp only at hS); go_simp⟩) HST.out ?_
            simp only [Act.put, List.setIfInBounds_toArray, List.set_cons_zero, List.set_cons_succ]
            refine wpAnyH_take (i := 6) (oi := { dst := some 173, op := Op.load 26 (Operand.tmp 172), type := 26, pos := _, after := #[{ on := 5, ground := Ground.data }], guard := none }) (v := (.slice (some ⟨b', o', none⟩) n6 u.c1)) rfl (by kernel_rfl) (by kernel_rfl) (by kernel_rfl) (fun _ _ _ h => h) (Or.inl ⟨by rfl, fun w' hS => by (try dsimp only at hS); go_simp⟩) HST.out ?_
            simp only [Act.put, List.setIfInBounds_toArray, List.set_cons_zero, List.set_cons_succ]
            refine wpAnyH_take (i := 3) (oi := { dst := some 170, op := Op.indexAddr 26 (Operand.tmp 168) (Operand.tmp 169), type := 0, pos := _, after := #[{ on := 1, ground := Ground.data }, { on := 2, ground := Ground.data }], guard := none }) (v := (.pointer (some ⟨b, o + j, none⟩))) rfl (by kernel_rfl) (by kernel_rfl) (by kernel_rfl) (fun _ _ _ h => h) (Or.inl ⟨by rfl, fun w' hS => by (try dsimp only at hS); go_simp⟩) HST.out ?_
            simp only [Act.put, List.setIfInBounds_toArray, List.set_cons_zero, List.set_cons_succ]
            refine wpAnyH_take (i := 8) (oi := { dst := some 175, op := Op.indexAddr 26 (Operand.tmp 173) (Operand.tmp 174), type := 0, pos := _, after := #[{ on := 6, ground := Ground.data }, { on := 7, ground := Ground.data }], guard := none }) (v := (.pointer (some ⟨b', o' + j, none⟩))) rfl (by kernel_rfl) (by kernel_rfl) (by kernel_rfl) (fun _ _ _ h => h) (Or.inl ⟨by rfl, fun w' hS => by (try dsimp only at hS); go_simp⟩) HST.out ?_
            simp only [Act.put, List.setIfInBounds_toArray, List.set_cons_zero, List.set_cons_succ]
            refine wpAnyH_take (i := 4) (oi := { dst := some 171, op := Op.load 3 (Operand.tmp 170), type := 3, pos := _, after := #[{ on := 3, ground := Ground.data }], guard := none }) (v := (.int .i64 cj)) rfl (by kernel_rfl) (by kernel_rfl) (by kernel_rfl) (fun _ _ _ h => h) (Or.inl ⟨by rfl, fun w' hS => by (try dsimp only at hS); go_simp⟩) HST.out ?_
            simp only [Act.put, List.setIfInBounds_toArray, List.set_cons_zero, List.set_cons_succ]
            refine wpAnyH_take (i := 9) (oi := { dst := some 176, op := Op.load 3 (Operand.tmp 175), type := 3, pos := _, after := #[{ on := 8, ground := Ground.data }], guard := none }) (v := (.int .i64 dj)) rfl (by kernel_rfl) (by kernel_rfl) (by kernel_rfl) (fun _ _ _ h => h) (Or.inl ⟨by rfl, fun w' hS => by (try dsimp only at hS); go_simp⟩) HST.out ?_
            simp only [Act.put, List.setIfInBounds_toArray, List.set_cons_zero, List.set_cons_succ]
            refine wpAnyH_take (i := 10) (oi := { dst := some 177, op := Op.binOp BinOp.neq 3 (Operand.tmp 171) (Operand.tmp 176) 3, type := 4, pos := _, after := #[{ on := 4, ground := Ground.data }, { on := 9, ground := Ground.data }], guard := none }) (v := (.bool false)) rfl (by kernel_rfl) (by kernel_rfl) (by kernel_rfl) (fun _ _ _ h => h) (Or.inl ⟨by rfl, fun w' hS => by (try dsimp only at hS); go_simp⟩) HST.out ?_
            simp only [Act.put, List.setIfInBounds_toArray, List.set_cons_zero, List.set_cons_succ]
            refine wpAnyH_take (i := 11) (oi := { dst := some 178, op := Op.move (Operand.tmp 177), type := 4, pos := _, after := #[{ on := 10, ground := Ground.data }], guard := none }) (v := (.bool false)) rfl (by kernel_rfl) (by kernel_rfl) (by kernel_rfl) (fun _ _ _ h => h) (Or.inl ⟨by rfl, fun w' hS => by (try dsimp only at hS); go_simp⟩) HST.out ?_
            simp only [Act.put, List.setIfInBounds_toArray, List.set_cons_zero, List.set_cons_succ]
            refine wpAnyH_take (i := 12) (oi := { dst := some 179, op := Op.move (Operand.tmp 14), type := 26, pos := _, after := #[{ on := 11, ground := Ground.guard }], guard := some (11, true) }) (v := undef) rfl (by kernel_rfl) (by kernel_rfl) (by kernel_rfl) (fun _ _ _ h => h) (Or.inr ⟨by rfl, rfl⟩) HST.out ?_
            simp only [Act.put, List.setIfInBounds_toArray, List.set_cons_zero, List.set_cons_succ]
            refine wpAnyH_take (i := 13) (oi := { dst := some 180, op := Op.move (Operand.tmp 25), type := 3, pos := _, after := #[{ on := 11, ground := Ground.guard }], guard := some (11, true) }) (v := undef) rfl (by kernel_rfl) (by kernel_rfl) (by kernel_rfl) (fun _ _ _ h => h) (Or.inr ⟨by rfl, rfl⟩) HST.out ?_
            simp only [Act.put, List.setIfInBounds_toArray, List.set_cons_zero, List.set_cons_succ]
            refine wpAnyH_take (i := 14) (oi := { dst := some 181, op := Op.call { callee := Callee.value (Operand.func 45), args := #[Operand.tmp 179, Operand.tmp 180], argTypes := #[26, 3] }, type := 4, pos := _, after := #[{ on := 12, ground := Ground.data }, { on := 13, ground := Ground.data }, { on := 11, ground := Ground.chain }, { on := 11, ground := Ground.guard }], guard := some (11, true) }) (v := undef) rfl (by kernel_rfl) (by kernel_rfl) (by kernel_rfl) (fun _ _ _ h => h) (Or.inr ⟨by rfl, rfl⟩) HST.out ?_
            simp only [Act.put, List.setIfInBounds_toArray, List.set_cons_zero, List.set_cons_succ]
            refine wpAnyH_take (i := 15) (oi := { dst := some 182, op := Op.unOp UnOp.not 4 (Operand.tmp 181), type := 4, pos := _, after := #[{ on := 14, ground := Ground.data }, { on := 11, ground := Ground.guard }], guard := some (11, true) }) (v := undef) rfl (by kernel_rfl) (by kernel_rfl) (by kernel_rfl) (fun _ _ _ h => h) (Or.inr ⟨by rfl, rfl⟩) HST.out ?_
            simp only [Act.put, List.setIfInBounds_toArray, List.set_cons_zero, List.set_cons_succ]
            refine wpAnyH_take (i := 16) (oi := { dst := some 183, op := Op.pick (Operand.tmp 178) (Operand.tmp 182) (Operand.const (Value.bool false)), type := 4, pos := _, after := #[{ on := 11, ground := Ground.data }, { on := 15, ground := Ground.data }], guard := none }) (v := (.bool false)) rfl (by kernel_rfl) (by kernel_rfl) (by kernel_rfl) (fun _ _ _ h => h) (Or.inl ⟨by rfl, fun w' hS => by (try dsimp only at hS); go_simp⟩) HST.out ?_
            simp only [Act.put, List.setIfInBounds_toArray, List.set_cons_zero, List.set_cons_succ]
            refine wpAnyH_done (by kernel_rfl) ?_ _
            refine NoPanic.normal ?_
            go_wp2
            go_roundw
            case rel => exact ⟨j + 1, by omega, by go_num, HDD.out⟩
            case measure => simp [intOf]; omega
          · have d1 : (R11.c j != D.c j) = true := by simp [hne]
            have HIS : Hid (isIn m14 f14 (j : Int)) := HCELL.out j hne
            clear g1 g2 eb eb' hne X8 X6 L14 P5 H2 HCELL HN8
            generalize R11.c j = cj at *
            generalize D.c j = dj at *
            generalize R11.nc = n8 at *
            generalize D.nc = n6 at *
            go_upto_region 19 with fail
            have hdr : Blw wr wr.drew := (Blw.refl _).drew
            have HST : Hid (wr.drew.cell? ⟨w2.heap.size, 2, none⟩ = some (.slice (some ⟨b, o, none⟩) n8 u8.c1) ∧ wr.drew.cell? ⟨w1.heap.size, 2, none⟩ = some (.slice (some ⟨b', o', none⟩) n6 u.c1) ∧ wr.drew.cell? ⟨b, o + j, none⟩ = some (.int .i64 cj) ∧ wr.drew.cell? ⟨b', o' + j, none⟩ = some (.int .i64 dj)) := ⟨A8 _ hdr, A6 _ hdr, G8 _ hdr, G6 _ hdr⟩
            have HDD : Hid (Blw w11 wr.drew) := HD.out.trans hdr
            have HLD : Hid (LI wr.drew a14 m14 f14) := HLW.out.blw hdr
            clear hdr A8 A6 G8 G6 HD HLW
            refine wp_region_noPanic ?_
            refine wp_region_held_drew (S := (fun w' => w'.cell? ⟨w2.heap.size, 2, none⟩ = some (.slice (some ⟨b, o, none⟩) n8 u8.c1) ∧ w'.cell? ⟨w1.heap.size, 2, none⟩ = some (.slice (some ⟨b', o', none⟩) n6 u.c1) ∧ w'.cell? ⟨b, o + j, none⟩ = some (.int .i64 cj) ∧ w'.cell? ⟨b', o' + j, none⟩ = some (.int .i64 dj))) (by kernel_rfl) HST.out (fun hB => ?_)
            clear hB
            generalize wr.drew = wd at *
            refine wpAnyH_take (i := 0) (oi := { dst := some 167, op := Op.fieldAddr 61 (Operand.tmp 8) 2, type := 0, pos := _, after := #[], guard := none }) (v := (.pointer (some ⟨w2.heap.size, 2, none⟩))) rfl (by kernel_rfl) (by kernel_rfl) (by kernel_rfl) (fun _ _ _ h => h) (Or.inl ⟨by rfl, fun w' hS => by (try dsimp only at hS); go_simp⟩) HST.out ?_
            simp only [Act.put, List.setIfInBounds_toArray, List.set_cons_zero, List.set_cons_succ]
            refine wpAnyH_take (i := 2) (oi := { dst := some 169, op := Op.move (Operand.tmp 25), type := 3, pos := _, after := #[], guard := none }) (v := (.int .i64 (j : Int))) rfl (by kernel_rfl) (by kernel_rfl) (by kernel_rfl) (fun _ _ _ h => h) (Or.inl ⟨by rfl, fun w' hS => by (try dsimp only at hS); go_simp⟩) HST.out ?_
            simp only [Act.put, List.setIfInBounds_toArray, List.set_cons_zero, List.set_cons_succ]
            refine wpAnyH_take (i := 5) (oi := { dst := some 172, op := Op.fieldAddr 61 (Operand.tmp 6) 2, type := 0, pos := _, after := #[], guard := none }) (v := (.pointer (some ⟨w1.heap.size, 2, none⟩))) rfl (by kernel_rfl) (by kernel_rfl) (by kernel_rfl) (fun _ _ _ h => h) (Or.inl ⟨by rfl, fun w' hS => by (try dsimp only at hS); go_simp⟩) HST.out ?_
            simp only [Act.put, List.setIfInBounds_toArray, List.set_cons_zero, List.set_cons_succ]
            refine wpAnyH_take (i := 7) (oi := { dst := some 174, op := Op.move (Operand.tmp 25), type := 3, pos := _, after := #[], guard := none }) (v := (.int .i64 (j : Int))) rfl (by kernel_rfl) (by kernel_rfl) (by kernel_rfl) (fun _ _ _ h => h) (Or.inl ⟨by rfl, fun w' hS => by (try dsimp only at hS); go_simp⟩) HST.out ?_
            simp only [Act.put, List.setIfInBounds_toArray, List.set_cons_zero, List.set_cons_succ]
            refine wpAnyH_take (i := 1) (oi := { dst := some 168, op := Op.load 26 (Operand.tmp 167), type := 26, pos := _, after := #[{ on := 0, ground := Ground.data }], guard := none }) (v := (.slice (some ⟨b, o, none⟩) n8 u8.c1)) rfl (by kernel_rfl) (by kernel_rfl) (by kernel_rfl) (fun _ _ _ h => h) (Or.inl ⟨by rfl, fun w' hS => by (try dsimp only at hS); go_simp⟩) HST.out ?_
            simp only [Act.put, List.setIfInBounds_toArray, List.set_cons_zero, List.set_cons_succ]
            refine wpAnyH_take (i := 6) (oi := { dst := some 173, op := Op.load 26 (Operand.tmp 172), type := 26, pos := _, after := #[{ on := 5, ground := Ground.data }], guard := none }) (v := (.slice (some ⟨b', o', none⟩) n6 u.c1)) rfl (by kernel_rfl) (by kernel_rfl) (by kernel_rfl) (fun _ _ _ h => h) (Or.inl ⟨by rfl, fun w' hS => by (try dsimp only at hS); go_simp⟩) HST.out ?_
            simp only [Act.put, List.setIfInBounds_toArray, List.set_cons_zero, List.set_cons_succ]
            refine wpAnyH_take (i := 3) (oi := { dst := some 170, op := Op.indexAddr 26 (Operand.tmp 168) (Operand.tmp 169), type := 0, pos := _, after := #[{ on := 1, ground := Ground.data }, { on := 2, ground := Ground.data }], guard := none }) (v := (.pointer (some ⟨b, o + j, none⟩))) rfl (by kernel_rfl) (by kernel_rfl) (by kernel_rfl) (fun _ _ _ h => h) (Or.inl ⟨by rfl, fun w' hS => by (try dsimp only at hS); go_simp⟩) HST.out ?_
            simp only [Act.put, List.setIfInBounds_toArray, List.set_cons_zero, List.set_cons_succ]
            refine wpAnyH_take (i := 8) (oi := { dst := some 175, op := Op.indexAddr 26 (Operand.tmp 173) (Operand.tmp 174), type := 0, pos := _, after := #[{ on := 6, ground := Ground.data }, { on := 7, ground := Ground.data }], guard := none }) (v := (.pointer (some ⟨b', o' + j, none⟩))) rfl (by kernel_rfl) (by kernel_rfl) (by kernel_rfl) (fun _ _ _ h => h) (Or.inl ⟨by rfl, fun w' hS => by (try dsimp only at hS); go_simp⟩) HST.out ?_
            simp only [Act.put, List.setIfInBounds_toArray, List.set_cons_zero, List.set_cons_succ]
            refine wpAnyH_take (i := 4) (oi := { dst := some 171, op := Op.load 3 (Operand.tmp 170), type := 3, pos := _, after := #[{ on := 3, ground := Ground.data }], guard := none }) (v := (.int .i64 cj)) rfl (by kernel_rfl) (by kernel_rfl) (by kernel_rfl) (fun _ _ _ h => h) (Or.inl ⟨by rfl, fun w' hS => by (try dsimp only at hS); go_simp⟩) HST.out ?_
            simp only [Act.put, List.setIfInBounds_toArray, List.set_cons_zero, List.set_cons_succ]
            refine wpAnyH_take (i := 9) (oi := { dst := some 176, op := Op.load 3 (Operand.tmp 175), type := 3, pos := _, after := #[{ on := 8, ground := Ground.data }], guard := none }) (v := (.int .i64 dj)) rfl (by kernel_rfl) (by kernel_rfl) (by kernel_rfl) (fun _ _ _ h => h) (Or.inl ⟨by rfl, fun w' hS => by (try dsimp only at hS); go_simp⟩) HST.out ?_
            simp only [Act.put, List.setIfInBounds_toArray, List.set_cons_zero, List.set_cons_succ]
            refine wpAnyH_take (i := 10) (oi := { dst := some 177, op := Op.binOp BinOp.neq 3 (Operand.tmp 171) (Operand.tmp 176) 3, type := 4, pos := _, after := #[{ on := 4, ground := Ground.data }, { on := 9, ground := Ground.data }], guard := none }) (v := (.bool true)) rfl (by kernel_rfl) (by kernel_rfl) (by kernel_rfl) (fun _ _ _ h => h) (Or.inl ⟨by rfl, fun w' hS => by (try dsimp only at hS); go_simp⟩) HST.out ?_
            simp only [Act.put, List.setIfInBounds_toArray, List.set_cons_zero, List.set_cons_succ]
            refine wpAnyH_take (i := 11) (oi := { dst := some 178, op := Op.move (Operand.tmp 177), type := 4, pos := _, after := #[{ on := 10, ground := Ground.data }], guard := none }) (v := (.bool true)) rfl (by kernel_rfl) (by kernel_rfl) (by kernel_rfl) (fun _ _ _ h => h) (Or.inl ⟨by rfl, fun w' hS => by (try dsimp only at hS); go_simp⟩) HST.out ?_
            simp only [Act.put, List.setIfInBounds_toArray, List.set_cons_zero, List.set_cons_succ]
            refine wpAnyH_take (i := 12) (oi := { dst := some 179, op := Op.move (Operand.tmp 14), type := 26, pos := _, after := #[{ on := 11, ground := Ground.guard }], guard := some (11, true) }) (v := (.slice a14 m14 c14)) rfl (by kernel_rfl) (by kernel_rfl) (by kernel_rfl) (fun _ _ _ h => h) (Or.inl ⟨by rfl, fun w' hS => by (try dsimp only at hS); go_simp⟩) HST.out ?_
            simp only [Act.put, List.setIfInBounds_toArray, List.set_cons_zero, List.set_cons_succ]
            refine wpAnyH_take (i := 13) (oi := { dst := some 180, op := Op.move (Operand.tmp 25), type := 3, pos := _, after := #[{ on := 11, ground := Ground.guard }], guard := some (11, true) }) (v := (.int .i64 (j : Int))) rfl (by kernel_rfl) (by kernel_rfl) (by kernel_rfl) (fun _ _ _ h => h) (Or.inl ⟨by rfl, fun w' hS => by (try dsimp only at hS); go_simp⟩) HST.out ?_
            simp only [Act.put, List.setIfInBounds_toArray, List.set_cons_zero, List.set_cons_succ]
            refine wpAnyH_ready (rs := [14]) (by kernel_rfl) (by simp) ?_
            refine AllReadyH.cons (o := { dst := some 181, op := Op.call { callee := Callee.value (Operand.func 45), args := #[Operand.tmp 179, Operand.tmp 180], argTypes := #[26, 3] }, type := 4, pos := _, after := #[{ on := 12, ground := Ground.data }, { on := 13, ground := Ground.data }, { on := 11, ground := Ground.chain }, { on := 11, ground := Ground.guard }], guard := some (11, true) }) rfl (fun K hK => ?_) AllReadyH.nil
            go_simp
            refine (has_any _ _ m14 f14 _ _ _ HLD.out).mono ?_
            rintro e w70 ⟨r70, rfl, hr70, hw70⟩
            obtain rfl := hw70.symm
            obtain rfl : r70 = true := hr70.2 HIS.out
            clear hr70 hw70
            refine hK.out _ _ HST.out (fun hB => ?_)
            clear hK K hB
            try simp only [Act.put, List.setIfInBounds_toArray, List.set_cons_zero, List.set_cons_succ]
            refine wpAnyH_take (i := 15) (oi := { dst := some 182, op := Op.unOp UnOp.not 4 (Operand.tmp 181), type := 4, pos := _, after := #[{ on := 14, ground := Ground.data }, { on := 11, ground := Ground.guard }], guard := some (11, true) }) (v := (.bool false)) rfl (by kernel_rfl) (by kernel_rfl) (by kernel_rfl) (fun _ _ _ h => h) (Or.inl ⟨by rfl, fun w' hS => by (try dsimp only at hS); go_simp⟩) HST.out ?_
            simp only [Act.put, List.setIfInBounds_toArray, List.set_cons_zero, List.set_cons_succ]
            refine wpAnyH_take (i := 16) (oi := { dst := some 183, op := Op.pick (Operand.tmp 178) (Operand.tmp 182) (Operand.const (Value.bool false)), type := 4, pos := _, after := #[{ on := 11, ground := Ground.data }, { on := 15, ground := Ground.data }], guard := none }) (v := (.bool false)) rfl (by kernel_rfl) (by kernel_rfl) (by kernel_rfl) (fun _ _ _ h => h) (Or.inl ⟨by rfl, fun w' hS => by (try dsimp only at hS); go_simp⟩) HST.out ?_
            simp only [Act.put, List.setIfInBounds_toArray, List.set_cons_zero, List.set_cons_succ]
            refine wpAnyH_done (by kernel_rfl) ?_ _
            refine NoPanic.normal ?_
            go_wp2
            go_roundw
            case rel => exact ⟨j + 1, by omega, by go_num, HDD.out⟩
            case measure => simp [intOf]; omega
        have hlt' : ¬ (j : Int) < (R11.nc : Int) := by have := HN8.out.1; omega
        have hb := HD.out
        clear HD HCELL HN8
        replace HB : Hid (Blw _ _) := Blw.trans HB.out hb
        replace HC : Hid (Blw _ _) := Blw.trans HC.out hb
        replace H2 : Hid (BY wr ao2 n2 f2) := BY.blw H2.out hb
        replace P5 : Hid (PX wr ap np F) := PX.blw P5.out hb
        replace X6 : Hid (GX wr w1.heap.size u D) := GX.blw X6.out hb
        replace X8 : Hid (GX wr w2.heap.size u8 R11) := GX.blw X8.out hb
        replace L14 : Hid (LI wr a14 m14 f14) := LI.blw L14.out hb
        clear hb
        have hnt : ¬ (R11.nt : Int) < (D.nt : Int) := by have := HTOLD.out.1; omega
        have hle9 : D.nt ≤ R11.nt := HTOLD.out.1
        obtain ⟨hcp, hzt⟩ := HCP.out
        have A8 : ∀ w', Blw wr w' → w'.cell? ⟨w2.heap.size, 3, none⟩ = some (.slice (some ⟨zt, 0, none⟩) R11.nt u8.c2) := fun w' hh => by have := (get5 (X8.out.blw hh).box).2.2.2.1; rw [hzt] at this; exact this
        have A6 : ∀ w', Blw wr w' → w'.cell? ⟨w1.heap.size, 3, none⟩ = some (.slice u.a2 D.nt u.c2) := fun w' hh => (get5 (X6.out.blw hh).box).2.2.2.1
        have HT8 : Hid (IntsAt (fun x => x < wr.heap.size) wr (some ⟨zt, 0, none⟩) D.nt D.t) := by
          have h1 := X8.out.at_.t
          rw [hzt] at h1
          exact ⟨by have := h1.1; have := HTOLD.out.1; omega, fun i hi => by rw [← HTOLD.out.2 i hi]; exact h1.2 i (Nat.lt_of_lt_of_le hi HTOLD.out.1)⟩
        have HT6 : Hid (IntsAt (fun x => x < wr.heap.size) wr u.a2 D.nt D.t) := X6.out.at_.t
        have hc1 : (D.nt : Int) ≤ (u8.c2 : Int) := by have := HTOLD.out.1; omega
        have hc2 : ¬ (u8.c2 : Int) < (D.nt : Int) := by omega
        have hc3 : D.nt ≤ u8.c2 := by omega
        have FIN : Hid (Blw w7 wr) := HC.out
        clear hnt hcp hzt X8 X6 L14 P5 H2 HB HC HCP HTOLD HRG HP HR HX HXX HMANY
        go_upto_region 22 with fail
        have hdr : Blw wr wr.drew := (Blw.refl _).drew
        have HST : Hid (wr.drew.cell? ⟨w2.heap.size, 3, none⟩ = some (.slice (some ⟨zt, 0, none⟩) R11.nt u8.c2) ∧ wr.drew.cell? ⟨w1.heap.size, 3, none⟩ = some (.slice u.a2 D.nt u.c2)) := ⟨A8 _ hdr, A6 _ hdr⟩
        replace HT8 : Hid (IntsAt (fun x => x < wr.drew.heap.size) wr.drew (some ⟨zt, 0, none⟩) D.nt D.t) := HT8.out.blw hdr
        replace HT6 : Hid (IntsAt (fun x => x < wr.drew.heap.size) wr.drew u.a2 D.nt D.t) := HT6.out.blw hdr
        replace FIN : Hid (Blw w7 wr.drew) := FIN.out.trans hdr
        clear hdr A8 A6
        refine wp_region_noPanic ?_
        refine wp_region_held_drew (S := (fun w' => w'.cell? ⟨w2.heap.size, 3, none⟩ = some (.slice (some ⟨zt, 0, none⟩) R11.nt u8.c2) ∧ w'.cell? ⟨w1.heap.size, 3, none⟩ = some (.slice u.a2 D.nt u.c2))) (by kernel_rfl) HST.out (fun hB => ?_)
        clear hB
        generalize wr.drew = wd at *
        refine wpAnyH_take (i := 0) (oi := { dst := some 185, op := Op.fieldAddr 61 (Operand.tmp 8) 3, type := 0, pos := _, after := #[], guard := none }) (v := (.pointer (some ⟨w2.heap.size, 3, none⟩))) rfl (by kernel_rfl) (by kernel_rfl) (by kernel_rfl) (fun _ _ _ h => h) (Or.inl ⟨by rfl, fun w' hS => by (try dsimp only at hS); go_simp⟩) HST.out ?_
        simp only [Act.put, List.setIfInBounds_toArray, List.set_cons_zero, List.set_cons_succ]
        refine wpAnyH_take (i := 3) (oi := { dst := some 188, op := Op.fieldAddr 61 (Operand.tmp 6) 3, type := 0, pos := _, after := #[], guard := none }) (v := (.pointer (some ⟨w1.heap.size, 3, none⟩))) rfl (by kernel_rfl) (by kernel_rfl) (by kernel_rfl) (fun _ _ _ h => h) (Or.inl ⟨by rfl, fun w' hS => by (try dsimp only at hS); go_simp⟩) HST.out ?_
        simp only [Act.put, List.setIfInBounds_toArray, List.set_cons_zero, List.set_cons_succ]
        refine wpAnyH_take (i := 1) (oi := { dst := some 186, op := Op.load 26 (Operand.tmp 185), type := 26, pos := _, after := #[{ on := 0, ground := Ground.data }], guard := none }) (v := (.slice (some ⟨zt, 0, none⟩) R11.nt u8.c2)) rfl (by kernel_rfl) (by kernel_rfl) (by kernel_rfl) (fun _ _ _ h => h) (Or.inl ⟨by rfl, fun w' hS => by (try dsimp only at hS); go_simp⟩) HST.out ?_
        simp only [Act.put, List.setIfInBounds_toArray, List.set_cons_zero, List.set_cons_succ]
        refine wpAnyH_take (i := 4) (oi := { dst := some 189, op := Op.load 26 (Operand.tmp 188), type := 26, pos := _, after := #[{ on := 3, ground := Ground.data }], guard := none }) (v := (.slice u.a2 D.nt u.c2)) rfl (by kernel_rfl) (by kernel_rfl) (by kernel_rfl) (fun _ _ _ h => h) (Or.inl ⟨by rfl, fun w' hS => by (try dsimp only at hS); go_simp⟩) HST.out ?_
        simp only [Act.put, List.setIfInBounds_toArray, List.set_cons_zero, List.set_cons_succ]
        refine wpAnyH_take (i := 2) (oi := { dst := some 187, op := Op.call { callee := Callee.builtin Builtin.len, args := #[Operand.tmp 186], argTypes := #[26] }, type := 3, pos := _, after := #[{ on := 1, ground := Ground.data }], guard := none }) (v := (.int .i64 (R11.nt : Int))) rfl (by kernel_rfl) (by kernel_rfl) (by kernel_rfl) (fun _ _ _ h => h) (Or.inl ⟨by rfl, fun w' hS => by (try dsimp only at hS); go_simp⟩) HST.out ?_
        simp only [Act.put, List.setIfInBounds_toArray, List.set_cons_zero, List.set_cons_succ]
        refine wpAnyH_take (i := 5) (oi := { dst := some 190, op := Op.call { callee := Callee.builtin Builtin.len, args := #[Operand.tmp 189], argTypes := #[26] }, type := 3, pos := _, after := #[{ on := 4, ground := Ground.data }], guard := none }) (v := (.int .i64 (D.nt : Int))) rfl (by kernel_rfl) (by kernel_rfl) (by kernel_rfl) (fun _ _ _ h => h) (Or.inl ⟨by rfl, fun w' hS => by (try dsimp only at hS); go_simp⟩) HST.out ?_
        simp only [Act.put, List.setIfInBounds_toArray, List.set_cons_zero, List.set_cons_succ]
        refine wpAnyH_take (i := 6) (oi := { dst := some 191, op := Op.binOp BinOp.lss 3 (Operand.tmp 187) (Operand.tmp 190) 3, type := 4, pos := _, after := #[{ on := 2, ground := Ground.data }, { on := 5, ground := Ground.data }], guard := none }) (v := (.bool false)) rfl (by kernel_rfl) (by kernel_rfl) (by kernel_rfl) (fun _ _ _ h => h) (Or.inl ⟨by rfl, fun w' hS => by (try dsimp only at hS); go_simp⟩) HST.out ?_
        simp only [Act.put, List.setIfInBounds_toArray, List.set_cons_zero, List.set_cons_succ]
        refine wpAnyH_take (i := 7) (oi := { dst := some 192, op := Op.move (Operand.tmp 191), type := 4, pos := _, after := #[{ on := 6, ground := Ground.data }], guard := none }) (v := (.bool false)) rfl (by kernel_rfl) (by kernel_rfl) (by kernel_rfl) (fun _ _ _ h => h) (Or.inl ⟨by rfl, fun w' hS => by (try dsimp only at hS); go_simp⟩) HST.out ?_
        simp only [Act.put, List.setIfInBounds_toArray, List.set_cons_zero, List.set_cons_succ]
        refine wpAnyH_take (i := 8) (oi := { dst := some 193, op := Op.fieldAddr 61 (Operand.tmp 8) 3, type := 0, pos := _, after := #[{ on := 7, ground := Ground.guard }], guard := some (7, false) }) (v := (.pointer (some ⟨w2.heap.size, 3, none⟩))) rfl (by kernel_rfl) (by kernel_rfl) (by kernel_rfl) (fun _ _ _ h => h) (Or.inl ⟨by rfl, fun w' hS => by (try dsimp only at hS); go_simp⟩) HST.out ?_
        simp only [Act.put, List.setIfInBounds_toArray, List.set_cons_zero, List.set_cons_succ]
        refine wpAnyH_take (i := 10) (oi := { dst := some 195, op := Op.fieldAddr 61 (Operand.tmp 6) 3, type := 0, pos := _, after := #[{ on := 7, ground := Ground.guard }], guard := some (7, false) }) (v := (.pointer (some ⟨w1.heap.size, 3, none⟩))) rfl (by kernel_rfl) (by kernel_rfl) (by kernel_rfl) (fun _ _ _ h => h) (Or.inl ⟨by rfl, fun w' hS => by (try dsimp only at hS); go_simp⟩) HST.out ?_
        simp only [Act.put, List.setIfInBounds_toArray, List.set_cons_zero, List.set_cons_succ]
        refine wpAnyH_take (i := 14) (oi := { dst := some 199, op := Op.fieldAddr 61 (Operand.tmp 6) 3, type := 0, pos := _, after := #[{ on := 7, ground := Ground.guard }], guard := some (7, false) }) (v := (.pointer (some ⟨w1.heap.size, 3, none⟩))) rfl (by kernel_rfl) (by kernel_rfl) (by kernel_rfl) (fun _ _ _ h => h) (Or.inl ⟨by rfl, fun w' hS => by (try dsimp only at hS); go_simp⟩) HST.out ?_
        simp only [Act.put, List.setIfInBounds_toArray, List.set_cons_zero, List.set_cons_succ]
        refine wpAnyH_take (i := 9) (oi := { dst := some 194, op := Op.load 26 (Operand.tmp 193), type := 26, pos := _, after := #[{ on := 8, ground := Ground.data }, { on := 7, ground := Ground.guard }], guard := some (7, false) }) (v := (.slice (some ⟨zt, 0, none⟩) R11.nt u8.c2)) rfl (by kernel_rfl) (by kernel_rfl) (by kernel_rfl) (fun _ _ _ h => h) (Or.inl ⟨by rfl, fun w' hS => by (try dsimp only at hS); go_simp⟩) HST.out ?_
        simp only [Act.put, List.setIfInBounds_toArray, List.set_cons_zero, List.set_cons_succ]
        refine wpAnyH_take (i := 11) (oi := { dst := some 196, op := Op.load 26 (Operand.tmp 195), type := 26, pos := _, after := #[{ on := 10, ground := Ground.data }, { on := 7, ground := Ground.guard }], guard := some (7, false) }) (v := (.slice u.a2 D.nt u.c2)) rfl (by kernel_rfl) (by kernel_rfl) (by kernel_rfl) (fun _ _ _ h => h) (Or.inl ⟨by rfl, fun w' hS => by (try dsimp only at hS); go_simp⟩) HST.out ?_
        simp only [Act.put, List.setIfInBounds_toArray, List.set_cons_zero, List.set_cons_succ]
        refine wpAnyH_take (i := 15) (oi := { dst := some 200, op := Op.load 26 (Operand.tmp 199), type := 26, pos := _, after := #[{ on := 14, ground := Ground.data }, { on := 7, ground := Ground.guard }], guard := some (7, false) }) (v := (.slice u.a2 D.nt u.c2)) rfl (by kernel_rfl) (by kernel_rfl) (by kernel_rfl) (fun _ _ _ h => h) (Or.inl ⟨by rfl, fun w' hS => by (try dsimp only at hS); go_simp⟩) HST.out ?_
        simp only [Act.put, List.setIfInBounds_toArray, List.set_cons_zero, List.set_cons_succ]
        refine wpAnyH_take (i := 12) (oi := { dst := some 197, op := Op.call { callee := Callee.builtin Builtin.len, args := #[Operand.tmp 196], argTypes := #[26] }, type := 3, pos := _, after := #[{ on := 11, ground := Ground.data }, { on := 7, ground := Ground.guard }], guard := some (7, false) }) (v := (.int .i64 (D.nt : Int))) rfl (by kernel_rfl) (by kernel_rfl) (by kernel_rfl) (fun _ _ _ h => h) (Or.inl ⟨by rfl, fun w' hS => by (try dsimp only at hS); go_simp⟩) HST.out ?_
        simp only [Act.put, List.setIfInBounds_toArray, List.set_cons_zero, List.set_cons_succ]
        refine wpAnyH_take (i := 13) (oi := { dst := some 198, op := Op.slice 26 (Operand.tmp 194) none (some (Operand.tmp 197)) none, type := 26, pos := _, after := #[{ on := 9, ground := Ground.data }, { on := 12, ground := Ground.data }, { on := 7, ground := Ground.guard }], guard := some (7, false) }) (v := (.slice (some ⟨zt, 0, none⟩) D.nt u8.c2)) rfl (by kernel_rfl) (by kernel_rfl) (by kernel_rfl) (fun _ _ _ h => h) (Or.inl ⟨by rfl, fun w' hS => by (try dsimp only at hS); go_simp⟩) HST.out ?_
        simp only [Act.put, List.setIfInBounds_toArray, List.set_cons_zero, List.set_cons_succ]
        refine wpAnyH_ready (rs := [16]) (by kernel_rfl) (by simp) ?_
        refine AllReadyH.cons (o := { dst := some 201, op := Op.call { callee := Callee.value (Operand.func 20), args := #[Operand.tmp 198, Operand.tmp 200], argTypes := #[26, 26] }, type := 4, pos := _, after := #[{ on := 13, ground := Ground.data }, { on := 15, ground := Ground.data }, { on := 7, ground := Ground.chain }, { on := 7, ground := Ground.guard }], guard := some (7, false) }) rfl (fun K hK => ?_) AllReadyH.nil
        go_simp
        refine (sameInts_any _ _ _ _ D.nt D.nt D.t D.t _ HT8.out HT6.out).mono ?_
        rintro e w71 ⟨r71, rfl, hr71, hb71⟩
        obtain rfl : r71 = true := hr71.2 ⟨rfl, fun _ _ => rfl⟩
        have HST2 : Hid (_ ∧ _) := And.intro (hb71.cell HST.out.1) (hb71.cell HST.out.2)
        replace FIN : Hid (Blw _ w71) := FIN.out.trans hb71
        clear hr71 hb71
        refine hK.out _ _ HST2.out (fun hB => ?_)
        clear hK K hB
        try simp only [Act.put, List.setIfInBounds_toArray, List.set_cons_zero, List.set_cons_succ]
        refine wpAnyH_take (i := 17) (oi := { dst := some 202, op := Op.unOp UnOp.not 4 (Operand.tmp 201), type := 4, pos := _, after := #[{ on := 16, ground := Ground.data }, { on := 7, ground := Ground.guard }], guard := some (7, false) }) (v := (.bool false)) rfl (by kernel_rfl) (by kernel_rfl) (by kernel_rfl) (fun _ _ _ h => h) (Or.inl ⟨by rfl, fun w' hS => by (try dsimp only at hS); go_simp⟩) HST2.out ?_
        simp only [Act.put, List.setIfInBounds_toArray, List.set_cons_zero, List.set_cons_succ]
        refine wpAnyH_take (i := 18) (oi := { dst := some 203, op := Op.pick (Operand.tmp 192) (Operand.const (Value.bool true)) (Operand.tmp 202), type := 4, pos := _, after := #[{ on := 7, ground := Ground.data }, { on := 17, ground := Ground.data }], guard := none }) (v := (.bool false)) rfl (by kernel_rfl) (by kernel_rfl) (by kernel_rfl) (fun _ _ _ h => h) (Or.inl ⟨by rfl, fun w' hS => by (try dsimp only at hS); go_simp⟩) HST2.out ?_
        simp only [Act.put, List.setIfInBounds_toArray, List.set_cons_zero, List.set_cons_succ]
        refine wpAnyH_done (by kernel_rfl) ?_ _
        refine NoPanic.normal ?_
        go_wp2_with fail
        go_meet
        exact FIN.out
    · go_wp2_with fail
      clear p0 p1 p2 p3 p4 hc1
      have hn8 : R11.nc = 8 ∧ D.nc = 8 := ⟨HRG.out.nc, HP.out.2.1.nc⟩
      obtain ⟨hn8a, hn8b⟩ := hn8
      have HN8 : Hid (R11.nc = 8 ∧ D.nc = 8) := ⟨hn8a, hn8b⟩
      clear hn8a hn8b
      go_loopw [164] (fun i wr => ∃ j : Nat, j ≤ 8 ∧ i = .int .i64 j ∧ Blw w11 wr) (fun i _ => 8 - (intOf i).toNat)
      case atStart => exact ⟨0, by omega, rfl, Blw.refl _⟩
      case round =>
        obtain ⟨j, hj, rfl, hb⟩ := hrel
        have HD : Hid (Blw w11 wr) := hb
        clear hb
        by_cases hlt : j < 8
        · have hlt' : (j : Int) < (R11.nc : Int) := by have := HN8.out.1; omega
          have hlt2 : (j : Int) < (D.nc : Int) := by have := HN8.out.2; omega
          obtain ⟨b, o, eb, -, g1⟩ := (X8.out.blw HD.out).at_.c.2 j (by have := HN8.out.1; omega)
          obtain ⟨b', o', eb', -, g2⟩ := (X6.out.blw HD.out).at_.c.2 j (by have := HN8.out.2; omega)
          have A8 : ∀ w', Blw wr w' → w'.cell? ⟨w2.heap.size, 2, none⟩ = some (.slice (some ⟨b, o, none⟩) R11.nc u8.c1) := fun w' hh => by have := (get5 ((X8.out.blw HD.out).blw hh).box).2.2.1; rw [eb] at this; exact this
          have A6 : ∀ w', Blw wr w' → w'.cell? ⟨w1.heap.size, 2, none⟩ = some (.slice (some ⟨b', o', none⟩) D.nc u.c1) := fun w' hh => by have := (get5 ((X6.out.blw HD.out).blw hh).box).2.2.1; rw [eb'] at this; exact this
          have G8 : ∀ w', Blw wr w' → w'.cell? ⟨b, o + j, none⟩ = some (.int .i64 (R11.c j)) := fun w' hh => hh.cell g1
          have G6 : ∀ w', Blw wr w' → w'.cell? ⟨b', o' + j, none⟩ = some (.int .i64 (D.c j)) := fun w' hh => hh.cell g2
          have HLW : Hid (LI wr a14 m14 f14) := L14.out.blw HD.out
          by_cases hne : R11.c j = D.c j
          · have d1 : (R11.c j != D.c j) = false := by simp [hne]
            clear g1 g2 eb eb' hne X8 X6 L14 P5 H2 HCELL HN8
            generalize R11.c j = cj at *
            generalize D.c j = dj at *
            generalize R11.nc = n8 at *
            generalize D.nc = n6 at *
            go_upto_region 19 with fail
            have hdr : Blw wr wr.drew := (Blw.refl _).drew
            have HST : Hid (wr.drew.cell? ⟨w2.heap.size, 2, none⟩ = some (.slice (some ⟨b, o, none⟩) n8 u8.c1) ∧ wr.drew.cell? ⟨w1.heap.size, 2, none⟩ = some (.slice (some ⟨b', o', none⟩) n6 u.c1) ∧ wr.drew.cell? ⟨b, o + j, none⟩ = some (.int .i64 cj) ∧ wr.drew.cell? ⟨b', o' + j, none⟩ = some (.int .i64 dj)) := ⟨A8 _ hdr, A6 _ hdr, G8 _ hdr, G6 _ hdr⟩
            have HDD : Hid (Blw w11 wr.drew) := HD.out.trans hdr
            have HLD : Hid (LI wr.drew a14 m14 f14) := HLW.out.blw hdr
            clear hdr A8 A6 G8 G6 HD HLW
            refine wp_region_noPanic ?_
            refine wp_region_held_drew (S := (fun w' => w'.cell? ⟨w2.heap.size, 2, none⟩ = some (.slice (some ⟨b, o, none⟩) n8 u8.c1) ∧ w'.cell? ⟨w1.heap.size, 2, none⟩ = some (.slice (some ⟨b', o', none⟩) n6 u.c1) ∧ w'.cell? ⟨b, o + j, none⟩ = some (.int .i64 cj) ∧ w'.cell? ⟨b', o' + j, none⟩ = some (.int .i64 dj))) (by kernel_rfl) HST.out (fun hB => ?_)
            clear hB
            generalize wr.drew = wd at *
            refine wpAnyH_take (i := 0) (oi := { dst := some 167, op := Op.fieldAddr 61 (Operand.tmp 8) 2, type := 0, pos := _, after := #[], guard := none }) (v := (.pointer (some ⟨w2.heap.size, 2, none⟩))) rfl (by kernel_rfl) (by kernel_rfl) (by kernel_rfl) (fun _ _ _ h => h) (Or.inl ⟨by rfl, fun w' hS => by (try dsimp only at hS); go_simp⟩) HST.out ?_
            simp only [Act.put, List.setIfInBounds_toArray, List.set_cons_zero, List.set_cons_succ]
            refine wpAnyH_take (i := 2) (oi := { dst := some 169, op := Op.move (Operand.tmp 25), type := 3, pos := _, after := #[], guard := none }) (v := (.int .i64 (j : Int))) rfl (by kernel_rfl) (by kernel_rfl) (by kernel_rfl) (fun _ _ _ h => h) (Or.inl ⟨by rfl, fun w' hS => by (try dsimp only at hS); go_simp⟩) HST.out ?_
            simp only [Act.put, List.setIfInBounds_toArray, List.set_cons_zero, List.set_cons_succ]
            refine wpAnyH_take (i := 5) (oi := { dst := some 172, op := Op.fieldAddr 61 (Operand.tmp 6) 2, type := 0, pos := _, after := #[], guard := none }) (v := (.pointer (some ⟨w1.heap.size, 2, none⟩))) rfl (by kernel_rfl) (by kernel_rfl) (by kernel_rfl) (fun _ _ _ h => h) (Or.inl ⟨by rfl, fun w' hS => by (try dsimp only at hS); go_simp⟩) HST.out ?_
            simp only [Act.put, List.setIfInBounds_toArray, List.set_cons_zero, List.set_cons_succ]
            refine wpAnyH_take (i := 7) (oi := { dst := some 174, op := Op.move (Operand.tmp 25), type := 3, pos := _, after := #[], guard := none }) (v := (.int .i64 (j : Int))) rfl (by kernel_rfl) (by kernel_rfl) (by kernel_rfl) (fun _ _ _ h => h) (Or.inl ⟨by rfl, fun w' hS => by (try dsimp only at hS); go_simp⟩) HST.out ?_
            simp only [Act.put, List.setIfInBounds_toArray, List.set_cons_zero, List.set_cons_succ]
            refine wpAnyH_take (i := 1) (oi := { dst := some 168, op := Op.load 26 (Operand.tmp 167), type := 26, pos := _, after := #[{ on := 0, ground := Ground.data }], guard := none }) (v := (.slice (some ⟨b, o, none⟩) n8 u8.c1)) rfl (by kernel_rfl) (by kernel_rfl) (by kernel_rfl) (fun _ _ _ h => h) (Or.inl ⟨by rfl, fun w' hS => by (try dsimp only at hS); go_simp⟩) HST.out ?_
            simp only [Act.put, List.setIfInBounds_toArray, List.set_cons_zero, List.set_cons_succ]
            refine wpAnyH_take (i := 6) (oi := { dst := some 173, op := Op.load 26 (Operand.tmp 172), type := 26, pos := _, after := #[{ on := 5, ground := Ground.data }], guard := none }) (v := (.slice (some ⟨b', o', none⟩) n6 u.c1)) rfl (by kernel_rfl) (by kernel_rfl) (by kernel_rfl) (fun _ _ _ h => h) (Or.inl ⟨by rfl, fun w' hS => by (try dsimp only at hS); go_simp⟩) HST.out ?_
            simp only [Act.put, List.setIfInBounds_toArray, List.set_cons_zero, List.set_cons_succ]
            refine wpAnyH_take (i := 3) (oi := { dst := some 170, op := Op.indexAddr 26 (Operand.tmp 168) (Operand.tmp 169), type := 0, pos := _, after := #[{ on := 1, ground := Ground.data }, { on := 2, ground := Ground.data }], guard := none }) (v := (.pointer (some ⟨b, o + j, none⟩))) rfl (by kernel_rfl) (by kernel_rfl) (by kernel_rfl) (fun _ _ _ h => h) (Or.inl ⟨by rfl, fun w' hS => by (try dsimp only at hS); go_simp⟩) HST.out ?_
            simp only [Act.put, List.setIfInBounds_toArray, List.set_cons_zero, List.set_cons_succ]
            refine wpAnyH_take (i := 8) (oi := { dst := some 175, op := Op.indexAddr 26 (Operand.tmp 173) (Operand.tmp 174), type := 0, pos := _, after := #[{ on := 6, ground := Ground.data }, { on := 7, ground := Ground.data }], guard := none }) (v := (.pointer (some ⟨b', o' + j, none⟩))) rfl (by kernel_rfl) (by kernel_rfl) (by kernel_rfl) (fun _ _ _ h => h) (Or.inl ⟨by rfl, fun w' hS => by (try dsimp only at hS); go_simp⟩) HST.out ?_
            simp only [Act.put, List.setIfInBounds_toArray, List.set_cons_zero, List.set_cons_succ]
            refine wpAnyH_take (i := 4) (oi := { dst := some 171, op := Op.load 3 (Operand.tmp 170), type := 3, pos := _, after := #[{ on := 3, ground := Ground.data }], guard := none }) (v := (.int .i64 cj)) rfl (by kernel_rfl) (by kernel_rfl) (by kernel_rfl) (fun _ _ _ h => h) (Or.inl ⟨by rfl, fun w' hS => by (try dsimp only at hS); go_simp⟩) HST.out ?_
            simp only [Act.put, List.setIfInBounds_toArray, List.set_cons_zero, List.set_cons_succ]
            refine wpAnyH_take (i := 9) (oi := { dst := some 176, op := Op.load 3 (Operand.tmp 175), type := 3, pos := _, after := #[{ on := 8, ground := Ground.data }], guard := none }) (v := (.int .i64 dj)) rfl (by kernel_rfl) (by kernel_rfl) (by kernel_rfl) (fun _ _ _ h => h) (Or.inl ⟨by rfl, fun w' hS => by (try dsimp only at hS); go_simp⟩) HST.out ?_
            simp only [Act.put, List.setIfInBounds_toArray, List.set_cons_zero, List.set_cons_succ]
            refine wpAnyH_take (i := 10) (oi := { dst := some 177, op := Op.binOp BinOp.neq 3 (Operand.tmp 171) (Operand.tmp 176) 3, type := 4, pos := _, after := #[{ on := 4, ground := Ground.data }, { on := 9, ground := Ground.data }], guard := none }) (v := (.bool false)) rfl (by kernel_rfl) (by kernel_rfl) (by kernel_rfl) (fun _ _ _ h => h) (Or.inl ⟨by rfl, fun w' hS => by (try dsimp only at hS); go_simp⟩) HST.out ?_
            simp only [Act.put, List.setIfInBounds_toArray, List.set_cons_zero, List.set_cons_succ]
            refine wpAnyH_take (i := 11) (oi := { dst := some 178, op := Op.move (Operand.tmp 177), type := 4, pos := _, after := #[{ on := 10, ground := Ground.data }], guard := none }) (v := (.bool false)) rfl (by kernel_rfl) (by kernel_rfl) (by kernel_rfl) (fun _ _ _ h => h) (Or.inl ⟨by rfl, fun w' hS => by (try dsimp only at hS); go_simp⟩) HST.out ?_
            simp only [Act.put, List.setIfInBounds_toArray, List.set_cons_zero, List.set_cons_succ]
            refine wpAnyH_take (i := 12) (oi := { dst := some 179, op := Op.move (Operand.tmp 14), type := 26, pos := _, after := #[{ on := 11, ground := Ground.guard }], guard := some (11, true) }) (v := undef) rfl (by kernel_rfl) (by kernel_rfl) (by kernel_rfl) (fun _ _ _ h => h) (Or.inr ⟨by rfl, rfl⟩) HST.out ?_
            simp only [Act.put, List.setIfInBounds_toArray, List.set_cons_zero, List.set_cons_succ]
            refine wpAnyH_take (i := 13) (oi := { dst := some 180, op := Op.move (Operand.tmp 25), type := 3, pos := _, after := #[{ on := 11, ground := Ground.guard }], guard := some (11, true) }) (v := undef) rfl (by kernel_rfl) (by kernel_rfl) (by kernel_rfl) (fun _ _ _ h => h) (Or.inr ⟨by rfl, rfl⟩) HST.out ?_
            simp only [Act.put, List.setIfInBounds_toArray, List.set_cons_zero, List.set_cons_succ]
            refine wpAnyH_take (i := 14) (oi := { dst := some 181, op := Op.call { callee := Callee.value (Operand.func 45), args := #[Operand.tmp 179, Operand.tmp 180], argTypes := #[26, 3] }, type := 4, pos := _, after := #[{ on := 12, ground := Ground.data }, { on := 13, ground := Ground.data }, { on := 11, ground := Ground.chain }, { on := 11, ground := Ground.guard }], guard := some (11, true) }) (v := undef) rfl (by kernel_rfl) (by kernel_rfl) (by kernel_rfl) (fun _ _ _ h => h) (Or.inr ⟨by rfl, rfl⟩) HST.out ?_
            simp only [Act.put, List.setIfInBounds_toArray, List.set_cons_zero, List.set_cons_succ]
            refine wpAnyH_take (i := 15) (oi := { dst := some 182, op := Op.unOp UnOp.not 4 (Operand.tmp 181), type := 4, pos := _, after := #[{ on := 14, ground := Ground.data }, { on := 11, ground := Ground.guard }], guard := some (11, true) }) (v := undef) rfl (by kernel_rfl) (by kernel_rfl) (by kernel_rfl) (fun _ _ _ h => h) (Or.inr ⟨by rfl, rfl⟩) HST.out ?_
            simp only [Act.put, List.setIfInBounds_toArray, List.set_cons_zero, List.set_cons_succ]
            refine wpAnyH_take (i := 16) (oi := { dst := some 183, op := Op.pick (Operand.tmp 178) (Operand.tmp 182) (Operand.const (Value.bool false)), type := 4, pos := _, after := #[{ on := 11, ground := Ground.data }, { on := 15, ground := Ground.data }], guard := none }) (v := (.bool false)) rfl (by kernel_rfl) (by kernel_rfl) (by kernel_rfl) (fun _ _ _ h => h) (Or.inl ⟨by rfl, fun w' hS => by (try dsimp only at hS); go_simp⟩) HST.out ?_
            simp only [Act.put, List.setIfInBounds_toArray, List.set_cons_zero, List.set_cons_succ]
            refine wpAnyH_done (by kernel_rfl) ?_ _
            refine NoPanic.normal ?_
            go_wp2
            go_roundw
            case rel => exact ⟨j + 1, by omega, by go_num, HDD.out⟩
            case measure => simp [intOf]; omega
          · have d1 : (R11.c j != D.c j) = true := by simp [hne]
            have HIS : Hid (isIn m14 f14 (j : Int)) := HCELL.out j hne
            clear g1 g2 eb eb' hne X8 X6 L14 P5 H2 HCELL HN8
            generalize R11.c j = cj at *
            generalize D.c j = dj at *
            generalize R11.nc = n8 at *
            generalize D.nc = n6 at *
            go_upto_region 19 with fail
            have hdr : Blw wr wr.drew := (Blw.refl _).drew
            have HST : Hid (wr.drew.cell? ⟨w2.heap.size, 2, none⟩ = some (.slice (some ⟨b, o, none⟩) n8 u8.c1) ∧ wr.drew.cell? ⟨w1.heap.size, 2, none⟩ = some (.slice (some ⟨b', o', none⟩) n6 u.c1) ∧ wr.drew.cell? ⟨b, o + j, none⟩ = some (.int .i64 cj) ∧ wr.drew.cell? ⟨b', o' + j, none⟩ = some (.int .i64 dj)) := ⟨A8 _ hdr, A6 _ hdr, G8 _ hdr, G6 _ hdr⟩
            have HDD : Hid (Blw w11 wr.drew) := HD.out.trans hdr
            have HLD : Hid (LI wr.drew a14 m14 f14) := HLW.out.blw hdr
            clear hdr A8 A6 G8 G6 HD HLW
            refine wp_region_noPanic ?_
            refine wp_region_held_drew (S := (fun w' => w'.cell? ⟨w2.heap.size, 2, none⟩ = some (.slice (some ⟨b, o, none⟩) n8 u8.c1) ∧ w'.cell? ⟨w1.heap.size, 2, none⟩ = some (.slice (some ⟨b', o', none⟩) n6 u.c1) ∧ w'.cell? ⟨b, o + j, none⟩ = some (.int .i64 cj) ∧ w'.cell? ⟨b', o' + j, none⟩ = some (.int .i64 dj))) (by kernel_rfl) HST.out (fun hB => ?_)
            clear hB
            generalize wr.drew = wd at *
            refine wpAnyH_take (i := 0) (oi := { dst := some 167, op := Op.fieldAddr 61 (Operand.tmp 8) 2, type := 0, pos := _, after := #[], guard := none }) (v := (.pointer (some ⟨w2.heap.size, 2, none⟩))) rfl (by kernel_rfl) (by kernel_rfl) (by kernel_rfl) (fun _ _ _ h => h) (Or.inl ⟨by rfl, fun w' hS => by (try dsimp only at hS); go_simp⟩) HST.out ?_
            simp only [Act.put, List.setIfInBounds_toArray, List.set_cons_zero, List.set_cons_succ]
            refine wpAnyH_take (i := 2) (oi := { dst := some 169, op := Op.move (Operand.tmp 25), type := 3, pos := _, after := #[], guard := none }) (v := (.int .i64 (j : Int))) rfl (by kernel_rfl) (by kernel_rfl) (by kernel_rfl) (fun _ _ _ h => h) (Or.inl ⟨by rfl, fun w' hS => by (try dsimp only at hS); go_simp⟩) HST.out ?_
            simp only [Act.put, List.setIfInBounds_toArray, List.set_cons_zero, List.set_cons_succ]
            refine wpAnyH_take (i := 5) (oi := { dst := some 172, op := Op.fieldAddr 61 (Operand.tmp 6) 2, type := 0, pos := _, after := #[], guard := none }) (v := (.pointer (some ⟨w1.heap.size, 2, none⟩))) rfl (by kernel_rfl) (by kernel_rfl) (by kernel_rfl) (fun _ _ _ h => h) (Or.inl ⟨by rfl, fun w' hS => by (try dsimp only at hS); go_simp⟩) HST.out ?_
            simp only [Act.put, List.setIfInBounds_toArray, List.set_cons_zero, List.set_cons_succ]
            refine wpAnyH_take (i := 7) (oi := { dst := some 174, op := Op.move (Operand.tmp 25), type := 3, pos := _, after := #[], guard := none }) (v := (.int .i64 (j : Int))) rfl (by kernel_rfl) (by kernel_rfl) (by kernel_rfl) (fun _ _ _ h => h) (Or.inl ⟨by rfl, fun w' hS => by (try dsimp only at hS); go_simp⟩) HST.out ?_
            simp only [Act.put, List.setIfInBounds_toArray, List.set_cons_zero, List.set_cons_succ]
            refine wpAnyH_take (i := 1) (oi := { dst := some 168, op := Op.load 26 (Operand.tmp 167), type := 26, pos := _, after := #[{ on := 0, ground := Ground.data }], guard := none }) (v := (.slice (some ⟨b, o, none⟩) n8 u8.c1)) rfl (by kernel_rfl) (by kernel_rfl) (by kernel_rfl) (fun _ _ _ h => h) (Or.inl ⟨by rfl, fun w' hS => by (try dsimp only at hS); go_simp⟩) HST.out ?_
            simp only [Act.put, List.setIfInBounds_toArray, List.set_cons_zero, List.set_cons_succ]
            refine wpAnyH_take (i := 6) (oi := { dst := some 173, op := Op.load 26 (Operand.tmp 172), type := 26, pos := _, after := #[{ on := 5, ground := Ground.data }], guard := none }) (v := (.slice (some ⟨b', o', none⟩) n6 u.c1)) rfl (by kernel_rfl) (by kernel_rfl) (by kernel_rfl) (fun _ _ _ h => h) (Or.inl ⟨by rfl, fun w' hS => by (try dsimp only at hS); go_simp⟩) HST.out ?_
            simp only [Act.put, List.setIfInBounds_toArray, List.set_cons_zero, List.set_cons_succ]
            refine wpAnyH_take (i := 3) (oi := { dst := some 170, op := Op.indexAddr 26 (Operand.tmp 168) (Operand.tmp 169), type := 0, pos := _, after := #[{ on := 1, ground := Ground.data }, { on := 2, ground := Ground.data }], guard := none }) (v := (.pointer (some ⟨b, o + j, none⟩))) rfl (by kernel_rfl) (by kernel_rfl) (by kernel_rfl) (fun _ _ _ h => h) (Or.inl ⟨by rfl, fun w' hS => by (try dsimp only at hS); go_simp⟩) HST.out ?_
            simp only [Act.put, List.setIfInBounds_toArray, List.set_cons_zero, List.set_cons_succ]
            refine wpAnyH_take (i := 8) (oi := { dst := some 175, op := Op.indexAddr 26 (Operand.tmp 173) (Operand.tmp 174), type := 0, pos := _, after := #[{ on := 6, ground := Ground.data }, { on := 7, ground := Ground.data }], guard := none }) (v := (.pointer (some ⟨b', o' + j, none⟩))) rfl (by kernel_rfl) (by kernel_rfl) (by kernel_rfl) (fun _ _ _ h => h) (Or.inl ⟨by rfl, fun w' hS => by (try dsimp only at hS); go_simp⟩) HST.out ?_
            simp only [Act.put, List.setIfInBounds_toArray, List.set_cons_zero, List.set_cons_succ]
            refine wpAnyH_take (i := 4) (oi := { dst := some 171, op := Op.load 3 (Operand.tmp 170), type := 3, pos := _, after := #[{ on := 3, ground := Ground.data }], guard := none }) (v := (.int .i64 cj)) rfl (by kernel_rfl) (by kernel_rfl) (by kernel_rfl) (fun _ _ _ h => h) (Or.inl ⟨by rfl, fun w' hS => by (try dsimp only at hS); go_simp⟩) HST.out ?_
            simp only [Act.put, List.setIfInBounds_toArray, List.set_cons_zero, List.set_cons_succ]
            refine wpAnyH_take (i := 9) (oi := { dst := some 176, op := Op.load 3 (Operand.tmp 175), type := 3, pos := _, after := #[{ on := 8, ground := Ground.data }], guard := none }) (v := (.int .i64 dj)) rfl (by kernel_rfl) (by kernel_rfl) (by kernel_rfl) (fun _ _ _ h => h) (Or.inl ⟨by rfl, fun w' hS => by (try dsimp only at hS); go_simp⟩) HST.out ?_
            simp only [Act.put, List.setIfInBounds_toArray, List.set_cons_zero, List.set_cons_succ]
            refine wpAnyH_take (i := 10) (oi := { dst := some 177, op := Op.binOp BinOp.neq 3 (Operand.tmp 171) (Operand.tmp 176) 3, type := 4, pos := _, after := #[{ on := 4, ground := Ground.data }, { on := 9, ground := Ground.data }], guard := none }) (v := (.bool true)) rfl (by kernel_rfl) (by kernel_rfl) (by kernel_rfl) (fun _ _ _ h => h) (Or.inl ⟨by rfl, fun w' hS => by (try dsimp only at hS); go_simp⟩) HST.out ?_
            simp only [Act.put, List.setIfInBounds_toArray, List.set_cons_zero, List.set_cons_succ]
            refine wpAnyH_take (i := 11) (oi := { dst := some 178, op := Op.move (Operand.tmp 177), type := 4, pos := _, after := #[{ on := 10, ground := Ground.data }], guard := none }) (v := (.bool true)) rfl (by kernel_rfl) (by kernel_rfl) (by kernel_rfl) (fun _ _ _ h => h) (Or.inl ⟨by rfl, fun w' hS => by (try dsimp only at hS); go_simp⟩) HST.out ?_
            simp only [Act.put, List.setIfInBounds_toArray, List.set_cons_zero, List.set_cons_succ]
            refine wpAnyH_take (i := 12) (oi := { dst := some 179, op := Op.move (Operand.tmp 14), type := 26, pos := _, after := #[{ on := 11, ground := Ground.guard }], guard := some (11, true) }) (v := (.slice a14 m14 c14)) rfl (by kernel_rfl) (by kernel_rfl) (by kernel_rfl) (fun _ _ _ h => h) (Or.inl ⟨by rfl, fun w' hS => by (try dsimp only at hS); go_simp⟩) HST.out ?_
            simp only [Act.put, List.setIfInBounds_toArray, List.set_cons_zero, List.set_cons_succ]
            refine wpAnyH_take (i := 13) (oi := { dst := some 180, op := Op.move (Operand.tmp 25), type := 3, pos := _, after := #[{ on := 11, ground := Ground.guard }], guard := some (11, true) }) (v := (.int .i64 (j : Int))) rfl (by kernel_rfl) (by kernel_rfl) (by kernel_rfl) (fun _ _ _ h => h) (Or.inl ⟨by rfl, fun w' hS => by (try dsimp only at hS); go_simp⟩) HST.out ?_
            simp only [Act.put, List.setIfInBounds_toArray, List.set_cons_zero, List.set_cons_succ]
            refine wpAnyH_ready (rs := [14]) (by kernel_rfl) (by simp) ?_
            refine AllReadyH.cons (o := { dst := some 181, op := Op.call { callee := Callee.value (Operand.func 45), args := #[Operand.tmp 179, Operand.tmp 180], argTypes := #[26, 3] }, type := 4, pos := _, after := #[{ on := 12, ground := Ground.data }, { on := 13, ground := Ground.data }, { on := 11, ground := Ground.chain }, { on := 11, ground := Ground.guard }], guard := some (11, true) }) rfl (fun K hK => ?_) AllReadyH.nil
            go_simp
            refine (has_any _ _ m14 f14 _ _ _ HLD.out).mono ?_
            rintro e w70 ⟨r70, rfl, hr70, hw70⟩
            obtain rfl := hw70.symm
            obtain rfl : r70 = true := hr70.2 HIS.out
            clear hr70 hw70
            refine hK.out _ _ HST.out (fun hB => ?_)
            clear hK K hB
            try simp only [Act.put, List.setIfInBounds_toArray, List.set_cons_zero, List.set_cons_succ]
            refine wpAnyH_take (i := 15) (oi := { dst := some 182, op := Op.unOp UnOp.not 4 (Operand.tmp 181), type := 4, pos := _, after := #[{ on := 14, ground := Ground.data }, { on := 11, ground := Ground.guard }], guard := some (11, true) }) (v := (.bool false)) rfl (by kernel_rfl) (by kernel_rfl) (by kernel_rfl) (fun _ _ _ h => h) (Or.inl ⟨by rfl, fun w' hS => by (try dsimp only at hS); go_simp⟩) HST.out ?_
            simp only [Act.put, List.setIfInBounds_toArray, List.set_cons_zero, List.set_cons_succ]
            refine wpAnyH_take (i := 16) (oi := { dst := some 183, op := Op.pick (Operand.tmp 178) (Operand.tmp 182) (Operand.const (Value.bool false)), type := 4, pos := _, after := #[{ on := 11, ground := Ground.data }, { on := 15, ground := Ground.data }], guard := none }) (v := (.bool false)) rfl (by kernel_rfl) (by kernel_rfl) (by kernel_rfl) (fun _ _ _ h => h) (Or.inl ⟨by rfl, fun w' hS => by (try dsimp only at hS); go_simp⟩) HST.out ?_
            simp only [Act.put, List.setIfInBounds_toArray, List.set_cons_zero, List.set_cons_succ]
            refine wpAnyH_done (by kernel_rfl) ?_ _
            refine NoPanic.normal ?_
            go_wp2
            go_roundw
            case rel => exact ⟨j + 1, by omega, by go_num, HDD.out⟩
            case measure => simp [intOf]; omega
        have hlt' : ¬ (j : Int) < (R11.nc : Int) := by have := HN8.out.1; omega
        have hb := HD.out
        clear HD HCELL HN8
        replace HB : Hid (Blw _ _) := Blw.trans HB.out hb
        replace HC : Hid (Blw _ _) := Blw.trans HC.out hb
        replace H2 : Hid (BY wr ao2 n2 f2) := BY.blw H2.out hb
        replace P5 : Hid (PX wr ap np F) := PX.blw P5.out hb
        replace X6 : Hid (GX wr w1.heap.size u D) := GX.blw X6.out hb
        replace X8 : Hid (GX wr w2.heap.size u8 R11) := GX.blw X8.out hb
        replace L14 : Hid (LI wr a14 m14 f14) := LI.blw L14.out hb
        clear hb
        have hnt : ¬ (R11.nt : Int) < (D.nt : Int) := by have := HTOLD.out.1; omega
        have hle9 : D.nt ≤ R11.nt := HTOLD.out.1
        obtain ⟨hcp, hzt⟩ := HCP.out
        have A8 : ∀ w', Blw wr w' → w'.cell? ⟨w2.heap.size, 3, none⟩ = some (.slice (some ⟨zt, 0, none⟩) R11.nt u8.c2) := fun w' hh => by have := (get5 (X8.out.blw hh).box).2.2.2.1; rw [hzt] at this; exact this
        have A6 : ∀ w', Blw wr w' → w'.cell? ⟨w1.heap.size, 3, none⟩ = some (.slice u.a2 D.nt u.c2) := fun w' hh => (get5 (X6.out.blw hh).box).2.2.2.1
        have HT8 : Hid (IntsAt (fun x => x < wr.heap.size) wr (some ⟨zt, 0, none⟩) D.nt D.t) := by
          have h1 := X8.out.at_.t
          rw [hzt] at h1
          exact ⟨by have := h1.1; have := HTOLD.out.1; omega, fun i hi => by rw [← HTOLD.out.2 i hi]; exact h1.2 i (Nat.lt_of_lt_of_le hi HTOLD.out.1)⟩
        have HT6 : Hid (IntsAt (fun x => x < wr.heap.size) wr u.a2 D.nt D.t) := X6.out.at_.t
        have hc1 : (D.nt : Int) ≤ (u8.c2 : Int) := by have := HTOLD.out.1; omega
        have hc2 : ¬ (u8.c2 : Int) < (D.nt : Int) := by omega
        have hc3 : D.nt ≤ u8.c2 := by omega
        have FIN : Hid (Blw w7 wr) := HC.out
        clear hnt hcp hzt X8 X6 L14 P5 H2 HB HC HCP HTOLD HRG HP HR HX HXX HMANY
        go_upto_region 22 with fail
        have hdr : Blw wr wr.drew := (Blw.refl _).drew
        have HST : Hid (wr.drew.cell? ⟨w2.heap.size, 3, none⟩ = some (.slice (some ⟨zt, 0, none⟩) R11.nt u8.c2) ∧ wr.drew.cell? ⟨w1.heap.size, 3, none⟩ = some (.slice u.a2 D.nt u.c2)) := ⟨A8 _ hdr, A6 _ hdr⟩
        replace HT8 : Hid (IntsAt (fun x => x < wr.drew.heap.size) wr.drew (some ⟨zt, 0, none⟩) D.nt D.t) := HT8.out.blw hdr
        replace HT6 : Hid (IntsAt (fun x => x < wr.drew.heap.size) wr.drew u.a2 D.nt D.t) := HT6.out.blw hdr
        replace FIN : Hid (Blw w7 wr.drew) := FIN.out.trans hdr
        clear hdr A8 A6
        refine wp_region_noPanic ?_
        refine wp_region_held_drew (S := (fun w' => w'.cell? ⟨w2.heap.size, 3, none⟩ = some (.slice (some ⟨zt, 0, none⟩) R11.nt u8.c2) ∧ w'.cell? ⟨w1.heap.size, 3, none⟩ = some (.slice u.a2 D.nt u.c2))) (by kernel_rfl) HST.out (fun hB => ?_)
        clear hB
        generalize wr.drew = wd at *
        refine wpAnyH_take (i := 0) (oi := { dst := some 185, op := Op.fieldAddr 61 (Operand.tmp 8) 3, type := 0, pos := _, after := #[], guard := none }) (v := (.pointer (some ⟨w2.heap.size, 3, none⟩))) rfl (by kernel_rfl) (by kernel_rfl) (by kernel_rfl) (fun _ _ _ h => h) (Or.inl ⟨by rfl, fun w' hS => by (try dsimp only at hS); go_simp⟩) HST.out ?_
        simp only [Act.put, List.setIfInBounds_toArray, List.set_cons_zero, List.set_cons_succ]
        refine wpAnyH_take (i := 3) (oi := { dst := some 188, op := Op.fieldAddr 61 (Operand.tmp 6) 3, type := 0, pos := _, after := #[], guard := none }) (v := (.pointer (some ⟨w1.heap.size, 3, none⟩))) rfl (by kernel_rfl) (by kernel_rfl) (by kernel_rfl) (fun _ _ _ h => h) (Or.inl ⟨by rfl, fun w' hS => by (try dsimp only at hS); go_simp⟩) HST.out ?_
        simp only [Act.put, List.setIfInBounds_toArray, List.set_cons_zero, List.set_cons_succ]
        refine wpAnyH_take (i := 1) (oi := { dst := some 186, op := Op.load 26 (Operand.tmp 185), type := 26, pos := _, after := #[{ on := 0, ground := Ground.data }], guard := none }) (v := (.slice (some ⟨zt, 0, none⟩) R11.nt u8.c2)) rfl (by kernel_rfl) (by kernel_rfl) (by kernel_rfl) (fun _ _ _ h => h) (Or.inl ⟨by rfl, fun w' hS => by (try dsimp only at hS); go_simp⟩) HST.out ?_
        simp only [Act.put, List.setIfInBounds_toArray, List.set_cons_zero, List.set_cons_succ]
        refine wpAnyH_take (i := 4) (oi := { dst := some 189, op := Op.load 26 (Operand.tmp 188), type := 26, pos := _, after := #[{ on := 3, ground := Ground.data }], guard := none }) (v := (.slice u.a2 D.nt u.c2)) rfl (by kernel_rfl) (by kernel_rfl) (by kernel_rfl) (fun _ _ _ h => h) (Or.inl ⟨by rfl, fun w' hS => by (try dsimp only at hS); go_simp⟩) HST.out ?_
        simp only [Act.put, List.setIfInBounds_toArray, List.set_cons_zero, List.set_cons_succ]
        refine wpAnyH_take (i := 2) (oi := { dst := some 187, op := Op.call { callee := Callee.builtin Builtin.len, args := #[Operand.tmp 186], argTypes := #[26] }, type := 3, pos := _, after := #[{ on := 1, ground := Ground.data }], guard := none }) (v := (.int .i64 (R11.nt : Int))) rfl (by kernel_rfl) (by kernel_rfl) (by kernel_rfl) (fun _ _ _ h => h) (Or.inl ⟨by rfl, fun w' hS => by (try dsimp only at hS); go_simp⟩) HST.out ?_
        simp only [Act.put, List.setIfInBounds_toArray, List.set_cons_zero, List.set_cons_succ]
        refine wpAnyH_take (i := 5) (oi := { dst := some 190, op := Op.call { callee := Callee.builtin Builtin.len, args := #[Operand.tmp 189], argTypes := #[26] }, type := 3, pos := _, after := #[{ on := 4, ground := Ground.data }], guard := none }) (v := (.int .i64 (D.nt : Int))) rfl (by kernel_rfl) (by kernel_rfl) (by kernel_rfl) (fun _ _ _ h => h) (Or.inl ⟨by rfl, fun w' hS => by (try dsimp only at hS); go_simp⟩) HST.out ?_
        simp only [Act.put, List.setIfInBounds_toArray, List.set_cons_zero, List.set_cons_succ]
        refine wpAnyH_take (i := 6) (oi := { dst := some 191, op := Op.binOp BinOp.lss 3 (Operand.tmp 187) (Operand.tmp 190) 3, type := 4, pos := _, after := #[{ on := 2, ground := Ground.data }, { on := 5, ground := Ground.data }], guard := none }) (v := (.bool false)) rfl (by kernel_rfl) (by kernel_rfl) (by kernel_rfl) (fun _ _ _ h => h) (Or.inl ⟨by rfl, fun w' hS => by (try dsimp only at hS); go_simp⟩) HST.out ?_
        simp only [Act.put, List.setIfInBounds_toArray, List.set_cons_zero, List.set_cons_succ]
        refine wpAnyH_take (i := 7) (oi := { dst := some 192, op := Op.move (Operand.tmp 191), type := 4, pos := _, after := #[{ on := 6, ground := Ground.data }], guard := none }) (v := (.bool false)) rfl (by kernel_rfl) (by kernel_rfl) (by kernel_rfl) (fun _ _ _ h => h) (Or.inl ⟨by rfl, fun w' hS => by (try dsimp only at hS); go_simp⟩) HST.out ?_
        simp only [Act.put, List.setIfInBounds_toArray, List.set_cons_zero, List.set_cons_succ]
        refine wpAnyH_take (i := 8) (oi := { dst := some 193, op := Op.fieldAddr 61 (Operand.tmp 8) 3, type := 0, pos := _, after := #[{ on := 7, ground := Ground.guard }], guard := some (7, false) }) (v := (.pointer (some ⟨w2.heap.size, 3, none⟩))) rfl (by kernel_rfl) (by kernel_rfl) (by kernel_rfl) (fun _ _ _ h => h) (Or.inl ⟨by rfl, fun w' hS => by (try dsimp only at hS); go_simp⟩) HST.out ?_
        simp only [Act.put, List.setIfInBounds_toArray, List.set_cons_zero, List.set_cons_succ]
        refine wpAnyH_take (i := 10) (oi := { dst := some 195, op := Op.fieldAddr 61 (Operand.tmp 6) 3, type := 0, pos := _, after := #[{ on := 7, ground := Ground.guard }], guard := some (7, false) }) (v := (.pointer (some ⟨w1.heap.size, 3, none⟩))) rfl (by kernel_rfl) (by kernel_rfl) (by kernel_rfl) (fun _ _ _ h => h) (Or.inl ⟨by rfl, fun w' hS => by (try dsimp only at hS); go_simp⟩) HST.out ?_
        simp only [Act.put, List.setIfInBounds_toArray, List.set_cons_zero, List.set_cons_succ]
        refine wpAnyH_take (i := 14) (oi := { dst := some 199, op := Op.fieldAddr 61 (Operand.tmp 6) 3, type := 0, pos := _, after := #[{ on := 7, ground := Ground.guard }], guard := some (7, false) }) (v := (.pointer (some ⟨w1.heap.size, 3, none⟩))) rfl (by kernel_rfl) (by kernel_rfl) (by kernel_rfl) (fun _ _ _ h => h) (Or.inl ⟨by rfl, fun w' hS => by (try dsimp only at hS); go_simp⟩) HST.out ?_
        simp only [Act.put, List.setIfInBounds_toArray, List.set_cons_zero, List.set_cons_succ]
        refine wpAnyH_take (i := 9) (oi := { dst := some 194, op := Op.load 26 (Operand.tmp 193), type := 26, pos := _, after := #[{ on := 8, ground := Ground.data }, { on := 7, ground := Ground.guard }], guard := some (7, false) }) (v := (.slice (some ⟨zt, 0, none⟩) R11.nt u8.c2)) rfl (by kernel_rfl) (by kernel_rfl) (by kernel_rfl) (fun _ _ _ h => h) (Or.inl ⟨by rfl, fun w' hS => by (try dsimp only at hS); go_simp⟩) HST.out ?_
        simp only [Act.put, List.setIfInBounds_toArray, List.set_cons_zero, List.set_cons_succ]
        refine wpAnyH_take (i := 11) (oi := { dst := some 196, op := Op.load 26 (Operand.tmp 195), type := 26, pos := _, after := #[{ on := 10, ground := Ground.data }, { on := 7, ground := Ground.guard }], guard := some (7, false) }) (v := (.slice u.a2 D.nt u.c2)) rfl (by kernel_rfl) (by kernel_rfl) (by kernel_rfl) (fun _ _ _ h => h) (Or.inl ⟨by rfl, fun w' hS => by (try dsimp only at hS); go_simp⟩) HST.out ?_
        simp only [Act.put, List.setIfInBounds_toArray, List.set_cons_zero, List.set_cons_succ]
        refine wpAnyH_take (i := 15) (oi := { dst := some 200, op := Op.load 26 (Operand.tmp 199), type := 26, pos := _, after := #[{ on := 14, ground := Ground.data }, { on := 7, ground := Ground.guard }], guard := some (7, false) }) (v := (.slice u.a2 D.nt u.c2)) rfl (by kernel_rfl) (by kernel_rfl) (by kernel_rfl) (fun _ _ _ h => h) (Or.inl ⟨by rfl, fun w' hS => by (try dsimp only at hS); go_simp⟩) HST.out ?_
        simp only [Act.put, List.setIfInBounds_toArray, List.set_cons_zero, List.set_cons_succ]
        refine wpAnyH_take (i := 12) (oi := { dst := some 197, op := Op.call { callee := Callee.builtin Builtin.len, args := #[Operand.tmp 196], argTypes := #[26] }, type := 3, pos := _, after := #[{ on := 11, ground := Ground.data }, { on := 7, ground := Ground.guard }], guard := some (7, false) }) (v := (.int .i64 (D.nt : Int))) rfl (by kernel_rfl) (by kernel_rfl) (by kernel_rfl) (fun _ _ _ h => h) (Or.inl ⟨by rfl, fun w' hS => by (try dsimp only at hS); go_simp⟩) HST.out ?_
        simp only [Act.put, List.setIfInBounds_toArray, List.set_cons_zero, List.set_cons_succ]
        refine wpAnyH_take (i := 13) (oi := { dst := some 198, op := Op.slice 26 (Operand.tmp 194) none (some (Operand.tmp 197)) none, type := 26, pos := _, after := #[{ on := 9, ground := Ground.data }, { on := 12, ground := Ground.data }, { on := 7, ground := Ground.guard }], guard := some (7, false) }) (v := (.slice (some ⟨zt, 0, none⟩) D.nt u8.c2)) rfl (by kernel_rfl) (by kernel_rfl) (by kernel_rfl) (fun _ _ _ h => h) (Or.inl ⟨by rfl, fun w' hS => by (try dsimp only at hS); go_simp⟩) HST.out ?_
        simp only [Act.put, List.setIfInBounds_toArray, List.set_cons_zero, List.set_cons_succ]
        refine wpAnyH_ready (rs := [16]) (by kernel_rfl) (by simp) ?_
        refine AllReadyH.cons (o := { dst := some 201, op := Op.call { callee := Callee.value (Operand.func 20), args := #[Operand.tmp 198, Operand.tmp 200], argTypes := #[26, 26] }, type := 4, pos := _, after := #[{ on := 13, ground := Ground.data }, { on := 15, ground := Ground.data }, { on := 7, ground := Ground.chain }, { on := 7, ground := Ground.guard }], guard := some (7, false) }) rfl (fun K hK => ?_) AllReadyH.nil
        go_simp
        refine (sameInts_any _ _ _ _ D.nt D.nt D.t D.t _ HT8.out HT6.out).mono ?_
        rintro e w71 ⟨r71, rfl, hr71, hb71⟩
        obtain rfl : r71 = true := hr71.2 ⟨rfl, fun _ _ => rfl⟩
        have HST2 : Hid (_ ∧ _) := And.intro (hb71.cell HST.out.1) (hb71.cell HST.out.2)
        replace FIN : Hid (Blw _ w71) := FIN.out.trans hb71
        clear hr71 hb71
        refine hK.out _ _ HST2.out (fun hB => ?_)
        clear hK K hB
        try simp only [Act.put, List.setIfInBounds_toArray, List.set_cons_zero, List.set_cons_succ]
        refine wpAnyH_take (i := 17) (oi := { dst := some 202, op := Op.unOp UnOp.not 4 (Operand.tmp 201), type := 4, pos := _, after := #[{ on := 16, ground := Ground.data }, { on := 7, ground := Ground.guard }], guard := some (7, false) }) (v := (.bool false)) rfl (by kernel_rfl) (by kernel_rfl) (by kernel_rfl) (fun _ _ _ h => h) (Or.inl ⟨by rfl, fun w' hS => by (try dsimp only at hS); go_simp⟩) HST2.out ?_
        simp only [Act.put, List.setIfInBounds_toArray, List.set_cons_zero, List.set_cons_succ]
        refine wpAnyH_take (i := 18) (oi := { dst := some 203, op := Op.pick (Operand.tmp 192) (Operand.const (Value.bool true)) (Operand.tmp 202), type := 4, pos := _, after := #[{ on := 7, ground := Ground.data }, { on := 17, ground := Ground.data }], guard := none }) (v := (.bool false)) rfl (by kernel_rfl) (by kernel_rfl) (by kernel_rfl) (fun _ _ _ h => h) (Or.inl ⟨by rfl, fun w' hS => by (try dsimp only at hS); go_simp⟩) HST2.out ?_
        simp only [Act.put, List.setIfInBounds_toArray, List.set_cons_zero, List.set_cons_succ]
        refine wpAnyH_done (by kernel_rfl) ?_ _
        refine NoPanic.normal ?_
        go_wp2_with fail
        go_meet
        exact FIN.out
  case rest =>
    have hb := hcut
    clear hcut P5 X6 X8 O8 O14 L14 HCAP
    replace HB : Hid (Blw _ _) := Blw.trans HB.out hb
    replace H2 : Hid (BY wc ao2 n2 f2) := BY.blw H2.out hb
    clear hb
    go_wp2_with fail
    refine (drawSameG_any ao2 n2 c2 f2 _ H2.out).mono ?_
    rintro e w12 ⟨u26, D26, u27, D27, rfl, hs1, hs2, hat1, hat2, hb⟩
    replace HB : Hid (Blw _ _) := Blw.trans HB.out hb
    replace H2 : Hid (BY w12 ao2 n2 f2) := BY.blw H2.out hb
    clear H2
    have hA : Blw w12 ((w12.alloc (.cells #[.int .i64 D26.at_, .int .i64 D26.acc, .slice u26.a1 D26.nc u26.c1, .slice u26.a2 D26.nt u26.c2, .bool D26.d] 61)).alloc (.cells #[.int .i64 D27.at_, .int .i64 D27.acc, .slice u27.a1 D27.nc u27.c1, .slice u27.a2 D27.nt u27.c2, .bool D27.d] 61)) := ((Blw.refl _).alloc _).alloc _
    have X26 : Hid (GX ((w12.alloc (.cells #[.int .i64 D26.at_, .int .i64 D26.acc, .slice u26.a1 D26.nc u26.c1, .slice u26.a2 D26.nt u26.c2, .bool D26.d] 61)).alloc (.cells #[.int .i64 D27.at_, .int .i64 D27.acc, .slice u27.a1 D27.nc u27.c1, .slice u27.a2 D27.nt u27.c2, .bool D27.d] 61)) w12.heap.size u26 D26) := ⟨(hat1.blw hA).mono (fun x hx => Nat.lt_of_lt_of_le hx hA.size), (row5 w12 _ _ _ _ _ 61).blw ((Blw.refl _).alloc _)⟩
    have hr5 := row5 (w12.alloc (.cells #[.int .i64 D26.at_, .int .i64 D26.acc, .slice u26.a1 D26.nc u26.c1, .slice u26.a2 D26.nt u26.c2, .bool D26.d] 61)) (.int .i64 D27.at_) (.int .i64 D27.acc) (.slice u27.a1 D27.nc u27.c1) (.slice u27.a2 D27.nt u27.c2) (.bool D27.d) 61
    rw [World.size_alloc] at hr5
    have X27 : Hid (GX ((w12.alloc (.cells #[.int .i64 D26.at_, .int .i64 D26.acc, .slice u26.a1 D26.nc u26.c1, .slice u26.a2 D26.nt u26.c2, .bool D26.d] 61)).alloc (.cells #[.int .i64 D27.at_, .int .i64 D27.acc, .slice u27.a1 D27.nc u27.c1, .slice u27.a2 D27.nt u27.c2, .bool D27.d] 61)) (w12.heap.size + 1) u27 D27) := ⟨(hat2.blw hA).mono (fun x hx => Nat.lt_of_lt_of_le hx hA.size), hr5⟩
    replace HB : Hid (Blw _ _) := Blw.trans HB.out hA
    clear hA hr5 hat1 hat2 hb hs1 hs2
    obtain ⟨p0, p1, p2, p3, p4⟩ := get5 X26.out.box
    obtain ⟨q0, q1, q2, q3, q4⟩ := get5 X27.out.box
    go_wp2_with fail
    clear p0 p1 p2 p3 p4 q0 q1 q2 q3 q4
    refine (implSame_any u26 u27 D26 D27 _ _ _ X26.out.at_ X27.out.at_ (fun x hx => hx) (fun x hx => hx)).mono ?_
    rintro e w13 ⟨s28, r29, rfl, ho, hb⟩
    replace HB : Hid (Blw _ _) := Blw.trans HB.out hb
    replace X26 : Hid (GX w13 w12.heap.size u26 D26) := GX.blw X26.out hb
    replace X27 : Hid (GX w13 (w12.heap.size + 1) u27 D27) := GX.blw X27.out hb
    have O28 : Hid (sgOut D26 D27 s28 r29) := ho
    clear ho hb
    obtain ⟨p0, p1, p2, p3, p4⟩ := get5 X26.out.box
    obtain ⟨q0, q1, q2, q3, q4⟩ := get5 X27.out.box
    go_wp2_with fail
    clear p0 p1 p2 p3 p4 q0 q1 q2 q3 q4
    refine (specSame_any u26 u27 D26 D27 _ _ _ X26.out.at_ X27.out.at_).mono ?_
    rintro e w14 ⟨s30, r31, rfl, ho, hb⟩
    replace HB : Hid (Blw _ _) := Blw.trans HB.out hb
    replace X26 : Hid (GX w14 w12.heap.size u26 D26) := GX.blw X26.out hb
    replace X27 : Hid (GX w14 (w12.heap.size + 1) u27 D27) := GX.blw X27.out hb
    obtain ⟨e1, e2⟩ := sgOut_same ho O28.out
    subst e1 e2
    clear ho hb
    have q1 : (r31 == r31) = true := by simp
    have q2 : (s30 == s30) = true := by simp
    cases r31
    · clear X26 X27
      go_wp2
      go_ret
      exact ⟨rfl, HB.out⟩
    obtain ⟨p0, p1, p2, p3, p4⟩ := get5 X26.out.box
    obtain ⟨q0, q1, q2, q3, q4⟩ := get5 X27.out.box
    go_wp2_with fail
    clear p0 p1 p2 p3 p4 q0 q1 q2 q3 q4
    refine (sameGuest_any u26 u27 D26 D27 _ X26.out.at_ X27.out.at_).mono ?_
    rintro e w15 ⟨rs, rfl, hrs, hb⟩
    replace HB : Hid (Blw _ _) := Blw.trans HB.out hb
    replace X26 : Hid (GX w15 w12.heap.size u26 D26) := GX.blw X26.out hb
    replace X27 : Hid (GX w15 (w12.heap.size + 1) u27 D27) := GX.blw X27.out hb
    obtain rfl : s30 = rs := by
      rcases O28.out with ⟨_, _, _, h⟩ | ⟨_, h, _⟩
      · exact same_of h hrs
      · cases h
    clear hrs hb X26 X27
    go_wp2
    go_ret
    exact ⟨rfl, HB.out⟩
end Go.Proofs.Ytbpdopcdhnemfaa
