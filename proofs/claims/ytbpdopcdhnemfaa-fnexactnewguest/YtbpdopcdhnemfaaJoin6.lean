/- Merged by program, in this order: Ig, EqH, Sm, Dr. -/
import Derived.ChangeKeysEq
import Derived.Test.YtbpdopcdhnemfaaJoin5
/- The program's GoodProgram and GoodGuest. -/
namespace Go.Proofs.Ytbpdopcdhnemfaa
open Go.RowKit
set_option linter.unusedSimpArgs false
set_option linter.unusedVariables false
set_option maxHeartbeats 1600000 in
theorem implGoodP_any (ao : Option Addr) (cp n : Nat) (F : Nat → Nat → Int) (Y : Nat → Prop) (w : World) (h : KAt 3 Y w ao n F) :
    Calls Try.prog 53 #[.slice ao n cp] w fun e w' => ∃ r, e = .returned (.bool r) ∧ (r = true ↔ progOK n F) ∧ Blw w w' := by
  have H : Hid (KAt 3 Y w ao n F) := h
  clear h
  go_enter Try.func53, Try.ntmps53
  go_wp2_with fail
  refine (holdProgram_any ao cp n F Y _ H.out).mono ?_
  rintro e w1 ⟨⟨z, hp, rfl, hr, hz⟩ | ⟨hp, rfl⟩, hb⟩
  · have HP : Hid (progOK n F) := hp
    have HB : Hid (Blw w w1) := hb
    clear hp hb hr hz
    go_wp2
    go_ret
    exact ⟨true, rfl, iff_t HP.out, HB.out⟩
  · have HP : Hid (¬ progOK n F) := hp
    have HB : Hid (Blw w w1) := hb
    clear hp hb
    go_wp2
    go_ret
    exact ⟨false, rfl, iff_f HP.out, HB.out⟩
set_option maxHeartbeats 1600000 in
theorem implGoodG_any (v : GV) (D : GD) (Y : Nat → Prop) (w : World) (h : GAt Y w v D) (hY : ∀ b, Y b → b < w.heap.size) :
    Calls Try.prog 44 #[v.val D] w fun e w' => ∃ r, e = .returned (.bool r) ∧ (r = true ↔ D.Good) ∧ Blw w w' := by
  have HB : Hid (Blw w (w.alloc (.cells #[.int .i64 D.at_, .int .i64 D.acc, .slice v.a1 D.nc v.c1, .slice v.a2 D.nt v.c2, .bool D.d] 61))) := (Blw.refl _).alloc _
  have R0 : Hid (Row (w.alloc (.cells #[.int .i64 D.at_, .int .i64 D.acc, .slice v.a1 D.nc v.c1, .slice v.a2 D.nt v.c2, .bool D.d] 61)) w.heap.size 5 (gb v D)) := row5 w _ _ _ _ _ 61
  have HA : Hid (GAt Y (w.alloc (.cells #[.int .i64 D.at_, .int .i64 D.acc, .slice v.a1 D.nc v.c1, .slice v.a2 D.nt v.c2, .bool D.d] 61)) v D) := h.blw HB.out
  have HYY : Hid (∀ b, Y b → b < (w.alloc (.cells #[.int .i64 D.at_, .int .i64 D.acc, .slice v.a1 D.nc v.c1, .slice v.a2 D.nt v.c2, .bool D.d] 61)).heap.size) := fun b hb => Nat.lt_of_lt_of_le (hY b hb) HB.out.size
  clear h hY
  go_enter Try.func44, Try.ntmps44
  obtain ⟨p0, p1, p2, p3, p4⟩ := get5 R0.out
  go_wp2_with fail
  clear p0 p1 p2 p3 p4
  generalize (w.alloc (.cells #[.int .i64 D.at_, .int .i64 D.acc, .slice v.a1 D.nc v.c1, .slice v.a2 D.nt v.c2, .bool D.d] 61)) = w0 at *
  refine (holdGuest_any v D Y _ HA.out HYY.out).mono ?_
  rintro e w1 ⟨⟨hg, rfl⟩ | ⟨hg, rfl⟩, hb⟩
  · have HG : Hid (D.Good) := hg
    replace HB : Hid (Blw w w1) := HB.out.trans hb
    clear hg hb HA HYY R0
    go_wp2_with (first | (refine alloc_big rfl 148 rfl 32 hz zeroH ?_; intro wa RZ hba hza) | (refine store_big rfl 148 _ _ rfl _ 32 (hc D) hz rfl rfl wdH RZ (fun i _ => hc_one _ i) ?_; intro wb RH hmb hsb) | fail)
    go_ret
    exact ⟨true, rfl, iff_t HG.out, Mod.blw (HB.out.trans hba) hmb (fun i hi => by have := HB.out.size; omega)⟩
  · have HG : Hid (¬ D.Good) := hg
    replace HB : Hid (Blw w w1) := HB.out.trans hb
    clear hg hb HA HYY R0
    go_wp2_with (first | (refine alloc_big rfl 148 rfl 32 hz zeroH ?_; intro wa RZ hba hza) | (refine store_big rfl 148 _ _ rfl _ 32 hz hz rfl rfl wdH RZ (fun i _ => hcf_one _ _ _ _ _ _ i) ?_; intro wb RH hmb hsb) | fail)
    go_ret
    exact ⟨false, rfl, iff_f HG.out, Mod.blw (HB.out.trans hba) hmb (fun i hi => by have := HB.out.size; omega)⟩
def bIff (p : Prop) (r : Bool) : Prop := r = true ↔ p
theorem bIff_same {p : Prop} {a b : Bool} (h : bIff p a) (k : bIff p b) : a = b := by
  unfold bIff at h k
  cases a <;> cases b <;> simp_all
end Go.Proofs.Ytbpdopcdhnemfaa
/- Held guests compared as wholes. -/
namespace Go.Proofs.Ytbpdopcdhnemfaa
open Go.RowKit
set_option linter.unusedSimpArgs false
set_option linter.unusedVariables false
theorem cells3' : Try.prog.cellsOf 3 = 1 := by kernel_rfl
theorem plain3 : Try.prog.plainKey 3 = true := by kernel_rfl
theorem plain4 : Try.prog.plainKey 4 = true := by kernel_rfl
theorem eqItems_ints (d : Nat) (f g : Nat → Int) (xs ys : Array Value) (w : World) : ∀ (is : List Nat), (∀ i ∈ is, xs[i]? = some (.int .i64 (f i)) ∧ ys[i]? = some (.int .i64 (g i))) →
    ∃ r : Bool, (Op.eqItems (d + 1) 3 1 xs ys is).run Try.prog w = .ok r w ∧ (r = true ↔ ∀ i ∈ is, f i = g i)
  | [], _ => ⟨true, by simp [Op.eqItems], by simp⟩
  | i :: is, h => by
    obtain ⟨h1, h2⟩ := h i (by simp)
    obtain ⟨r, hr, hiff⟩ := eqItems_ints d f g xs ys w is (fun j hj => h j (by simp [hj]))
    have p1 := run_part_plain (P := Try.prog) w plain3 (off := i * 1) (by rw [Nat.mul_one]; exact h1)
    have p2 := run_part_plain (P := Try.prog) w plain3 (off := i * 1) (by rw [Nat.mul_one]; exact h2)
    simp only [Op.eqItems, Sem.run_bind, p1, p2, Result.andThen_ok, run_equalIn_int w d 3 .i64 .i64 (f i) (g i) Try.underlying3]
    by_cases e : f i = g i
    · refine ⟨r, by simpa [e] using hr, ?_⟩
      rw [hiff]
      simp [e]
    · exact ⟨false, by simp [e], by simp [e]⟩
theorem eqArr_ints (d : Nat) (T n : Nat) (f g : Nat → Int) (xs ys : Array Value) (w : World) (hu : Try.prog.underlying T = some (.array n 3)) (h : ∀ i, i < n → xs[i]? = some (.int .i64 (f i)) ∧ ys[i]? = some (.int .i64 (g i))) :
    ∃ r : Bool, (Op.equalIn (d + 2) T (.agg xs) (.agg ys)).run Try.prog w = .ok r w ∧ (r = true ↔ ∀ i, i < n → f i = g i) := by
  obtain ⟨i3, hi⟩ := info_of_underlying (P := Try.prog) Try.underlying3
  obtain ⟨r, hr, hiff⟩ := eqItems_ints d f g xs ys w (List.range n) (fun i hi => h i (List.mem_range.1 hi))
  refine ⟨r, ?_, hiff.trans (by simp [List.mem_range])⟩
  rw [run_equalIn_array w (d + 1) xs ys hu hi, cells3']
  exact hr
theorem eqFields_of (d : Nat) (R : Nat → Prop) (xs ys : Array Value) (w : World) : ∀ (fs : List Field), (∀ f ∈ fs, f.name ≠ "_" ∧ ∃ (a b : Value) (r : Bool), (part f.type xs f.offset).run Try.prog w = .ok a w ∧ (part f.type ys f.offset).run Try.prog w = .ok b w ∧ (Op.equalIn d f.type a b).run Try.prog w = .ok r w ∧ (r = true ↔ R f.offset)) →
    ∃ r : Bool, (Op.eqFields d xs ys fs).run Try.prog w = .ok r w ∧ (r = true ↔ ∀ f ∈ fs, R f.offset)
  | [], _ => ⟨true, by simp [Op.eqFields], by simp⟩
  | f :: fs, h => by
    obtain ⟨hn, a, b, r1, p1, p2, p3, hr1⟩ := h f (by simp)
    obtain ⟨r, hr, hiff⟩ := eqFields_of d R xs ys w fs (fun g hg => h g (by simp [hg]))
    simp only [Op.eqFields, Sem.run_bind, Sem.run_ite]
    rw [if_pos (by simpa using hn)]
    simp only [p1, p2, p3, Result.andThen_ok]
    cases r1
    · exact ⟨false, by simp, by simp; intro e; exact absurd (hr1.2 e) (by simp)⟩
    · refine ⟨r, by simpa using hr, ?_⟩
      rw [hiff]
      simp [hr1.1 rfl]
theorem part_arr (T n off : Nat) (xs : Array Value) (w : World) (hu : Try.prog.underlying T = some (.array n 3)) (hs : (Try.prog.info? T).map (·.size) = some n) : (part T xs off).run Try.prog w = .ok (.agg (xs.extract off (off + n))) w := by
  have hagg : (isAgg T).run Try.prog w = .ok true w := by
    unfold isAgg
    rw [Sem.run_bind, run_underlying hu w]
    simp
  cases hq : Try.prog.info? T with
  | none => simp [hq] at hs
  | some i =>
    simp [hq] at hs
    simp [part, Sem.run_bind, hagg, sizeOf, typeInfo, hq, hs]
/-- What a place of a held guest says of two of them. -/
def RH (D E : GD) (o : Nat) : Prop := if o = 0 then D.at_ = E.at_ else if o = 1 then D.acc = E.acc else if o = 2 then ∀ i, i < 8 → D.c i = E.c i else if o = 10 then ∀ i, i < 20 → tz D i = tz E i else if o = 30 then (D.nt : Int) = E.nt else D.d = E.d
theorem fieldsH : (Try.prog.fieldsOf 148).toList.map (fun f => (f.type, f.offset)) = [(3, 0), (3, 1), (145, 2), (146, 10), (3, 30), (4, 31)] := by kernel_rfl
theorem namesH : (Try.prog.fieldsOf 148).toList.all (fun f => f.name != "_") = true := by kernel_rfl
theorem lst_at (D : GD) {i : Nat} (hi : i < 32) : ((lst 32 (hc D)).toArray)[i]? = some (hc D i) := by
  rw [List.getElem?_toArray]; exact lst_get hi
theorem alike_RH {D E : GD} (gD : D.Good) (gE : E.Good) (h : ∀ o, o = 0 ∨ o = 1 ∨ o = 2 ∨ o = 10 ∨ o = 30 ∨ o = 31 → RH D E o) : D.Alike E := by
  have h0 : D.at_ = E.at_ := h 0 (by omega)
  have h1 : D.acc = E.acc := h 1 (by omega)
  have h2 : ∀ i, i < 8 → D.c i = E.c i := h 2 (by omega)
  have h3 : ∀ i, i < 20 → tz D i = tz E i := h 10 (by omega)
  have h4 : (D.nt : Int) = E.nt := h 30 (by omega)
  have h5 : D.d = E.d := h 31 (by omega)
  have hnt : D.nt = E.nt := by omega
  have g1 := gD.nt
  refine ⟨h0, h1, by rw [gD.nc, gE.nc], fun i hi => h2 i (by rw [gD.nc] at hi; exact hi), hnt, fun i hi => ?_, h5⟩
  have := h3 i (by omega)
  unfold tz at this
  rw [if_pos hi, if_pos (by omega)] at this
  exact this
theorem RH_alike {D E : GD} (gD : D.Good) (h : D.Alike E) (o : Nat) : RH D E o := by
  unfold RH
  have hnt := h.nt
  split
  · exact h.a
  · split
    · exact h.acc
    · split
      · exact fun i hi => h.c i (by rw [gD.nc]; exact hi)
      · split
        · intro i hi
          unfold tz
          rw [← hnt]
          split
          · exact h.t i (by assumption)
          · rfl
        · split
          · rw [hnt]
          · exact h.d
set_option maxRecDepth 4000 in
/-- Two held guests compared. -/
theorem eqHeld (D E : GD) (gD : D.Good) (gE : E.Good) (w : World) : ∃ r : Bool, (binOp .eql 148 (.agg (lst 32 (hc D)).toArray) (.agg (lst 32 (hc E)).toArray)).run Try.prog w = .ok (.bool r) w ∧ (r = true ↔ D.Alike E) := by
  have u : Try.prog.underlying 148 = some (.struct (Try.prog.fieldsOf 148)) := by kernel_rfl
  have hp : Try.prog.stoodInHeld 148 = false := by kernel_rfl
  obtain ⟨r, hr, hiff⟩ := eqFields_of 9999 (RH D E) (lst 32 (hc D)).toArray (lst 32 (hc E)).toArray w (Try.prog.fieldsOf 148).toList (fun f hf => by
    refine ⟨by have := List.all_eq_true.1 namesH f hf; simpa using this, ?_⟩
    have hm := List.mem_map_of_mem (f := fun f => (f.type, f.offset)) hf
    rw [fieldsH] at hm
    simp only [List.mem_cons, Prod.mk.injEq, List.not_mem_nil, or_false] at hm
    have ci : ∀ o, o < 32 → ∀ v, hc D o = v → (part 3 (lst 32 (hc D)).toArray o).run Try.prog w = .ok v w := fun o ho v hv => run_part_plain w plain3 (by rw [lst_at D ho, hv])
    have ce : ∀ o, o < 32 → ∀ v, hc E o = v → (part 3 (lst 32 (hc E)).toArray o).run Try.prog w = .ok v w := fun o ho v hv => run_part_plain w plain3 (by rw [lst_at E ho, hv])
    rcases hm with ⟨e1, e2⟩ | ⟨e1, e2⟩ | ⟨e1, e2⟩ | ⟨e1, e2⟩ | ⟨e1, e2⟩ | ⟨e1, e2⟩ <;> rw [e1, e2]
    · exact ⟨_, _, _, ci 0 (by omega) _ rfl, ce 0 (by omega) _ rfl, run_equalIn_int w 9998 3 .i64 .i64 _ _ Try.underlying3, by simp [RH]⟩
    · exact ⟨_, _, _, ci 1 (by omega) _ rfl, ce 1 (by omega) _ rfl, run_equalIn_int w 9998 3 .i64 .i64 _ _ Try.underlying3, by simp [RH]⟩
    · obtain ⟨r, hr, hi⟩ := eqArr_ints 9997 145 8 D.c E.c ((lst 32 (hc D)).toArray.extract 2 (2 + 8)) ((lst 32 (hc E)).toArray.extract 2 (2 + 8)) w Try.underlying145 (fun i hi => by
        have q : ∀ G : GD, ((lst 32 (hc G)).toArray.extract 2 (2 + 8))[i]? = some (.int .i64 (G.c i)) := fun G => by
          rw [Array.getElem?_extract, if_pos (by simp [lst]; omega), lst_at G (by omega)]
          unfold hc hcf
          rw [if_neg (by omega), if_neg (by omega), if_pos (by omega), Nat.add_sub_cancel_left]
        exact ⟨q D, q E⟩)
      exact ⟨_, _, r, part_arr 145 8 2 _ w Try.underlying145 (by kernel_rfl), part_arr 145 8 2 _ w Try.underlying145 (by kernel_rfl), hr, by rw [hi]; simp [RH]⟩
    · obtain ⟨r, hr, hi⟩ := eqArr_ints 9997 146 20 (tz D) (tz E) ((lst 32 (hc D)).toArray.extract 10 (10 + 20)) ((lst 32 (hc E)).toArray.extract 10 (10 + 20)) w Try.underlying146 (fun i hi => by
        have q : ∀ G : GD, ((lst 32 (hc G)).toArray.extract 10 (10 + 20))[i]? = some (.int .i64 (tz G i)) := fun G => by
          rw [Array.getElem?_extract, if_pos (by simp [lst]; omega), lst_at G (by omega)]
          unfold hc hcf
          rw [if_neg (by omega), if_neg (by omega), if_neg (by omega), if_pos (by omega), Nat.add_sub_cancel_left]
        exact ⟨q D, q E⟩)
      exact ⟨_, _, r, part_arr 146 20 10 _ w Try.underlying146 (by kernel_rfl), part_arr 146 20 10 _ w Try.underlying146 (by kernel_rfl), hr, by rw [hi]; simp [RH]⟩
    · exact ⟨_, _, _, ci 30 (by omega) _ rfl, ce 30 (by omega) _ rfl, run_equalIn_int w 9998 3 .i64 .i64 _ _ Try.underlying3, by simp [RH]⟩
    · exact ⟨_, _, _, run_part_plain w plain4 (by rw [lst_at D (by omega)]; rfl), run_part_plain w plain4 (by rw [lst_at E (by omega)]; rfl), run_equalIn_bool w 9998 4 _ _ Try.underlying4, by simp [RH]⟩)
  refine ⟨r, ?_, ?_⟩
  · rw [run_eql_struct, run_equalIn_struct w 9999 148 _ _ u hp, hr]
    rfl
  · rw [hiff]
    constructor
    · intro h
      refine alike_RH gD gE fun o ho => ?_
      have : ∃ T, (T, o) ∈ (Try.prog.fieldsOf 148).toList.map (fun f => (f.type, f.offset)) := by
        rw [fieldsH]
        rcases ho with e | e | e | e | e | e <;> subst e
        · exact ⟨3, by simp⟩
        · exact ⟨3, by simp⟩
        · exact ⟨145, by simp⟩
        · exact ⟨146, by simp⟩
        · exact ⟨3, by simp⟩
        · exact ⟨4, by simp⟩
      obtain ⟨T, hT⟩ := this
      obtain ⟨f, hf, e⟩ := List.mem_map.1 hT
      cases e
      exact h f hf
    · exact fun h f _ => RH_alike gD h _
end Go.Proofs.Ytbpdopcdhnemfaa
/- SameGuest: both sides. -/
namespace Go.Proofs.Ytbpdopcdhnemfaa
open Go.RowKit
set_option linter.unusedSimpArgs false
set_option linter.unusedVariables false
theorem eql_big {ops : Array Oper} {rest : List Oper} {o : Oper} {a : Act} {w : World} {Q : Exit → Act → World → Prop} (hg : o.guard = none) (T T2 : TypeId) (x y : Operand) (ho : o.op = .binOp .eql T x y T2) (xs ys : Array Value) (hx : a.eval x = .agg xs) (hy : a.eval y = .agg ys)
    (hm : Try.prog.eqGuardType Try.prog.depth T = false) (r : Bool) (hr : (binOp .eql T (.agg xs) (.agg ys)).run Try.prog w = .ok (.bool r) w) (h : wpList Try.prog ops Q rest (a.put o.dst (.bool r)) w) : wpList Try.prog ops Q (o :: rest) a w := by
  refine wpList_plain hg fun K hK => ?_
  unfold Oper.wp execOp
  simp only [ho, hx, hy, Sem.run_bind, run_eqGuard_agg _ _ _ _ _ _ _ hm, Result.andThen_ok, hr]
  exact hK _ _ h
set_option maxHeartbeats 800000 in
theorem l1Same_len (a1 a2 : Option Addr) (c1 c2 n m : Nat) (w : World) (h : ¬ n = m) :
    Calls Try.prog 178 #[.slice a1 n c1, .slice a2 m c2] w fun e w' => e = .returned (.bool false) ∧ w' = w := by
  have d1 : ((n : Int) != (m : Int)) = true := by simp; omega
  go_enter Try.func178, Try.ntmps178
  go_wp2
  go_ret
  exact ⟨rfl, rfl⟩
theorem l1Same_any (a1 a2 : Option Addr) (c1 c2 n m : Nat) (f g : Nat → Int) {Y Z : Nat → Prop} (w : World) (h1 : IntsAt Y w a1 n f) (h2 : IntsAt Z w a2 m g) :
    Calls Try.prog 178 #[.slice a1 n c1, .slice a2 m c2] w fun e w' => ∃ r, e = .returned (.bool r) ∧ (r = true ↔ n = m ∧ ∀ i, i < n → f i = g i) ∧ Blw w w' := by
  by_cases e : n = m
  · subst e
    by_cases ha : ∀ i, i < n → f i = g i
    · exact (l1Same_yes a1 a2 c1 c2 n f g w h1 h2 ha).mono fun e w' ⟨k1, k2⟩ => ⟨true, k1, iff_t ⟨rfl, ha⟩, by obtain ⟨q, rfl⟩ := k2; exact drewN_blw w q⟩
    · obtain ⟨i, hi0, hn⟩ : ∃ i, i < n ∧ ¬ f i = g i := Classical.byContradiction fun hx => ha fun i hi0 => Classical.byContradiction fun hy => hx ⟨i, hi0, hy⟩
      exact (l1Same_no a1 a2 c1 c2 n f g w h1 h2 i hi0 hn).mono fun e w' ⟨k1, k2⟩ => ⟨false, k1, iff_f (fun q => ha q.2), by obtain ⟨q, rfl⟩ := k2; exact drewN_blw w q⟩
  · exact (l1Same_len a1 a2 c1 c2 n m w e).mono fun _ w' ⟨k1, k2⟩ => ⟨false, k1, iff_f (fun q => e q.1), by rw [k2]; exact Blw.refl _⟩
set_option maxRecDepth 10000 in
set_option maxHeartbeats 3200000 in
theorem l9Same_any (v u : GV) (D E : GD) (X Y : Nat → Prop) (w : World) (h1 : GAt X w v D) (h2 : GAt Y w u E) :
    Calls Try.prog 123 #[v.val D, u.val E] w fun e w' => ∃ r, e = .returned (.bool r) ∧ (r = true ↔ D.Alike E) ∧ Blw w w' := by
  have HB : Hid (Blw w ((w.alloc (.cells #[.int .i64 D.at_, .int .i64 D.acc, .slice v.a1 D.nc v.c1, .slice v.a2 D.nt v.c2, .bool D.d] 61)).alloc (.cells #[.int .i64 E.at_, .int .i64 E.acc, .slice u.a1 E.nc u.c1, .slice u.a2 E.nt u.c2, .bool E.d] 61))) := ((Blw.refl _).alloc _).alloc _
  have H1 : Hid (GAt X ((w.alloc (.cells #[.int .i64 D.at_, .int .i64 D.acc, .slice v.a1 D.nc v.c1, .slice v.a2 D.nt v.c2, .bool D.d] 61)).alloc (.cells #[.int .i64 E.at_, .int .i64 E.acc, .slice u.a1 E.nc u.c1, .slice u.a2 E.nt u.c2, .bool E.d] 61)) v D) := h1.blw HB.out
  have H2 : Hid (GAt Y ((w.alloc (.cells #[.int .i64 D.at_, .int .i64 D.acc, .slice v.a1 D.nc v.c1, .slice v.a2 D.nt v.c2, .bool D.d] 61)).alloc (.cells #[.int .i64 E.at_, .int .i64 E.acc, .slice u.a1 E.nc u.c1, .slice u.a2 E.nt u.c2, .bool E.d] 61)) u E) := h2.blw HB.out
  have R1 : Hid (Row ((w.alloc (.cells #[.int .i64 D.at_, .int .i64 D.acc, .slice v.a1 D.nc v.c1, .slice v.a2 D.nt v.c2, .bool D.d] 61)).alloc (.cells #[.int .i64 E.at_, .int .i64 E.acc, .slice u.a1 E.nc u.c1, .slice u.a2 E.nt u.c2, .bool E.d] 61)) w.heap.size 5 (gb v D)) := (row5 w _ _ _ _ _ 61).blw ((Blw.refl _).alloc _)
  have r2 := row5 (w.alloc (.cells #[.int .i64 D.at_, .int .i64 D.acc, .slice v.a1 D.nc v.c1, .slice v.a2 D.nt v.c2, .bool D.d] 61)) (.int .i64 E.at_) (.int .i64 E.acc) (.slice u.a1 E.nc u.c1) (.slice u.a2 E.nt u.c2) (.bool E.d) 61
  rw [World.size_alloc] at r2
  have R2 : Hid (Row ((w.alloc (.cells #[.int .i64 D.at_, .int .i64 D.acc, .slice v.a1 D.nc v.c1, .slice v.a2 D.nt v.c2, .bool D.d] 61)).alloc (.cells #[.int .i64 E.at_, .int .i64 E.acc, .slice u.a1 E.nc u.c1, .slice u.a2 E.nt u.c2, .bool E.d] 61)) (w.heap.size + 1) 5 (gb u E)) := r2
  clear h1 h2 r2
  go_enter Try.func123, Try.ntmps123
  go_upto_region 1 with fail
  generalize ((w.alloc (.cells #[.int .i64 D.at_, .int .i64 D.acc, .slice v.a1 D.nc v.c1, .slice v.a2 D.nt v.c2, .bool D.d] 61)).alloc (.cells #[.int .i64 E.at_, .int .i64 E.acc, .slice u.a1 E.nc u.c1, .slice u.a2 E.nt u.c2, .bool E.d] 61)) = w0 at *
  obtain ⟨p0, p1, p2, p3, p4⟩ := get5 R1.out
  obtain ⟨q0, q1, q2, q3, q4⟩ := get5 R2.out
  by_cases g0 : D.at_ = E.at_
  case neg =>
    have d0 : (D.at_ == E.at_) = false := by simp [g0]
    have HN : Hid (¬ D.Alike E) := fun g => g0 g.a
    clear g0
    go_wp2
    go_ret
    exact ⟨false, rfl, iff_f HN.out, HB.out⟩
  have d0 : (D.at_ == E.at_) = true := by simp [g0]
  have G0 : Hid (D.at_ = E.at_) := g0
  clear g0
  by_cases g1 : D.acc = E.acc
  case neg =>
    have d1 : (D.acc == E.acc) = false := by simp [g1]
    have HN : Hid (¬ D.Alike E) := fun g => g1 g.acc
    clear g1
    go_wp2
    go_ret
    exact ⟨false, rfl, iff_f HN.out, HB.out⟩
  have d1 : (D.acc == E.acc) = true := by simp [g1]
  have G1 : Hid (D.acc = E.acc) := g1
  clear g1
  go_wp2_with fail
  clear p0 p1 p2 p3 p4 q0 q1 q2 q3 q4 d0 d1
  refine (l1Same_any _ _ _ _ D.nc E.nc D.c E.c _ H1.out.c H2.out.c).mono ?_
  rintro e w1 ⟨r, rfl, hr, hb1⟩
  replace HB : Hid (Blw w w1) := HB.out.trans hb1
  replace H1 : Hid (GAt X w1 v D) := H1.out.blw hb1
  replace H2 : Hid (GAt Y w1 u E) := H2.out.blw hb1
  replace R1 : Hid (Row w1 w.heap.size 5 (gb v D)) := R1.out.blw hb1
  replace R2 : Hid (Row w1 (w.heap.size + 1) 5 (gb u E)) := R2.out.blw hb1
  have HR : Hid (r = true ↔ D.nc = E.nc ∧ ∀ i, i < D.nc → D.c i = E.c i) := hr
  clear hb1 hr
  obtain ⟨p0, p1, p2, p3, p4⟩ := get5 R1.out
  obtain ⟨q0, q1, q2, q3, q4⟩ := get5 R2.out
  cases r
  · have HN : Hid (¬ D.Alike E) := fun g => by have := HR.out.2 ⟨g.nc, g.c⟩; cases this
    go_wp2
    go_ret
    exact ⟨false, rfl, iff_f HN.out, HB.out⟩
  have G2 : Hid (D.nc = E.nc ∧ ∀ i, i < D.nc → D.c i = E.c i) := HR.out.1 (by first | rfl | trivial)
  clear HR
  go_wp2_with fail
  clear p0 p1 p2 p3 p4 q0 q1 q2 q3 q4
  refine (l1Same_any _ _ _ _ D.nt E.nt D.t E.t _ H1.out.t H2.out.t).mono ?_
  rintro e w2 ⟨r, rfl, hr, hb1⟩
  replace HB : Hid (Blw w w2) := HB.out.trans hb1
  replace R1 : Hid (Row w2 w.heap.size 5 (gb v D)) := R1.out.blw hb1
  replace R2 : Hid (Row w2 (w.heap.size + 1) 5 (gb u E)) := R2.out.blw hb1
  have HR : Hid (r = true ↔ D.nt = E.nt ∧ ∀ i, i < D.nt → D.t i = E.t i) := hr
  clear hb1 hr H1 H2
  obtain ⟨p0, p1, p2, p3, p4⟩ := get5 R1.out
  obtain ⟨q0, q1, q2, q3, q4⟩ := get5 R2.out
  cases r
  · have HN : Hid (¬ D.Alike E) := fun g => by have := HR.out.2 ⟨g.nt, g.t⟩; cases this
    go_wp2
    go_ret
    exact ⟨false, rfl, iff_f HN.out, HB.out⟩
  have G3 : Hid (D.nt = E.nt ∧ ∀ i, i < D.nt → D.t i = E.t i) := HR.out.1 (by first | rfl | trivial)
  clear HR
  have HF : Hid ((D.d == E.d) = true ↔ D.Alike E) := ⟨fun e => ⟨G0.out, G1.out, G2.out.1, G2.out.2, G3.out.1, G3.out.2, by simpa using e⟩, fun g => by simp [g.d]⟩
  clear G0 G1 G2 G3
  go_wp2
  go_ret
  exact ⟨_, rfl, HF.out, HB.out⟩
def sgOut (D E : GD) (x r : Bool) : Prop := (D.Good ∧ E.Good ∧ r = true ∧ (x = true ↔ D.Alike E)) ∨ (¬ (D.Good ∧ E.Good) ∧ r = false ∧ x = false)
theorem sgOut_same {D E : GD} {x y r q : Bool} (h : sgOut D E x r) (k : sgOut D E y q) : x = y ∧ r = q := by
  rcases h with ⟨g, g', rfl, hx⟩ | ⟨g, rfl, rfl⟩ <;> rcases k with ⟨l, l', rfl, hy⟩ | ⟨l, rfl, rfl⟩
  · refine ⟨?_, rfl⟩
    cases x <;> cases y <;> simp_all
  · exact absurd ⟨g, g'⟩ l
  · exact absurd ⟨l, l'⟩ g
  · exact ⟨rfl, rfl⟩
set_option maxRecDepth 10000 in
set_option maxHeartbeats 3200000 in
theorem specSame_any (v u : GV) (D E : GD) (X Y : Nat → Prop) (w : World) (h1 : GAt X w v D) (h2 : GAt Y w u E) :
    Calls Try.prog 48 #[v.val D, u.val E] w fun e w' => ∃ x r, e = .returned (.tuple #[.bool x, .bool r]) ∧ sgOut D E x r ∧ Blw w w' := by
  have HB : Hid (Blw w ((w.alloc (.cells #[.int .i64 D.at_, .int .i64 D.acc, .slice v.a1 D.nc v.c1, .slice v.a2 D.nt v.c2, .bool D.d] 61)).alloc (.cells #[.int .i64 E.at_, .int .i64 E.acc, .slice u.a1 E.nc u.c1, .slice u.a2 E.nt u.c2, .bool E.d] 61))) := ((Blw.refl _).alloc _).alloc _
  have H1 : Hid (GAt X ((w.alloc (.cells #[.int .i64 D.at_, .int .i64 D.acc, .slice v.a1 D.nc v.c1, .slice v.a2 D.nt v.c2, .bool D.d] 61)).alloc (.cells #[.int .i64 E.at_, .int .i64 E.acc, .slice u.a1 E.nc u.c1, .slice u.a2 E.nt u.c2, .bool E.d] 61)) v D) := h1.blw HB.out
  have H2 : Hid (GAt Y ((w.alloc (.cells #[.int .i64 D.at_, .int .i64 D.acc, .slice v.a1 D.nc v.c1, .slice v.a2 D.nt v.c2, .bool D.d] 61)).alloc (.cells #[.int .i64 E.at_, .int .i64 E.acc, .slice u.a1 E.nc u.c1, .slice u.a2 E.nt u.c2, .bool E.d] 61)) u E) := h2.blw HB.out
  have R1 : Hid (Row ((w.alloc (.cells #[.int .i64 D.at_, .int .i64 D.acc, .slice v.a1 D.nc v.c1, .slice v.a2 D.nt v.c2, .bool D.d] 61)).alloc (.cells #[.int .i64 E.at_, .int .i64 E.acc, .slice u.a1 E.nc u.c1, .slice u.a2 E.nt u.c2, .bool E.d] 61)) w.heap.size 5 (gb v D)) := (row5 w _ _ _ _ _ 61).blw ((Blw.refl _).alloc _)
  have r2 := row5 (w.alloc (.cells #[.int .i64 D.at_, .int .i64 D.acc, .slice v.a1 D.nc v.c1, .slice v.a2 D.nt v.c2, .bool D.d] 61)) (.int .i64 E.at_) (.int .i64 E.acc) (.slice u.a1 E.nc u.c1) (.slice u.a2 E.nt u.c2) (.bool E.d) 61
  rw [World.size_alloc] at r2
  have R2 : Hid (Row ((w.alloc (.cells #[.int .i64 D.at_, .int .i64 D.acc, .slice v.a1 D.nc v.c1, .slice v.a2 D.nt v.c2, .bool D.d] 61)).alloc (.cells #[.int .i64 E.at_, .int .i64 E.acc, .slice u.a1 E.nc u.c1, .slice u.a2 E.nt u.c2, .bool E.d] 61)) (w.heap.size + 1) 5 (gb u E)) := r2
  clear h1 h2 r2
  go_enter Try.func48, Try.ntmps48
  go_upto_region 1 with fail
  generalize ((w.alloc (.cells #[.int .i64 D.at_, .int .i64 D.acc, .slice v.a1 D.nc v.c1, .slice v.a2 D.nt v.c2, .bool D.d] 61)).alloc (.cells #[.int .i64 E.at_, .int .i64 E.acc, .slice u.a1 E.nc u.c1, .slice u.a2 E.nt u.c2, .bool E.d] 61)) = w0 at *
  obtain ⟨p0, p1, p2, p3, p4⟩ := get5 R1.out
  obtain ⟨q0, q1, q2, q3, q4⟩ := get5 R2.out
  go_wp2_with fail
  clear p0 p1 p2 p3 p4 q0 q1 q2 q3 q4
  refine (specGoodG_any v D _ _ H1.out).mono ?_
  rintro e w1 ⟨r, rfl, hr, hb1⟩
  replace HB : Hid (Blw w w1) := HB.out.trans hb1
  replace H1 : Hid (GAt X w1 v D) := H1.out.blw hb1
  replace H2 : Hid (GAt Y w1 u E) := H2.out.blw hb1
  replace R1 : Hid (Row w1 w.heap.size 5 (gb v D)) := R1.out.blw hb1
  replace R2 : Hid (Row w1 (w.heap.size + 1) 5 (gb u E)) := R2.out.blw hb1
  have HR : Hid (r = true ↔ D.Good) := hr
  clear hb1 hr
  cases r
  · have HN : Hid (¬ (D.Good ∧ E.Good)) := fun g => by have := HR.out.2 g.1; cases this
    go_wp2
    exact bodyPost_ret (v := .tuple #[.bool false, .bool false]) (by simp [results, Try.results48, go_sem]) rfl ⟨_, _, rfl, Or.inr ⟨HN.out, rfl, rfl⟩, HB.out⟩
  have GD1 : Hid D.Good := HR.out.1 (by first | rfl | trivial)
  clear HR
  obtain ⟨p0, p1, p2, p3, p4⟩ := get5 R1.out
  obtain ⟨q0, q1, q2, q3, q4⟩ := get5 R2.out
  go_wp2_with fail
  clear p0 p1 p2 p3 p4 q0 q1 q2 q3 q4
  refine (specGoodG_any u E _ _ H2.out).mono ?_
  rintro e w2 ⟨r, rfl, hr, hb1⟩
  replace HB : Hid (Blw w w2) := HB.out.trans hb1
  replace H1 : Hid (GAt X w2 v D) := H1.out.blw hb1
  replace H2 : Hid (GAt Y w2 u E) := H2.out.blw hb1
  replace R1 : Hid (Row w2 w.heap.size 5 (gb v D)) := R1.out.blw hb1
  replace R2 : Hid (Row w2 (w.heap.size + 1) 5 (gb u E)) := R2.out.blw hb1
  have HR : Hid (r = true ↔ E.Good) := hr
  clear hb1 hr
  cases r
  · have HN : Hid (¬ (D.Good ∧ E.Good)) := fun g => by have := HR.out.2 g.2; cases this
    go_wp2
    exact bodyPost_ret (v := .tuple #[.bool false, .bool false]) (by simp [results, Try.results48, go_sem]) rfl ⟨_, _, rfl, Or.inr ⟨HN.out, rfl, rfl⟩, HB.out⟩
  have GE1 : Hid E.Good := HR.out.1 (by first | rfl | trivial)
  clear HR
  obtain ⟨p0, p1, p2, p3, p4⟩ := get5 R1.out
  obtain ⟨q0, q1, q2, q3, q4⟩ := get5 R2.out
  go_wp2_with fail
  clear p0 p1 p2 p3 p4 q0 q1 q2 q3 q4
  refine (l9Same_any v u D E _ _ _ H1.out H2.out).mono ?_
  rintro e w3 ⟨r, rfl, hr, hb1⟩
  replace HB : Hid (Blw w w3) := HB.out.trans hb1
  replace H1 : Hid (GAt X w3 v D) := H1.out.blw hb1
  replace H2 : Hid (GAt Y w3 u E) := H2.out.blw hb1
  replace R1 : Hid (Row w3 w.heap.size 5 (gb v D)) := R1.out.blw hb1
  replace R2 : Hid (Row w3 (w.heap.size + 1) 5 (gb u E)) := R2.out.blw hb1
  have HR : Hid (r = true ↔ D.Alike E) := hr
  clear hb1 hr
  go_wp2
  exact bodyPost_ret (v := .tuple #[.bool r, .bool true]) (by simp [results, Try.results48, go_sem]) rfl ⟨_, _, rfl, Or.inl ⟨GD1.out, GE1.out, rfl, HR.out⟩, HB.out⟩
set_option maxRecDepth 10000 in
set_option maxHeartbeats 3200000 in
theorem implSame_any (v u : GV) (D E : GD) (X Y : Nat → Prop) (w : World) (h1 : GAt X w v D) (h2 : GAt Y w u E) (hX : ∀ b, X b → b < w.heap.size) (hY : ∀ b, Y b → b < w.heap.size) :
    Calls Try.prog 47 #[v.val D, u.val E] w fun e w' => ∃ x r, e = .returned (.tuple #[.bool x, .bool r]) ∧ sgOut D E x r ∧ Blw w w' := by
  have HB : Hid (Blw w ((w.alloc (.cells #[.int .i64 D.at_, .int .i64 D.acc, .slice v.a1 D.nc v.c1, .slice v.a2 D.nt v.c2, .bool D.d] 61)).alloc (.cells #[.int .i64 E.at_, .int .i64 E.acc, .slice u.a1 E.nc u.c1, .slice u.a2 E.nt u.c2, .bool E.d] 61))) := ((Blw.refl _).alloc _).alloc _
  have H1 : Hid (GAt X ((w.alloc (.cells #[.int .i64 D.at_, .int .i64 D.acc, .slice v.a1 D.nc v.c1, .slice v.a2 D.nt v.c2, .bool D.d] 61)).alloc (.cells #[.int .i64 E.at_, .int .i64 E.acc, .slice u.a1 E.nc u.c1, .slice u.a2 E.nt u.c2, .bool E.d] 61)) v D) := h1.blw HB.out
  have H2 : Hid (GAt Y ((w.alloc (.cells #[.int .i64 D.at_, .int .i64 D.acc, .slice v.a1 D.nc v.c1, .slice v.a2 D.nt v.c2, .bool D.d] 61)).alloc (.cells #[.int .i64 E.at_, .int .i64 E.acc, .slice u.a1 E.nc u.c1, .slice u.a2 E.nt u.c2, .bool E.d] 61)) u E) := h2.blw HB.out
  have R1 : Hid (Row ((w.alloc (.cells #[.int .i64 D.at_, .int .i64 D.acc, .slice v.a1 D.nc v.c1, .slice v.a2 D.nt v.c2, .bool D.d] 61)).alloc (.cells #[.int .i64 E.at_, .int .i64 E.acc, .slice u.a1 E.nc u.c1, .slice u.a2 E.nt u.c2, .bool E.d] 61)) w.heap.size 5 (gb v D)) := (row5 w _ _ _ _ _ 61).blw ((Blw.refl _).alloc _)
  have r2 := row5 (w.alloc (.cells #[.int .i64 D.at_, .int .i64 D.acc, .slice v.a1 D.nc v.c1, .slice v.a2 D.nt v.c2, .bool D.d] 61)) (.int .i64 E.at_) (.int .i64 E.acc) (.slice u.a1 E.nc u.c1) (.slice u.a2 E.nt u.c2) (.bool E.d) 61
  rw [World.size_alloc] at r2
  have R2 : Hid (Row ((w.alloc (.cells #[.int .i64 D.at_, .int .i64 D.acc, .slice v.a1 D.nc v.c1, .slice v.a2 D.nt v.c2, .bool D.d] 61)).alloc (.cells #[.int .i64 E.at_, .int .i64 E.acc, .slice u.a1 E.nc u.c1, .slice u.a2 E.nt u.c2, .bool E.d] 61)) (w.heap.size + 1) 5 (gb u E)) := r2
  have HX : Hid ((∀ b, X b → b < w.heap.size) ∧ ∀ b, Y b → b < w.heap.size) := ⟨hX, hY⟩
  clear h1 h2 r2 hX hY
  go_enter Try.func47, Try.ntmps47
  go_upto_region 1 with fail
  generalize ((w.alloc (.cells #[.int .i64 D.at_, .int .i64 D.acc, .slice v.a1 D.nc v.c1, .slice v.a2 D.nt v.c2, .bool D.d] 61)).alloc (.cells #[.int .i64 E.at_, .int .i64 E.acc, .slice u.a1 E.nc u.c1, .slice u.a2 E.nt u.c2, .bool E.d] 61)) = w0 at *
  obtain ⟨p0, p1, p2, p3, p4⟩ := get5 R1.out
  go_wp2_with fail
  clear p0 p1 p2 p3 p4
  have hx1 : ∀ b, X b → b < w0.heap.size := fun b hb => Nat.lt_of_lt_of_le (HX.out.1 b hb) HB.out.size
  refine (holdGuest_any v D X _ H1.out hx1).mono ?_
  rintro e w1 ⟨⟨hg, rfl⟩ | ⟨hg, rfl⟩, hb⟩
  case inr =>
    have HG : Hid (¬ (D.Good ∧ E.Good)) := fun g => hg g.1
    replace HB : Hid (Blw w w1) := HB.out.trans hb
    clear hg hb H1 H2 R1 R2 HX hx1
    go_wp2_with (first | (refine alloc_big rfl 148 rfl 32 hz zeroH ?_; intro wa1 RZ1 hba1 hza1) | (refine store_big rfl 148 _ _ rfl _ 32 hz hz rfl rfl wdH RZ1 (fun i _ => hcf_one _ _ _ _ _ _ i) ?_; intro wb1 RH1 hmb1 hsb1; clear RZ1) | fail)
    have hs := HB.out.size
    exact bodyPost_ret (v := .tuple #[.bool false, .bool false]) (by simp [results, Try.results47, go_sem]) rfl ⟨_, _, rfl, Or.inr ⟨HG.out, rfl, rfl⟩, Mod.blw (HB.out.trans hba1) hmb1 (fun i hi => by omega)⟩
  have HGD : Hid D.Good := hg
  replace HB : Hid (Blw w w1) := HB.out.trans hb
  replace H2 : Hid (GAt Y w1 u E) := H2.out.blw hb
  replace R2 : Hid (Row w1 (w.heap.size + 1) 5 (gb u E)) := R2.out.blw hb
  clear hg hb H1 R1 hx1
  go_upto_region 2 with (first | (refine alloc_big rfl 148 rfl 32 hz zeroH ?_; intro wa1 RZ1 hba1 hza1) | (refine store_big rfl 148 _ _ rfl _ 32 (hc D) hz rfl rfl wdH RZ1 (fun i _ => hc_one _ i) ?_; intro wb1 RH1 hmb1 hsb1; clear RZ1) | fail)
  have hs0 := HB.out.size
  have hb12 : Blw w1 wb1 := Mod.blw hba1 hmb1 (fun i hi => by omega)
  have HK : Hid (Row wb1 w1.heap.size 32 (hc D)) := RH1
  replace HB : Hid (Blw w wb1) := HB.out.trans hb12
  replace H2 : Hid (GAt Y wb1 u E) := H2.out.blw hb12
  replace R2 : Hid (Row wb1 (w.heap.size + 1) 5 (gb u E)) := R2.out.blw hb12
  generalize w1.heap.size = z1 at *
  clear hba1 hza1 RH1 hmb1 hsb1 hb12 wa1 hs0
  obtain ⟨p0, p1, p2, p3, p4⟩ := get5 R2.out
  go_wp2_with fail
  clear p0 p1 p2 p3 p4
  have hx1 : ∀ b, Y b → b < wb1.heap.size := fun b hb => Nat.lt_of_lt_of_le (HX.out.2 b hb) HB.out.size
  refine (holdGuest_any u E Y _ H2.out hx1).mono ?_
  rintro e w2 ⟨⟨hg, rfl⟩ | ⟨hg, rfl⟩, hb⟩
  case inr =>
    have HG : Hid (¬ (D.Good ∧ E.Good)) := fun g => hg g.2
    replace HB : Hid (Blw w w2) := HB.out.trans hb
    clear hg hb H2 R2 HX hx1 HK
    go_wp2_with (first | (refine alloc_big rfl 148 rfl 32 hz zeroH ?_; intro wa2 RZ2 hba2 hza2) | (refine store_big rfl 148 _ _ rfl _ 32 hz hz rfl rfl wdH RZ2 (fun i _ => hcf_one _ _ _ _ _ _ i) ?_; intro wb2 RH2 hmb2 hsb2; clear RZ2) | fail)
    have hs := HB.out.size
    exact bodyPost_ret (v := .tuple #[.bool false, .bool false]) (by simp [results, Try.results47, go_sem]) rfl ⟨_, _, rfl, Or.inr ⟨HG.out, rfl, rfl⟩, Mod.blw (HB.out.trans hba2) hmb2 (fun i hi => by omega)⟩
  have HGE : Hid E.Good := hg
  replace HB : Hid (Blw w w2) := HB.out.trans hb
  replace HK : Hid (Row w2 z1 32 (hc D)) := HK.out.blw hb
  clear hg hb H2 R2 HX hx1
  go_upto_region 5 with (first | (refine alloc_big rfl 148 rfl 32 hz zeroH ?_; intro wa2 RZ2 hba2 hza2) | (refine store_big rfl 148 _ _ rfl _ 32 (hc E) hz rfl rfl wdH RZ2 (fun i _ => hc_one _ i) ?_; intro wb2 RH2 hmb2 hsb2; clear RZ2) | fail)
  have hs0 := HB.out.size
  have hb12 : Blw w2 wb2 := Mod.blw hba2 hmb2 (fun i hi => by omega)
  have HK2 : Hid (Row wb2 w2.heap.size 32 (hc E)) := RH2
  replace HB : Hid (Blw w wb2) := HB.out.trans hb12
  replace HK : Hid (Row wb2 z1 32 (hc D)) := HK.out.blw hb12
  clear hba2 hza2 RH2 hmb2 hsb2 hb12 wa2 hs0
  generalize w2.heap.size = z2 at *
  have hc1 := HK.out.cells
  have hc2 := HK2.out.cells
  obtain ⟨x, hx, hxi⟩ := eqHeld D E HGD.out HGE.out wb2
  have HXI : Hid (x = true ↔ D.Alike E) := hxi
  clear hxi HK HK2
  go_wp2_with (first | (refine load_big rfl 148 _ rfl _ _ 32 rfl (hc D) wdH hc1 ?_) | (refine load_big rfl 148 _ rfl _ _ 32 rfl (hc E) wdH hc2 ?_) | (refine eql_big rfl 148 _ _ _ rfl _ _ rfl rfl (by kernel_rfl) x hx ?_) | fail)
  exact bodyPost_ret (v := .tuple #[.bool x, .bool true]) (by simp [results, Try.results47, go_sem]) rfl ⟨_, _, rfl, Or.inl ⟨HGD.out, HGE.out, rfl, HXI.out⟩, HB.out⟩
end Go.Proofs.Ytbpdopcdhnemfaa
/- What a drawn region of a law leaves. -/
namespace Go.Proofs.Ytbpdopcdhnemfaa
open Go.RowKit
set_option linter.unusedSimpArgs false
set_option linter.unusedVariables false
def DrG (W0 : World) (P : GD → Bool → Prop) (c6 c7 : Value) (wx : World) : Prop := ∃ (v : GV) (R : GD) (b : Bool) (z : Nat), c6 = .pointer (some ⟨z, 0, none⟩) ∧ c7 = .bool b ∧ P R b ∧ R.small ∧ GAt (fun x => x < wx.heap.size) wx v R ∧ Row wx z 5 (gb v R) ∧ Blw W0 wx
def DrGn (W0 : World) (P : GD → Int → Bool → Prop) (c6 c7 c8 : Value) (wx : World) : Prop := ∃ (v : GV) (R : GD) (x : Int) (b : Bool) (z : Nat), c6 = .pointer (some ⟨z, 0, none⟩) ∧ c7 = .int .i64 x ∧ c8 = .bool b ∧ P R x b ∧ R.small ∧ GAt (fun x => x < wx.heap.size) wx v R ∧ Row wx z 5 (gb v R) ∧ Blw W0 wx
def DrI (W0 : World) (P : Nat → (Nat → Int) → Bool → Prop) (c6 c7 : Value) (wx : World) : Prop := ∃ (a : Option Addr) (n c : Nat) (f : Nat → Int) (b : Bool), c6 = .slice a n c ∧ c7 = .bool b ∧ P n f b ∧ n ≤ 1048576 ∧ IntsAt (fun x => x < wx.heap.size) wx a n f ∧ Blw W0 wx
def DrBB (W0 : World) (P : Bool → Bool → Prop) (c6 c7 : Value) (wx : World) : Prop := ∃ (x b : Bool), c6 = .bool x ∧ c7 = .bool b ∧ P x b ∧ Blw W0 wx
theorem set5_all {w : World} {B : Nat} {a b c d e : Value} (r : Row w B 5 (fun i => if i = 0 then a else if i = 1 then b else if i = 2 then c else if i = 3 then d else e)) (v0 v1 v2 v3 v4 : Value) : Row (((((w.setCell ⟨B, 0, none⟩ v0).setCell ⟨B, 1, none⟩ v1).setCell ⟨B, 2, none⟩ v2).setCell ⟨B, 3, none⟩ v3).setCell ⟨B, 4, none⟩ v4) B 5 (fun i => if i = 0 then v0 else if i = 1 then v1 else if i = 2 then v2 else if i = 3 then v3 else v4) :=
  (((((r.set 0 v0).set 1 v1).set 2 v2).set 3 v3).set 4 v4).congr fun i hi => by
    match i, hi with
    | 0, _ => rfl
    | 1, _ => rfl
    | 2, _ => rfl
    | 3, _ => rfl
    | 4, _ => rfl
end Go.Proofs.Ytbpdopcdhnemfaa
