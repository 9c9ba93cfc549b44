/- Laid together, in this order: So, Stm, ITm. -/
import Derived.Test.YtkmkidahaagbpaaJB
import Derived.Shelf.SlSortCmp.WholeK
import Derived.Test.YtkmkidahaagbpaaPut
import Derived.Test.YtkmkidahaagbpaaSrt
import Derived.Test.YtkmkidahaagbpaaSgw
import Derived.Test.YtkmkidahaagbpaaLawH
import Derived.Test.YtkmkidahaagbpaaISet
/- Timers sorted in place. -/
namespace Go.Proofs.Ytkmkidahaagbpaa
open Go.RowKit Go.Shelf Go.Sort
set_option linter.unusedSimpArgs false
set_option linter.unusedVariables false
theorem ltOf_cfT : ltOf cfT = ltT := by funext x y; exact cfT_lt x y
theorem flatK_get (d : Array Tm) (t : Nat) (h : t < d.size * 2) : (flatK encT 2 d)[t]! = uc (lf d.toList) (la d.toList) t := by
  rw [get_flatK _ _ _ _ h]
  have hi : t / 2 < d.size := by omega
  have e : d[t / 2]! = nth d.toList (t / 2) := by
    rw [getElem!_pos d _ hi, nth_get (by simpa using hi)]; simp
  rw [e]
  unfold uc lf la encT
  rcases (show t % 2 = 0 ∨ t % 2 = 1 by omega) with h | h <;> simp [h]
theorem holdsT {X : Nat → Prop} {w : World} {g c : Nat} {l : List Tm} (h : LB X w (some ⟨g, 0, none⟩) c l) : HoldsK encT 2 w g 0 l.toArray ∧ g < w.heap.size ∧ ∃ N f, RowE w g 39 N f ∧ l.length * 2 ≤ N := by
  rcases Buf.rowE h with ⟨h0, _⟩ | ⟨g', f', h0, -, h1, h3, hr, he⟩
  · cases h0
  · cases h0
    refine ⟨fun j hj => ?_, hr.row.lt, _, _, hr, Nat.mul_le_mul_right _ h1⟩
    rw [size_flatK] at hj
    have hj2 : j < l.length * 2 := by simpa using hj
    have hjc : j < c * 2 := Nat.lt_of_lt_of_le hj2 (Nat.mul_le_mul_right _ h1)
    rw [flatK_get _ _ hj, Nat.zero_add]
    exact ⟨by rw [hr.row.cell hjc, he j hj2]; rfl, hr.row.frozen j⟩
/-- What the sort leaves. -/
theorem sorted_row {w : World} {g N n : Nat} {f : Nat → Value} {d : Array Tm} {os : Array Obj} (hr : RowE w g 39 N f) (hN : d.size * 2 ≤ N) :
    RowE (sortWorldK encT 2 w g 0 n d os) g 39 N (fun i => if i < d.size * 2 then uc (lf d.toList) (la d.toList) i else f i) ∧ Mod (fun b => b = g) w (sortWorldK encT 2 w g 0 n d os) := by
  obtain ⟨c, hc, hs, hv⟩ := hr
  have hlt : g < w.heap.size := (Array.getElem?_eq_some_iff.1 hc).1
  have hh : ∀ i, i < w.heap.size → (sortWorldK encT 2 w g 0 n d os).heap[i]? = if g = i then (w.heap[i]?).map (onCells (putCells id 0 (flatK encT 2 d))) else w.heap[i]? := by
    intro i hi
    show (w.heap.modify g _ ++ os)[i]? = _
    rw [Array.getElem?_append_left (by rw [Array.size_modify]; exact hi), Array.getElem?_modify]
  constructor
  · refine ⟨putCells id 0 (flatK encT 2 d) c, ?_, by simp [putCells, hs], fun i hi => ?_⟩
    · rw [hh g hlt, if_pos rfl, hc]; rfl
    · have hic : i < c.size := by omega
      have hci := hv i hi
      simp only [putCells, Array.getElem?_mapIdx, hci, Option.map_some, Nat.zero_le, true_and, Nat.zero_add, size_flatK, Nat.sub_zero, id]
      by_cases h : i < d.size * 2
      · rw [if_pos h, if_pos h, flatK_get _ _ h]
      · rw [if_neg h, if_neg h]
  · refine ⟨rfl, rfl, rfl, ?_, fun i hi hne => ?_⟩
    · show w.heap.size ≤ (w.heap.modify g _ ++ os).size
      rw [Array.size_append, Array.size_modify]; omega
    · rw [hh i hi, if_neg (fun e => hne e.symm)]
set_option maxHeartbeats 1600000 in
theorem sort_any {X : Nat → Prop} (g c : Nat) (l : List Tm) (w : World) (h : LB X w (some ⟨g, 0, none⟩) c l) (hl : l.length ≤ 20) :
    Calls Try.prog 85 #[.slice (some ⟨g, 0, none⟩) l.length c, .func (.func 57) #[] #[]] w fun e w' => e = .returned (.tuple #[]) ∧ Hid (Row w' g (l.length * 2) (uc (lf (srt l)) (la (srt l))) ∧ Mod (fun b => b = g) w w') := by
  obtain ⟨hH, hlt, N, f, hr, hN⟩ := holdsT h
  have eg : ∀ args w, (callFunc 57 args).run Try.prog w = .ok (.enter 57 args) w := enters_of Try.func57 (by kernel_rfl) rfl
  have hcon := AnyQ.slices_SortFunc Try.sortT 2 Try.isAgg39 Try.sizeOf39 encT (fun _ => rfl) (fun x v hv => by simp [encT] at hv; rcases hv with rfl | rfl <;> rfl) cfT (by rw [ltOf_cfT]; exact swoT) 57 #[] g 0 c l.toArray w eg (fun _ _ _ _ x y => byTime_any x y _) hH hlt (by simp; omega)
  change Calls Try.prog 85 _ _ _ at hcon
  refine hcon.mono ?_
  rintro e w' ⟨rfl, d', n, os, hp, hs, rfl⟩
  rw [ltOf_cfT] at hs
  have hd : d'.toList = srt l := srt_arr hp hs
  have hsz : d'.size = l.length := by rw [← Array.length_toList, hd, srt_len]
  obtain ⟨k1, k2⟩ := sorted_row (n := n) (os := os) (d := d') hr (by omega)
  refine ⟨rfl, ?_, k2⟩
  obtain ⟨cu, hcu, hcs, hcv⟩ := k1
  refine ⟨cu, 39, hcu, by omega, fun i hi => ?_⟩
  rw [hcv i (by omega)]
  dsimp only
  rw [if_pos (by omega), hd]
theorem bits0_any (w : World) : Calls Try.prog 100 #[.int .u64 0] w fun e w' => e = .returned (.int .i64 0) ∧ w' = w := by
  have h := Any.bits_Len (SlLaysF0.n15.bits (P := Try.prog) (ρ := Try.sortT_ren) { Try.sortT with }) 0 w (by omega) (by omega)
  exact h
set_option maxHeartbeats 1600000 in
theorem insSort0_any (w : World) : Calls Try.prog 107 #[.slice none 0 0, .int .i64 0, .int .i64 0, .func (.func 57) #[] #[]] w fun e w' => e = .returned (.tuple #[]) ∧ w' = w := by
  go_enter Try.func107, Try.ntmps107
  go_upto_region 1 with fail
  go_loopw [8] (fun i wr => i = .int .i64 1 ∧ Hid (wr = w)) (fun i _ => 0)
  case atStart => first | exact ⟨rfl, rfl⟩ | exact ⟨rfl, trivial⟩ | trivial
  case round =>
    rename World => wr
    obtain ⟨rfl, hE⟩ := hrel
    have hw := hE.out
    clear hE
    subst hw
    go_wp2_with fail
    first | (refine bodyPost_ret (results_none rfl _ _ _) rfl ?_) | go_end0
    exact ⟨rfl, rfl⟩
set_option maxHeartbeats 1600000 in
theorem pdq0_any (w : World) : Calls Try.prog 99 #[.slice none 0 0, .int .i64 0, .int .i64 0, .int .i64 0, .func (.func 57) #[] #[]] w fun e w' => e = .returned (.tuple #[]) ∧ w' = w := by
  go_enter Try.func99, Try.ntmps99
  go_upto_region 2 with fail
  go_loopw [1, 2, 3, 10] (fun a b c i wr => a = .int .i64 0 ∧ b = .int .i64 0 ∧ c = .int .i64 0 ∧ i = .bool true ∧ Hid (wr = w)) (fun _ _ _ i _ => 0)
  case atStart => first | exact ⟨rfl, rfl, rfl, rfl, rfl⟩ | exact ⟨rfl, rfl, rfl, rfl, trivial⟩ | trivial
  case round =>
    rename World => wr
    obtain ⟨rfl, rfl, rfl, rfl, hE⟩ := hrel
    have hw := hE.out
    clear hE
    subst hw
    go_wp2_with (first | (go_at_call 107; refine (insSort0_any _).mono ?_; rintro e w2 ⟨rfl, rfl⟩) | fail)
    first | (refine bodyPost_ret (results_none rfl _ _ _) rfl ?_) | go_end0
    exact ⟨rfl, rfl⟩
set_option maxHeartbeats 1600000 in
theorem sort0_any (w : World) : Calls Try.prog 85 #[.slice none 0 0, .func (.func 57) #[] #[]] w fun e w' => e = .returned (.tuple #[]) ∧ Blw w w' := by
  go_enter Try.func85, Try.ntmps85
  go_wp2_with (first | (go_at_call 100; refine (bits0_any _).mono ?_; rintro e w2 ⟨rfl, rfl⟩) | (go_at_call 99; refine (pdq0_any _).mono ?_; rintro e w2 ⟨rfl, rfl⟩) | fail)
  first | (refine bodyPost_ret (results_none rfl _ _ _) rfl ?_) | go_end0
  exact ⟨rfl, by first | exact Blw.refl _ | exact (Blw.refl _).drew | exact (Blw.refl _).drewN _⟩
end Go.Proofs.Ytkmkidahaagbpaa
/- All timers in order, as the model tells them. -/
namespace Go.Proofs.Ytkmkidahaagbpaa
open Go.RowKit
set_option linter.unusedSimpArgs false
set_option linter.unusedVariables false
/-- What TimersOf answers. -/
def timersOut (D : WD) (l : List Tm) (b : Bool) : Prop := (GoodD D ∧ l = srt (allR (rows16 D)) ∧ b = true) ∨ (¬ GoodD D ∧ l = [] ∧ b = false)
theorem timersOut_same {D : WD} {l l' : List Tm} {b b' : Bool} (h : timersOut D l b) (h' : timersOut D l' b') : l = l' ∧ b = b' := by
  rcases h with ⟨hp, rfl, rfl⟩ | ⟨hp, rfl, rfl⟩ <;> rcases h' with ⟨hp', rfl, rfl⟩ | ⟨hp', rfl, rfl⟩
  · exact ⟨rfl, rfl⟩
  · exact absurd hp hp'
  · exact absurd hp' hp
  · exact ⟨rfl, rfl⟩
/-- What answers timers and a bool. -/
def GivesT (out : List Tm → Bool → Prop) (w : World) : Ending → World → Prop := fun e w' =>
  ∃ (a : Option Addr) (c m : Nat) (l : List Tm) (b : Bool), e = .returned (.tuple #[.slice a m c, .bool b]) ∧ m = l.length ∧ out l b ∧ l.length ≤ 20 ∧
    UndosOwn (fun x => w.heap.size ≤ x ∧ x < w'.heap.size) w' a l.length (lf l) (la l) ∧ Blw w w'
theorem LB.lt {X : Nat → Prop} {w : World} {a : Option Addr} {c : Nat} {l : List Tm} (h : LB X w a c l) (hn : l.length ≤ 9223372036854775807) : UndosOwn (fun x => X x ∧ x < w.heap.size) w a l.length (lf l) (la l) := by
  have h2 : LB (fun x => X x ∧ x < w.heap.size) w a c l := by
    refine ⟨h.1, fun g hg => ⟨h.2 g hg, ?_⟩⟩
    rcases Buf.rowE h with ⟨h0, h1, h3⟩ | ⟨g', f', h0, -, h1, h3, hr, -⟩
    · subst h0; simp [Value.ownBlock] at hg
    · subst h0
      simp [Value.ownBlock] at hg
      subst hg
      exact hr.row.lt
  exact LB.own h2 hn
set_option maxRecDepth 100000 in
set_option maxHeartbeats 6400000 in
theorem specTimers_any (v : WV) (D : WD) (Y : Nat → Prop) (w : World) (h : WAt Y w v D) (hS : D.small) : Calls Try.prog 16 #[v.val D] w (GivesT (timersOut D) w) := by
  have hb0 : Blw w (w.alloc (.cells #[.int .i64 D.now, .slice v.a1 D.N.n v.c1, .slice v.a2 D.F.n v.c2] 25)) := (Blw.refl _).alloc _
  have r0 := box3 w (.int .i64 D.now) (.slice v.a1 D.N.n v.c1) (.slice v.a2 D.F.n v.c2) 25
  obtain ⟨W0, hW0⟩ : ∃ W0, w.alloc (.cells #[.int .i64 D.now, .slice v.a1 D.N.n v.c1, .slice v.a2 D.F.n v.c2] 25) = W0 := ⟨_, rfl⟩
  rw [hW0] at hb0 r0
  have HGD : Hid (Calls Try.prog 38 #[.agg #[.int .i64 D.now, .slice v.a1 D.N.n v.c1, .slice v.a2 D.F.n v.c2]] W0 (BRes (GoodD D) W0)) := specGood_any v D Y W0 (h.blw hb0) hS
  have HAT : Hid (WAt Y W0 v D) := h.blw hb0
  have HB : Hid (Blw w W0) := hb0
  have HRA : Hid (Row W0 w.heap.size 3 (t3 (.int .i64 D.now) (.slice v.a1 D.N.n v.c1) (.slice v.a2 D.F.n v.c2))) := r0
  clear h hb0 hS
  have a0 : ∀ W, Blw W0 W → W.cell? ⟨w.heap.size, 0, none⟩ = some (.int .i64 D.now) := fun W hb => (get3 (HRA.out.blw hb)).1
  have a1 : ∀ W, Blw W0 W → W.cell? ⟨w.heap.size, 1, none⟩ = some (.slice v.a1 D.N.n v.c1) := fun W hb => (get3 (HRA.out.blw hb)).2.1
  have a2 : ∀ W, Blw W0 W → W.cell? ⟨w.heap.size, 2, none⟩ = some (.slice v.a2 D.F.n v.c2) := fun W hb => (get3 (HRA.out.blw hb)).2.2
  have hrefl : Blw W0 W0 := Blw.refl _
  by_cases hg : GoodD D
  · have hn8 : D.N.n = 8 := hg.n
    have hf8 : D.F.n = 8 := hg.f
    have hwr0 : WRows Y W0 v D (rows16 D) := HAT.out.rows hn8 hf8
    have hall : (allS 8 (rows16 D)).length ≤ 20 := by rw [(allS_perm (rows16 D)).length_eq]; exact hg.g.len
    have HAL : Hid (∀ W, Blw W0 W → Calls Try.prog 58 #[.agg #[.int .i64 D.now, .slice v.a1 D.N.n v.c1, .slice v.a2 D.F.n v.c2]] W fun e w' => ∃ a c, e = .returned (.slice a (allS 8 (rows16 D)).length c) ∧ Hid (LB (fun b => W.heap.size ≤ b ∧ b < w'.heap.size) w' a c (allS 8 (rows16 D)) ∧ Blw W w')) := fun W hb => l11All_any v D.now D.N D.F (rows16 D) Y W hn8 hf8 (hwr0.blw hb) (by omega)
    have HSRT : Hid (srt (allS 8 (rows16 D)) = srt (allR (rows16 D))) := srt_perm (allS_perm (rows16 D))
    obtain ⟨L, hL⟩ : ∃ L, allS 8 (rows16 D) = L := ⟨_, rfl⟩
    rw [hL] at HAL hall HSRT
    clear hL hwr0 hn8 hf8
    have G : Hid (GoodD D) := hg
    clear hg
    go_enter Try.func16, Try.ntmps16
    go_upto_region 1 with fail
    try simp only [hW0]
    clear hW0 r0
    go_upto_region 4 with (first | (go_at_call 38; refine HGD.out.mono ?_; rintro e w1 ⟨q1, rfl, hq1, hbw1⟩; obtain rfl : q1 = true := hq1.2 G.out; clear hq1) | fail)
    clear HGD
    go_upto_region 5 with (first | (go_at_call 58; refine (HAL.out _ hbw1).mono ?_; rintro e w2 hE2; obtain ⟨aL, cL, rfl, hE⟩ : ∃ a c, e = .returned (.slice a L.length c) ∧ Hid (LB (fun b => w1.heap.size ≤ b ∧ b < w2.heap.size) w2 a c L ∧ Blw w1 w2) := hE2) | fail)
    have HB2 : Hid (Blw W0 w2) := hbw1.trans hE.out.2
    have HUL : Hid (UndosAt (fun b => b < w2.heap.size) w2 aL L.length (lf L) (la L)) := (LB.at hE.out.1 (by omega)).mono (fun b hb => hb.2)
    clear hE HAL hbw1 a0 a1 a2
    go_loopw [4, 15] (fun s4 i wr => ∃ (j n : Nat) (a : Option Addr) (c : Nat), j ≤ L.length ∧ i = .int .i64 j ∧ s4 = .slice a n c ∧ n = ((L.take j).foldl ins2 []).length ∧ Hid (LB (fun b => w2.heap.size ≤ b) wr a c ((L.take j).foldl ins2 []) ∧ Blw w2 wr)) (fun _ i _ => L.length - (intOf i).toNat)
    case atStart => exact ⟨0, 0, none, 0, Nat.zero_le _, rfl, rfl, by simp, ⟨(show LB _ _ none 0 [] from Buf.nil _ _ _ _ _), Blw.refl _⟩⟩
    case round =>
      rename World => wr
      obtain ⟨j, n, ao, c, hj, rfl, rfl, hn, hE⟩ := hrel
      by_cases hjl : j < L.length
      · have HF0 : Hid ((L.take (j + 1)).foldl ins2 [] = ins2 ((L.take j).foldl ins2 []) (nth L j)) := take_fold hjl
        have hl20 : ((L.take j).foldl ins2 []).length ≤ 20 := by rw [fold_len]; simp; omega
        generalize (L.take j).foldl ins2 [] = l at *
        subst hn
        have HLN : Hid (l.length ≤ 20) := hl20
        have HWR : Hid (Blw w2 wr) := hE.out.2
        have HSZ : Hid (w2.heap.size ≤ wr.heap.size) := hE.out.2.size
        have HLB : Hid (LB (fun b => w2.heap.size ≤ b) wr ao c l) := hE.out.1
        clear hE hl20
        obtain ⟨bb, oo, rfl, -, g0, g1⟩ := (HUL.out.blw HWR.out).2 j hjl
        simp only [lf, la] at g0 g1
        have hba : Blw wr (wr.alloc (.cells #[.int .i64 (nth L j).1, .int .i64 (nth L j).2] 39)) := (Blw.refl _).alloc _
        have hbx := box2 wr (.int .i64 (nth L j).1) (.int .i64 (nth L j).2) 39
        have HF9 : Hid ((ins2 l (nth L j)).length = ((L.take (j + 1)).foldl ins2 []).length) := by show _ = _; rw [HF0.out]
        rcases Buf.rowE HLB.out with ⟨h0, h1, h3⟩ | ⟨g', f', h0, -, h1, h3, -⟩
        · obtain rfl := List.length_eq_zero_iff.1 h1
          subst h0 h3
          clear h1
          go_upto_region 7 with fail
          clear g0 g1
          obtain ⟨zb, hzb⟩ : ∃ zb, wr.heap.size = zb := ⟨_, rfl⟩
          rw [hzb] at hbx
          generalize wr.alloc (.cells #[.int .i64 (nth L j).1, .int .i64 (nth L j).2] 39) = W2 at *
          rw [hzb]
          clear hzb
          have HB0 : Hid (Blw wr W2) := hba
          have HBX : Hid (Row W2 zb 2 (fun i => if i = 0 then Value.int .i64 (nth L j).1 else .int .i64 (nth L j).2)) := hbx
          clear hba hbx
          go_upto_region 8 with fail
          go_loopw [7] (fun i wq => i = .int .i64 0 ∧ Hid (Blw W2 wq)) (fun i _ => 1)
          case atStart => exact ⟨rfl, Blw.refl _⟩
          case round =>
            rename World => wq
            obtain ⟨rfl, hB⟩ := hrel
            go_upto_region 8 with fail
            go_cut [52] from 19 to 52 (fun s20 wx => s20 = .bool false ∧ Hid (Blw W2 wx))
            case first =>
              go_quiet (fail)
              go_wp2_with fail
              go_meet
              exact ⟨rfl, hB.out.drewN _⟩
            case rest =>
              obtain ⟨rfl, hcw0⟩ := hcut
              have hcw := HB0.out.trans hcw0.out
              have HBX : Hid (Row wc zb 2 (fun i => if i = 0 then Value.int .i64 (nth L j).1 else .int .i64 (nth L j).2)) := HBX.out.blw hcw0.out
              have hszw := hcw.size
              have hlit : LB (fun b => b = wc.heap.size) (wc.alloc (.cells #[] 39)) (some ⟨wc.heap.size, 0, none⟩) 0 [] := Buf.litE (heap_alloc_new wc (.cells #[] 39)) 2 _
              obtain ⟨x1, d1, v1, hrun1, hB1, hm1⟩ := LB.app hlit (m := []) 0 (UndosAt.none0 (fun _ => False) _ none _ _) (by simp) 31
              have hbv1 : Blw wr v1 := Mod.blw (hcw.alloc _) hm1 (fun i e => by simp [Value.ownBlock] at e; omega)
              have hB1' : LB (fun b => wr.heap.size ≤ b) v1 x1 d1 [] := hB1.mono (fun b hb => by rcases hb.1 with h6 | h6; (have h7 : b = wc.heap.size := h6; omega); (have h7 : b = wc.heap.size + 1 := by rw [h6, World.size_alloc]); omega)
              have hwv1 : Blw wc v1 := Mod.blw ((Blw.refl wc).alloc _) hm1 (fun i e => by simp [Value.ownBlock] at e; omega)
              obtain ⟨y0, y1⟩ := get2 (HBX.out.blw hwv1)
              have hs1 := hbv1.size
              obtain ⟨x2, d2, v2, hrun2, hB2, hm2⟩ := LB.app (hB1'.blw ((Blw.refl v1).alloc (.cells #[.int .i64 (nth L j).1, .int .i64 (nth L j).2] 39))) (m := [(nth L j)]) 1 (one_tm v1 (nth L j)) (by simp) 31
              have hbv2 : Blw wr v2 := Mod.blw (hbv1.alloc _) hm2 (fun i e => hB1'.2 i e)
              have hB2' : LB (fun b => wr.heap.size ≤ b) v2 x2 d2 [(nth L j)] := hB2.mono (fun b hb => by rcases hb.1 with h6 | h6; exact h6; (have h7 : b = v1.heap.size + 1 := by rw [h6, World.size_alloc]); omega)
              have hs2 := hbv2.size
              obtain ⟨x3, d3, v3, hrun3, hB3, hm3⟩ := LB.app hB2' (m := []) 0 (UndosAt.none0 (fun _ => False) _ none _ _) (by simp) 31
              have hFIN : Hid (LB (fun b => wr.heap.size ≤ b) v3 x3 d3 [(nth L j)] ∧ Blw wr v3) := ⟨hB3.mono (fun b hb => by rcases hb.1 with h6 | h6; exact h6; omega), Mod.blw hbv2 hm3 (fun i e => hB2'.2 i e)⟩
              simp only [List.length_nil, List.length_singleton, List.nil_append, List.append_nil] at hrun1 hrun2 hrun3
              clear hm1 hm2 hm3 hB1 hB1' hB2 hB2' hB3 hlit hbv1 hbv2 hs1 hs2 hszw hwv1
              go_wp2_with (first | (at_builtin; refine wpList_append_run rfl _ _ 31 rfl _ _ rfl rfl hrun1 ?_; clear hrun1) | (at_builtin; refine wpList_append_run rfl _ _ 31 rfl _ _ rfl rfl hrun2 ?_; clear hrun2) | (at_builtin; refine wpList_append_run rfl _ _ 31 rfl _ _ rfl rfl hrun3 ?_) | fail)
              go_roundw
              case rel =>
                have h9 : LB (fun b => w2.heap.size ≤ b) v3 x3 d3 (ins2 [] (nth L j)) := hFIN.out.1.mono (fun b hb => by have := HSZ.out; omega)
                rw [← HF0.out] at h9
                exact ⟨j + 1, _, x3, d3, by omega, by go_num, rfl, HF9.out, ⟨h9, HWR.out.trans hFIN.out.2⟩⟩
              case measure => simp [intOf]; omega
        · subst h0
          have HU : Hid (UndosAt (fun b => w2.heap.size ≤ b) wr (some ⟨g', 0, none⟩) l.length (lf l) (la l)) := LB.at HLB.out (by have := HLN.out; omega)
          have HC : Hid (l.length ≤ c ∧ c ≤ maxLen) := ⟨h1, h3⟩
          clear h1 h3
          go_upto_region 7 with fail
          clear g0 g1
          obtain ⟨zb, hzb⟩ : ∃ zb, wr.heap.size = zb := ⟨_, rfl⟩
          rw [hzb] at hbx
          generalize wr.alloc (.cells #[.int .i64 (nth L j).1, .int .i64 (nth L j).2] 39) = W2 at *
          rw [hzb]
          clear hzb
          have HB0 : Hid (Blw wr W2) := hba
          have HBX : Hid (Row W2 zb 2 (fun i => if i = 0 then Value.int .i64 (nth L j).1 else .int .i64 (nth L j).2)) := hbx
          clear hba hbx
          go_upto_region 8 with fail
          go_loopw [7] (fun i wq => ∃ p : Nat, p ≤ l.length ∧ i = .int .i64 p ∧ Hid (p ≤ pos2 l (nth L j)) ∧ Hid (Blw W2 wq)) (fun i _ => l.length - (intOf i).toNat)
          case atStart => exact ⟨0, Nat.zero_le _, rfl, Nat.zero_le _, Blw.refl _⟩
          case round =>
            rename World => wq
            obtain ⟨p, hp, rfl, hpp, hB⟩ := hrel
            have hpb : p ≤ 20 := by have := HLN.out; omega
            by_cases hcc : p < l.length ∧ LtT (nth l p) (nth L j)
            · have hlt := hcc.1
              have HLT : Hid (LtT (nth l p) (nth L j)) := hcc.2
              clear hcc
              go_upto_region 8 with fail
              go_cut [52] from 19 to 52 (fun s20 wx => s20 = .bool true ∧ Hid (Blw W2 wx))
              case first =>
                by_cases h2 : (nth l p).2 < (nth L j).2
                · obtain ⟨bb, oo, e, -, g0, g1⟩ := (HU.out.blw (HB0.out.trans hB.out)).2 p hlt
                  cases e
                  simp only [lf, la] at g0 g1
                  rw [Nat.zero_add] at g0 g1
                  obtain ⟨q0, q1⟩ := get2 (HBX.out.blw hB.out)
                  have hd1 : decide ((p : Int) < (l.length : Int)) = true := decide_eq_true (by omega)
                  have hd2 : decide ((nth l p).2 < (nth L j).2) = true := decide_eq_true h2
                  clear h2 g0
                  go_quiet (fail)
                  go_wp2_with fail
                  go_meet
                  exact ⟨rfl, hB.out.drewN _⟩
                · obtain ⟨h3, h4⟩ : (nth l p).2 = (nth L j).2 ∧ (nth l p).1 < (nth L j).1 := by have h5 := HLT.out; unfold LtT at h5; omega
                  have h2 : ¬ (nth l p).2 < (nth L j).2 := by omega
                  obtain ⟨bb, oo, e, -, g0, g1⟩ := (HU.out.blw (HB0.out.trans hB.out)).2 p hlt
                  cases e
                  simp only [lf, la] at g0 g1
                  rw [Nat.zero_add] at g0 g1
                  obtain ⟨q0, q1⟩ := get2 (HBX.out.blw hB.out)
                  have hd1 : decide ((p : Int) < (l.length : Int)) = true := decide_eq_true (by omega)
                  have hd2 : decide ((nth l p).2 < (nth L j).2) = false := decide_eq_false h2
                  have hd3 : ((nth l p).2 == (nth L j).2) = true := by simp [h3]
                  have hd3b : decide ((nth l p).2 = (nth L j).2) = true := by simp [h3]
                  have hd4 : decide ((nth l p).1 < (nth L j).1) = true := decide_eq_true h4
                  clear h2 h3 h4
                  go_quiet (fail)
                  go_wp2_with fail
                  go_meet
                  exact ⟨rfl, hB.out.drewN _⟩
              case rest =>
                obtain ⟨rfl, hcw⟩ := hcut
                have hnp : Hid (p + 1 ≤ pos2 l (nth L j)) := by
                  rcases Nat.lt_or_eq_of_le hpp.out with h5 | h5
                  · exact h5
                  · exact absurd HLT.out (h5 ▸ at_pos2 (l := l) (t := nth L j) (by omega))
                clear hB
                go_wp2_with fail
                go_roundw
                case rel => exact ⟨p + 1, by omega, by go_num, hnp, hcw.out⟩
                case measure => simp [intOf]; omega
            · have HNC : Hid (¬ (p < l.length ∧ LtT (nth l p) (nth L j))) := hcc
              clear hcc
              go_upto_region 8 with fail
              go_cut [52] from 19 to 52 (fun s20 wx => s20 = .bool false ∧ Hid (Blw W2 wx))
              case first =>
                by_cases hlt : p < l.length
                · have h2 : ¬ (nth l p).2 < (nth L j).2 := fun h5 => HNC.out ⟨hlt, Or.inl h5⟩
                  by_cases h3 : (nth l p).2 = (nth L j).2
                  · have h4 : ¬ (nth l p).1 < (nth L j).1 := fun h5 => HNC.out ⟨hlt, Or.inr ⟨h3, h5⟩⟩
                    obtain ⟨bb, oo, e, -, g0, g1⟩ := (HU.out.blw (HB0.out.trans hB.out)).2 p hlt
                    cases e
                    simp only [lf, la] at g0 g1
                    rw [Nat.zero_add] at g0 g1
                    obtain ⟨q0, q1⟩ := get2 (HBX.out.blw hB.out)
                    have hd1 : decide ((p : Int) < (l.length : Int)) = true := decide_eq_true (by omega)
                    have hd2 : decide ((nth l p).2 < (nth L j).2) = false := decide_eq_false h2
                    have hd3 : ((nth l p).2 == (nth L j).2) = true := by simp [h3]
                    have hd3b : decide ((nth l p).2 = (nth L j).2) = true := by simp [h3]
                    have hd4 : decide ((nth l p).1 < (nth L j).1) = false := decide_eq_false h4
                    clear h2 h3 h4
                    go_quiet (fail)
                    go_wp2_with fail
                    go_meet
                    exact ⟨rfl, hB.out.drewN _⟩
                  · obtain ⟨bb, oo, e, -, g0, g1⟩ := (HU.out.blw (HB0.out.trans hB.out)).2 p hlt
                    cases e
                    simp only [lf, la] at g0 g1
                    rw [Nat.zero_add] at g0 g1
                    obtain ⟨q0, q1⟩ := get2 (HBX.out.blw hB.out)
                    have hd1 : decide ((p : Int) < (l.length : Int)) = true := decide_eq_true (by omega)
                    have hd2 : decide ((nth l p).2 < (nth L j).2) = false := decide_eq_false h2
                    have hd3 : ((nth l p).2 == (nth L j).2) = false := by simp [h3]
                    have hd3b : decide ((nth l p).2 = (nth L j).2) = false := by simp [h3]
                    clear h2 h3 g0
                    go_quiet (fail)
                    go_wp2_with fail
                    go_meet
                    exact ⟨rfl, hB.out.drewN _⟩
                · have hd1 : decide ((p : Int) < (l.length : Int)) = false := decide_eq_false (by omega)
                  go_quiet (fail)
                  go_wp2_with fail
                  go_meet
                  exact ⟨rfl, hB.out.drewN _⟩
              case rest =>
                obtain ⟨rfl, hcw0⟩ := hcut
                have hnp : p = pos2 l (nth L j) := by
                  rcases Nat.lt_or_eq_of_le hpp.out with h5 | h5
                  · have h6 := pos2_le l (nth L j)
                    exact absurd ⟨by omega, lt_pos2 h5⟩ HNC.out
                  · exact h5
                have hpl : l.take p ++ [(nth L j)] ++ l.drop p = ins2 l (nth L j) := by rw [ins2_eq, ← hnp]
                have HPL : Hid (l.take p ++ [(nth L j)] ++ l.drop p = ins2 l (nth L j)) := hpl
                clear hpl
                have hcw := HB0.out.trans hcw0.out
                have hpc : p ≤ c := by have := HC.out; omega
                have hcm := HC.out.2
                have HBX : Hid (Row wc zb 2 (fun i => if i = 0 then Value.int .i64 (nth L j).1 else .int .i64 (nth L j).2)) := HBX.out.blw hcw0.out
                clear hnp hpp hB
                by_cases hcp : c = p
                · have hcp2 := HC.out.1
                  obtain rfl : p = l.length := by omega
                  obtain rfl : c = l.length := hcp
                  clear hcp2
                  have hbw : Blw wr wc := hcw
                  have hA1 : Blw wr (wc.alloc (.cells #[] 39)) := hbw.alloc _
                  have hlit : LB (fun b => b = wc.heap.size) (wc.alloc (.cells #[] 39)) (some ⟨wc.heap.size, 0, none⟩) 0 [] := Buf.litE (heap_alloc_new wc (.cells #[] 39)) 2 _
                  have hszw := hbw.size
                  obtain ⟨x1, d1, v1, hrun1, hB1, hm1⟩ := LB.app hlit (m := l.take l.length) l.length ((HU.out.blw hA1).take _) (by have h5 := HLN.out; have h6 : (l.take l.length).length ≤ l.length := (by rw [List.length_take]; omega); simp only [List.length_nil]; omega) 31
                  rw [List.nil_append] at hrun1 hB1
                  simp only [List.length_nil] at hrun1
                  have hbv1 : Blw wr v1 := Mod.blw hA1 hm1 (fun i e => by simp [Value.ownBlock] at e; omega)
                  have hB1' : LB (fun b => wr.heap.size ≤ b) v1 x1 d1 (l.take l.length) := hB1.mono (fun b hb => by rcases hb.1 with h6 | h6; (have h7 : b = wc.heap.size := h6; omega); (have h7 : b = wc.heap.size + 1 := by rw [h6, World.size_alloc]); omega)
                  have hs1 := hbv1.size
                  obtain ⟨x2, d2, v2, hrun2, hB2, hm2⟩ := LB.app (hB1'.blw ((Blw.refl v1).alloc (.cells #[.int .i64 (nth L j).1, .int .i64 (nth L j).2] 39))) (m := [(nth L j)]) 1 (one_tm v1 (nth L j)) (by have h5 := HLN.out; have h6 : (l.take l.length).length ≤ l.length := (by rw [List.length_take]; omega); simp only [List.length_singleton]; omega) 31
                  have hbv2 : Blw wr v2 := Mod.blw (hbv1.alloc _) hm2 (fun i e => hB1'.2 i e)
                  have hB2' : LB (fun b => wr.heap.size ≤ b) v2 x2 d2 (l.take l.length ++ [(nth L j)]) := hB2.mono (fun b hb => by rcases hb.1 with h6 | h6; exact h6; (have h7 : b = v1.heap.size + 1 := by rw [h6, World.size_alloc]); omega)
                  obtain ⟨x3, d3, v3, hrun3, hB3, hm3⟩ := LB.app hB2' (m := l.drop l.length) (0) ((HU.out.blw hbv2).drop (q := 0) (fun h5 => by omega)) (by have h5 := HLN.out; have h6 : (l.take l.length).length ≤ l.length := (by rw [List.length_take]; omega); have h7 : (l.drop l.length).length ≤ l.length := (by rw [List.length_drop]; omega); simp only [List.length_append, List.length_singleton]; omega) 31
                  have hs2 := hbv2.size
                  have hFIN : Hid (LB (fun b => wr.heap.size ≤ b) v3 x3 d3 (l.take l.length ++ [(nth L j)] ++ l.drop l.length) ∧ Blw wr v3) := ⟨hB3.mono (fun b hb => by rcases hb.1 with h6 | h6; exact h6; omega), Mod.blw hbv2 hm3 (fun i e => hB2'.2 i e)⟩
                  rw [HPL.out] at hFIN hrun3
                  have hlt9 : (l.take l.length).length = l.length := by rw [List.length_take]; omega
                  have hld : (l.drop l.length).length = 0 := by rw [List.length_drop]; omega
                  rw [hlt9] at hrun1 hrun2
                  rw [hld] at hrun3
                  simp only [List.length_singleton] at hrun2
                  obtain ⟨L2, hL2⟩ : ∃ L2, l.take l.length ++ [(nth L j)] = L2 := ⟨_, rfl⟩
                  rw [hL2] at hrun2 hrun3
                  have hwv1 : Blw wc v1 := Mod.blw ((Blw.refl wc).alloc _) hm1 (fun i e => by simp [Value.ownBlock] at e; omega)
                  obtain ⟨y0, y1⟩ := get2 (HBX.out.blw hwv1)
                  clear hwv1 hm1 hm2 hm3 hB1 hB1' hB2 hB2' hB3 hlit hA1 hbv1 hbv2 hs1 hs2 hszw hL2 hlt9 hld hbw
                  have hp0 : (0 : Int) ≤ (l.length : Nat) := by omega
                  have hp1 : ((l.length : Nat) : Int) ≤ (l.length : Int) := by omega
                  go_wp2_with (first | (at_builtin; refine wpList_append_run rfl _ _ 31 rfl _ _ rfl rfl hrun1 ?_; clear hrun1) | (at_builtin; refine wpList_append_run rfl _ _ 31 rfl _ _ rfl rfl hrun2 ?_; clear hrun2) | (at_builtin; refine wpList_append_run rfl _ _ 31 rfl _ _ rfl rfl hrun3 ?_) | fail)
                  go_roundw
                  case rel =>
                    have h9 : LB (fun b => w2.heap.size ≤ b) v3 x3 d3 (ins2 l (nth L j)) := hFIN.out.1.mono (fun b hb => by have := HSZ.out; omega)
                    rw [← HF0.out] at h9
                    exact ⟨j + 1, _, x3, d3, by omega, by go_num, rfl, HF9.out, ⟨h9, HWR.out.trans hFIN.out.2⟩⟩
                  case measure => simp [intOf]; omega
                · have hbw : Blw wr wc := hcw
                  have hA1 : Blw wr (wc.alloc (.cells #[] 39)) := hbw.alloc _
                  have hlit : LB (fun b => b = wc.heap.size) (wc.alloc (.cells #[] 39)) (some ⟨wc.heap.size, 0, none⟩) 0 [] := Buf.litE (heap_alloc_new wc (.cells #[] 39)) 2 _
                  have hszw := hbw.size
                  obtain ⟨x1, d1, v1, hrun1, hB1, hm1⟩ := LB.app hlit (m := l.take p) c ((HU.out.blw hA1).take _) (by have h5 := HLN.out; have h6 : (l.take p).length ≤ l.length := (by rw [List.length_take]; omega); simp only [List.length_nil]; omega) 31
                  rw [List.nil_append] at hrun1 hB1
                  simp only [List.length_nil] at hrun1
                  have hbv1 : Blw wr v1 := Mod.blw hA1 hm1 (fun i e => by simp [Value.ownBlock] at e; omega)
                  have hB1' : LB (fun b => wr.heap.size ≤ b) v1 x1 d1 (l.take p) := hB1.mono (fun b hb => by rcases hb.1 with h6 | h6; (have h7 : b = wc.heap.size := h6; omega); (have h7 : b = wc.heap.size + 1 := by rw [h6, World.size_alloc]); omega)
                  have hs1 := hbv1.size
                  obtain ⟨x2, d2, v2, hrun2, hB2, hm2⟩ := LB.app (hB1'.blw ((Blw.refl v1).alloc (.cells #[.int .i64 (nth L j).1, .int .i64 (nth L j).2] 39))) (m := [(nth L j)]) 1 (one_tm v1 (nth L j)) (by have h5 := HLN.out; have h6 : (l.take p).length ≤ l.length := (by rw [List.length_take]; omega); simp only [List.length_singleton]; omega) 31
                  have hbv2 : Blw wr v2 := Mod.blw (hbv1.alloc _) hm2 (fun i e => hB1'.2 i e)
                  have hB2' : LB (fun b => wr.heap.size ≤ b) v2 x2 d2 (l.take p ++ [(nth L j)]) := hB2.mono (fun b hb => by rcases hb.1 with h6 | h6; exact h6; (have h7 : b = v1.heap.size + 1 := by rw [h6, World.size_alloc]); omega)
                  obtain ⟨x3, d3, v3, hrun3, hB3, hm3⟩ := LB.app hB2' (m := l.drop p) (c - p) ((HU.out.blw hbv2).drop (q := (p * 2)) (fun h5 => by omega)) (by have h5 := HLN.out; have h6 : (l.take p).length ≤ l.length := (by rw [List.length_take]; omega); have h7 : (l.drop p).length ≤ l.length := (by rw [List.length_drop]; omega); simp only [List.length_append, List.length_singleton]; omega) 31
                  have hs2 := hbv2.size
                  have hFIN : Hid (LB (fun b => wr.heap.size ≤ b) v3 x3 d3 (l.take p ++ [(nth L j)] ++ l.drop p) ∧ Blw wr v3) := ⟨hB3.mono (fun b hb => by rcases hb.1 with h6 | h6; exact h6; omega), Mod.blw hbv2 hm3 (fun i e => hB2'.2 i e)⟩
                  rw [HPL.out] at hFIN hrun3
                  have hlt9 : (l.take p).length = p := by rw [List.length_take]; omega
                  have hld : (l.drop p).length = l.length - p := by rw [List.length_drop]
                  rw [hlt9] at hrun1 hrun2
                  rw [hld] at hrun3
                  simp only [List.length_singleton] at hrun2
                  obtain ⟨L2, hL2⟩ : ∃ L2, l.take p ++ [(nth L j)] = L2 := ⟨_, rfl⟩
                  rw [hL2] at hrun2 hrun3
                  have hwv1 : Blw wc v1 := Mod.blw ((Blw.refl wc).alloc _) hm1 (fun i e => by simp [Value.ownBlock] at e; omega)
                  obtain ⟨y0, y1⟩ := get2 (HBX.out.blw hwv1)
                  clear hwv1 hm1 hm2 hm3 hB1 hB1' hB2 hB2' hB3 hlit hA1 hbv1 hbv2 hs1 hs2 hszw hL2 hlt9 hld hbw
                  have hp0 : (0 : Int) ≤ (p : Nat) := by omega
                  have hp1 : ((p : Nat) : Int) ≤ (l.length : Int) := by omega
                  go_wp2_with (first | (at_builtin; refine wpList_append_run rfl _ _ 31 rfl _ _ rfl rfl hrun1 ?_; clear hrun1) | (at_builtin; refine wpList_append_run rfl _ _ 31 rfl _ _ rfl rfl hrun2 ?_; clear hrun2) | (at_builtin; refine wpList_append_run rfl _ _ 31 rfl _ _ rfl rfl hrun3 ?_) | fail)
                  go_roundw
                  case rel =>
                    have h9 : LB (fun b => w2.heap.size ≤ b) v3 x3 d3 (ins2 l (nth L j)) := hFIN.out.1.mono (fun b hb => by have := HSZ.out; omega)
                    rw [← HF0.out] at h9
                    exact ⟨j + 1, _, x3, d3, by omega, by go_num, rfl, HF9.out, ⟨h9, HWR.out.trans hFIN.out.2⟩⟩
                  case measure => simp [intOf]; omega
      · obtain rfl : j = L.length := by omega
        rw [List.take_length, fold_srt, HSRT.out] at hE hn
        subst hn
        have hl20 : (srt (allR (rows16 D))).length ≤ 20 := by rw [srt_len]; exact G.out.g.len
        have HFB : Hid (Blw w w2 ∧ w.heap.size ≤ w2.heap.size) := ⟨HB.out.trans HB2.out, (HB.out.trans HB2.out).size⟩
        have HTO : Hid (timersOut D (srt (allR (rows16 D))) true) := Or.inl ⟨G.out, rfl, rfl⟩
        generalize srt (allR (rows16 D)) = l at *
        have HL20 : Hid (l.length ≤ 20) := hl20
        go_wp2_with fail
        go_ret2
        exact ⟨ao, c, l.length, l, true, rfl, rfl, HTO.out, HL20.out, (LB.lt hE.out.1 (by have := HL20.out; omega)).mono (fun b hb => ⟨by have := HFB.out.2; have := hb.1; omega, hb.2⟩), HFB.out.1.trans hE.out.2⟩
  · have NG : Hid (¬ GoodD D) := hg
    clear hg
    go_enter Try.func16, Try.ntmps16
    go_upto_region 1 with fail
    try simp only [hW0]
    clear hW0 r0
    go_wp2_with (first | (go_at_call 38; refine HGD.out.mono ?_; rintro e w1 ⟨q1, rfl, hq1, hbw1⟩; obtain rfl : q1 = false := (by cases q1; rfl; exact absurd (hq1.1 rfl) NG.out); clear hq1) | fail)
    go_ret2
    exact ⟨none, 0, 0, [], false, rfl, rfl, Or.inr ⟨NG.out, rfl, rfl⟩, by simp, UndosOwn.nil _ _ _ _ _, HB.out.trans hbw1⟩
end Go.Proofs.Ytkmkidahaagbpaa
/- TimersOf of the program. -/
namespace Go.Proofs.Ytkmkidahaagbpaa
open Go.RowKit
set_option linter.unusedSimpArgs false
set_option linter.unusedVariables false
theorem collect_any (Bs nR cR : Nat) (ao : Option Addr) (R : Rws) (Y : Nat → Prop) (w : World) (hY : ∀ b, Y b → b < w.heap.size) (hBs : w.cell? ⟨Bs, 0, none⟩ = some (.slice ao nR cR)) (hp : PSAt Y w ao (pdn nR R)) (hl : (allN nR R).length ≤ 20) :
    Calls Try.prog 84 #[.func (.func 86) #[] #[.pointer (some ⟨Bs, 0, none⟩)]] w fun e w' => ∃ a c, e = .returned (.slice a (allN nR R).length c) ∧ Hid (LB (fun b => w.heap.size ≤ b) w' a c (allN nR R) ∧ Blw w w') := by
  have HH : Hid (Calls Try.prog 98 #[.slice none 0 0, .func (.func 86) #[] #[.pointer (some ⟨Bs, 0, none⟩)]] w fun e w' => ∃ a c, e = .returned (.slice a (allN nR R).length c) ∧ Hid (LB (fun b => w.heap.size ≤ b) w' a c (allN nR R) ∧ Blw w w')) := appendSeq_any Bs nR cR ao R Y w hY hBs hp hl
  obtain ⟨l, hl⟩ : ∃ l, allN nR R = l := ⟨_, rfl⟩
  rw [hl] at HH ⊢
  clear hl hBs hp
  go_enter Try.func84, Try.ntmps84
  go_wp2_with (first | (go_at_call 98; refine HH.out.mono ?_; rintro e w2 ⟨a, c, rfl, hE⟩) | fail)
  go_ret
  exact ⟨a, c, rfl, hE.out⟩
set_option maxHeartbeats 1600000 in
theorem sortedFunc_any (Bs nR cR : Nat) (ao : Option Addr) (R : Rws) (Y : Nat → Prop) (w : World) (hY : ∀ b, Y b → b < w.heap.size) (hBs : w.cell? ⟨Bs, 0, none⟩ = some (.slice ao nR cR)) (hp : PSAt Y w ao (pdn nR R)) (hl : (allN nR R).length ≤ 20) :
    Calls Try.prog 55 #[.func (.func 86) #[] #[.pointer (some ⟨Bs, 0, none⟩)], .func (.func 57) #[] #[]] w fun e w' => ∃ a c, e = .returned (.slice a (allN nR R).length c) ∧ Hid (UndosOwn (fun b => w.heap.size ≤ b ∧ b < w'.heap.size) w' a (allN nR R).length (lf (srt (allN nR R))) (la (srt (allN nR R))) ∧ Blw w w') := by
  have HCO : Hid (Calls Try.prog 84 #[.func (.func 86) #[] #[.pointer (some ⟨Bs, 0, none⟩)]] w fun e w' => ∃ a c, e = .returned (.slice a (allN nR R).length c) ∧ Hid (LB (fun b => w.heap.size ≤ b) w' a c (allN nR R) ∧ Blw w w')) := collect_any Bs nR cR ao R Y w hY hBs hp hl
  obtain ⟨l, hL⟩ : ∃ l, allN nR R = l := ⟨_, rfl⟩
  rw [hL] at HCO hl ⊢
  have HL : Hid (l.length ≤ 20) := hl
  clear hL hBs hp
  have HSRT : ∀ (a : Option Addr) (c : Nat) (W : World), LB (fun b => w.heap.size ≤ b) W a c l → Hid (Calls Try.prog 85 #[.slice a l.length c, .func (.func 57) #[] #[]] W fun e w' => e = .returned (.tuple #[]) ∧ Hid (UndosOwn (fun b => w.heap.size ≤ b ∧ b < w'.heap.size) w' a l.length (lf (srt l)) (la (srt l)) ∧ (Blw w W → Blw w w'))) := by
    intro a c W h
    rcases Buf.rowE h with ⟨rfl, h1, rfl⟩ | ⟨g', f', rfl, hg, h1, h3, hr, -⟩
    · obtain rfl := List.length_eq_zero_iff.1 h1
      exact (sort0_any W).mono (by rintro e w' ⟨rfl, hb⟩; exact ⟨rfl, UndosOwn.nil _ _ _ _ _, fun h => h.trans hb⟩)
    · refine (sort_any g' c l W h HL.out).mono ?_
      rintro e w' ⟨rfl, hE⟩
      exact ⟨rfl, ⟨by have := HL.out; omega, fun _ => ⟨g', ⟨hg, hE.out.1.lt⟩, rfl, hE.out.1⟩⟩, fun hb => Mod.blw hb hE.out.2 (fun i e => by rw [e]; exact hg)⟩
  go_enter Try.func55, Try.ntmps55
  go_wp2_with (first | (go_at_call 84; refine HCO.out.mono ?_; rintro e w2 ⟨a, c, rfl, hE⟩) | (go_at_call 85; refine (HSRT a c _ hE.out.1).out.mono ?_; rintro e w3 ⟨rfl, hE3⟩) | fail)
  go_ret
  exact ⟨a, c, rfl, ⟨hE3.out.1, hE3.out.2 hE.out.2⟩⟩
set_option maxRecDepth 10000 in
set_option maxHeartbeats 3200000 in
theorem implTimers_any (v : WV) (D : WD) (Y : Nat → Prop) (w : World) (h : WAt Y w v D) (hY : ∀ b, Y b → b < w.heap.size) (hwf : D.wf) : Calls Try.prog 15 #[v.val D] w (GivesT (timersOut D) w) := by
  have hb0 : Blw w (w.alloc (.cells #[.int .i64 D.now, .slice v.a1 D.N.n v.c1, .slice v.a2 D.F.n v.c2] 25)) := (Blw.refl _).alloc _
  have r0 := box3 w (.int .i64 D.now) (.slice v.a1 D.N.n v.c1) (.slice v.a2 D.F.n v.c2) 25
  obtain ⟨W0, hW0⟩ : ∃ W0, w.alloc (.cells #[.int .i64 D.now, .slice v.a1 D.N.n v.c1, .slice v.a2 D.F.n v.c2] 25) = W0 := ⟨_, rfl⟩
  rw [hW0] at hb0 r0
  have HHO : Hid (Calls Try.prog 48 #[v.val D] W0 (HoldPost W0 D)) := hold_any v D Y _ (h.blw hb0) (fun b hb => by have := hY b hb; have := hb0.size; omega) hwf
  have HB : Hid (Blw w W0) := hb0
  clear h hb0
  obtain ⟨c0, c1, c2⟩ := get3 r0
  by_cases hg : GoodD D
  · have G : Hid (GoodD D) := hg
    clear hg
    go_enter Try.func15, Try.ntmps15
    go_upto_region 1 with fail
    try simp only [hW0]
    clear hW0 r0
    go_upto_region 2 with (first | (go_at_call 48; refine HHO.out.mono ?_; rintro e w1 ⟨now, R, P, C, b, rfl, hE1⟩) | (refine alloc_big rfl 71 rfl 17 hz0 zeroH ?_; intro w2 RZ2 hb2 hz2) | (refine store_big rfl 71 _ _ rfl _ 17 (hcell now R P C) hz0 rfl rfl wdH RZ2 (fun i _ => hcell_one _ _ _ _ _) ?_; intro wz RZ9 hm9 hs9) | fail)
    obtain ⟨hbo, hbt, hbl⟩ := hE1
    clear c0 c1 c2 HHO
    have hbz : Blw W0 wz := Mod.blw (hbl.trans hb2) hm9 (fun i e => by have := hbl.size; omega)
    obtain rfl : b = true := hbo.2 G.out
    obtain ⟨e1, e2, hR⟩ := hbt rfl
    subst e1 e2
    have HWz : Hid (HW W0.heap.size w1.heap.size D.now (rows16 D) P C wz) := ((hR.blw hb2).mod hm9 (fun k b hk e hh => by have h5 := hR.lt hk e; omega)).box (fun k b hk e => by have h5 := hR.lt hk e; omega) RZ9
    have HBz : Hid (Blw w wz) := HB.out.trans hbz
    clear hR hbo hbt hbl RZ2 hb2 hz2 RZ9 hm9 hs9 hbz
    have hlen : ∀ k, k < 16 → (rows16 D k).length ≤ 1000 := fun k hk => by have := len_row (S := rows16 D) hk; have := G.out.g.len; omega
    have HSF : Hid (Calls Try.prog 55 #[.func (.func 86) #[] #[.pointer (some ⟨wz.heap.size, 0, none⟩)], .func (.func 57) #[] #[]] (wz.alloc (.cells #[.slice (some ⟨w1.heap.size, 1, none⟩) 16 16] 23)) fun e w' => ∃ a c, e = .returned (.slice a (allR (rows16 D)).length c) ∧ Hid (UndosOwn (fun b => (wz.alloc (.cells #[.slice (some ⟨w1.heap.size, 1, none⟩) 16 16] 23)).heap.size ≤ b ∧ b < w'.heap.size) w' a (allR (rows16 D)).length (lf (srt (allR (rows16 D)))) (la (srt (allR (rows16 D)))) ∧ Blw (wz.alloc (.cells #[.slice (some ⟨w1.heap.size, 1, none⟩) 16 16] 23)) w')) :=
      sortedFunc_any wz.heap.size 16 16 (some ⟨w1.heap.size, 1, none⟩) (rows16 D) (fun b => b < wz.heap.size) _ (fun b hb => by rw [World.size_alloc]; omega) (new1 _ _ _).1 ((HWz.out.rows hlen).blw ((Blw.refl _).alloc _)) G.out.g.len
    have hal : Blw wz (wz.alloc (.cells #[.slice (some ⟨w1.heap.size, 1, none⟩) 16 16] 23)) := (Blw.refl _).alloc _
    have HTO : Hid (timersOut D (srt (allR (rows16 D))) true ∧ (allR (rows16 D)).length = (srt (allR (rows16 D))).length ∧ (allR (rows16 D)).length ≤ 20) := ⟨Or.inl ⟨G.out, rfl, rfl⟩, (srt_len _).symm, G.out.g.len⟩
    obtain ⟨L, hL⟩ : ∃ L, srt (allR (rows16 D)) = L := ⟨_, rfl⟩
    rw [hL] at HSF HTO
    obtain ⟨nn, hnn⟩ : ∃ nn, (allR (rows16 D)).length = nn := ⟨_, rfl⟩
    rw [hnn] at HSF HTO
    clear hlen hL hnn
    go_wp2_with (first | (go_at_call 56; refine (timersIn_any _ _ _ _).mono ?_; rintro e w5 ⟨rfl, rfl⟩) | (go_at_call 55; refine HSF.out.mono ?_; rintro e w6 ⟨a6, c6, rfl, hE6⟩) | fail)
    go_ret2
    have hb6 := HBz.out.trans hal
    obtain ⟨h1, h2, h3⟩ := HTO.out
    subst h2
    exact ⟨a6, c6, L.length, L, true, rfl, rfl, h1, h3, hE6.out.1.mono (fun x hx => ⟨by have := hb6.size; omega, hx.2⟩), hb6.trans hE6.out.2⟩
  · have NG : Hid (¬ GoodD D) := hg
    clear hg
    go_enter Try.func15, Try.ntmps15
    go_upto_region 1 with fail
    try simp only [hW0]
    clear hW0 r0
    go_upto_region 2 with (first | (go_at_call 48; refine HHO.out.mono ?_; rintro e w1 ⟨now, R, P, C, b, rfl, hE1⟩) | (refine alloc_big rfl 71 rfl 17 hz0 zeroH ?_; intro w2 RZ2 hb2 hz2) | (refine store_big rfl 71 _ _ rfl _ 17 (hcell now R P C) hz0 rfl rfl wdH RZ2 (fun i _ => hcell_one _ _ _ _ _) ?_; intro wz RZ9 hm9 hs9) | fail)
    obtain ⟨hbo, hbt, hbl⟩ := hE1
    have hbz : Blw W0 wz := Mod.blw (hbl.trans hb2) hm9 (fun i e => by have := hbl.size; omega)
    have HBz : Hid (Blw w wz) := HB.out.trans hbz
    obtain rfl : b = false := by cases b; rfl; exact absurd (hbo.1 rfl) NG.out
    clear hbo hbt hbl RZ2 hb2 hz2 RZ9 hm9 hs9 hbz
    go_wp2_with fail
    go_ret2
    exact ⟨none, 0, 0, [], false, rfl, rfl, Or.inr ⟨NG.out, rfl, rfl⟩, by simp, UndosOwn.nil _ _ _ _ _, HBz.out⟩
end Go.Proofs.Ytkmkidahaagbpaa
