/- Timers sorted in place. -/
import Derived.Test.YtkmkidahaagbpaaBt
import Derived.Test.YtkmkidahaagbpaaAp
import Derived.Test.YtkmkidahaagbpaaShelf
import Derived.Shelf.SlSortCmp.WholeK
namespace Go.Proofs.Ytkmkidahaagbpaa
open Go.RowKit Go.Shelf Go.Sort
set_option linter.unusedSimpArgs false
set_option linter.unusedVariables false
theorem ltOf_cfT : ltOf cfT = ltT := by funext x y; exact cfT_lt x y
theorem flatK_get (d : Array Tm) (t : Nat) (h : t < d.size * 2) : (flatK encT 2 d)[t]! = uc (lf d.toList) (la d.toList) t := by
  rw [get_flatK _ _ _ _ h]
  have hi : t / 2 < d.size := by omega
  have e : d[t / 2]! = nth d.toList (t / 2) := by
    rw [getElem!_pos d _ hi, nth_get (by simpa using hi)]; simp
  rw [e]
  unfold uc lf la encT
  rcases (show t % 2 = 0 ∨ t % 2 = 1 by omega) with h | h <;> simp [h]
theorem holdsT {X : Nat → Prop} {w : World} {g c : Nat} {l : List Tm} (h : LB X w (some ⟨g, 0, none⟩) c l) : HoldsK encT 2 w g 0 l.toArray ∧ g < w.heap.size ∧ ∃ N f, RowE w g 39 N f ∧ l.length * 2 ≤ N := by
  rcases Buf.rowE h with ⟨h0, _⟩ | ⟨g', f', h0, -, h1, h3, hr, he⟩
  · cases h0
  · cases h0
    refine ⟨fun j hj => ?_, hr.row.lt, _, _, hr, Nat.mul_le_mul_right _ h1⟩
    rw [size_flatK] at hj
    have hj2 : j < l.length * 2 := by simpa using hj
    have hjc : j < c * 2 := Nat.lt_of_lt_of_le hj2 (Nat.mul_le_mul_right _ h1)
    rw [flatK_get _ _ hj, Nat.zero_add]
    exact ⟨by rw [hr.row.cell hjc, he j hj2]; rfl, hr.row.frozen j⟩
/-- What the sort leaves. -/
theorem sorted_row {w : World} {g N n : Nat} {f : Nat → Value} {d : Array Tm} {os : Array Obj} (hr : RowE w g 39 N f) (hN : d.size * 2 ≤ N) :
    RowE (sortWorldK encT 2 w g 0 n d os) g 39 N (fun i => if i < d.size * 2 then uc (lf d.toList) (la d.toList) i else f i) ∧ Mod (fun b => b = g) w (sortWorldK encT 2 w g 0 n d os) := by
  obtain ⟨c, hc, hs, hv⟩ := hr
  have hlt : g < w.heap.size := (Array.getElem?_eq_some_iff.1 hc).1
  have hh : ∀ i, i < w.heap.size → (sortWorldK encT 2 w g 0 n d os).heap[i]? = if g = i then (w.heap[i]?).map (onCells (putCells id 0 (flatK encT 2 d))) else w.heap[i]? := by
    intro i hi
    show (w.heap.modify g _ ++ os)[i]? = _
    rw [Array.getElem?_append_left (by rw [Array.size_modify]; exact hi), Array.getElem?_modify]
  constructor
  · refine ⟨putCells id 0 (flatK encT 2 d) c, ?_, by simp [putCells, hs], fun i hi => ?_⟩
    · rw [hh g hlt, if_pos rfl, hc]; rfl
    · have hic : i < c.size := by omega
      have hci := hv i hi
      simp only [putCells, Array.getElem?_mapIdx, hci, Option.map_some, Nat.zero_le, true_and, Nat.zero_add, size_flatK, Nat.sub_zero, id]
      by_cases h : i < d.size * 2
      · rw [if_pos h, if_pos h, flatK_get _ _ h]
      · rw [if_neg h, if_neg h]
  · refine ⟨rfl, rfl, rfl, ?_, fun i hi hne => ?_⟩
    · show w.heap.size ≤ (w.heap.modify g _ ++ os).size
      rw [Array.size_append, Array.size_modify]; omega
    · rw [hh i hi, if_neg (fun e => hne e.symm)]
set_option maxHeartbeats 1600000 in
theorem sort_any {X : Nat → Prop} (g c : Nat) (l : List Tm) (w : World) (h : LB X w (some ⟨g, 0, none⟩) c l) (hl : l.length ≤ 20) :
    Calls Try.prog 85 #[.slice (some ⟨g, 0, none⟩) l.length c, .func (.func 57) #[] #[]] w fun e w' => e = .returned (.tuple #[]) ∧ Hid (Row w' g (l.length * 2) (uc (lf (srt l)) (la (srt l))) ∧ Mod (fun b => b = g) w w') := by
  obtain ⟨hH, hlt, N, f, hr, hN⟩ := holdsT h
  have eg : ∀ args w, (callFunc 57 args).run Try.prog w = .ok (.enter 57 args) w := enters_of Try.func57 (by kernel_rfl) rfl
  have hcon := AnyQ.slices_SortFunc Try.sortT 2 Try.isAgg39 Try.sizeOf39 encT (fun _ => rfl) (fun x v hv => by simp [encT] at hv; rcases hv with rfl | rfl <;> rfl) cfT (by rw [ltOf_cfT]; exact swoT) 57 #[] g 0 c l.toArray w eg (fun _ _ _ _ x y => byTime_any x y _) hH hlt (by simp; omega)
  change Calls Try.prog 85 _ _ _ at hcon
  refine hcon.mono ?_
  rintro e w' ⟨rfl, d', n, os, hp, hs, rfl⟩
  rw [ltOf_cfT] at hs
  have hd : d'.toList = srt l := srt_arr hp hs
  have hsz : d'.size = l.length := by rw [← Array.length_toList, hd, srt_len]
  obtain ⟨k1, k2⟩ := sorted_row (n := n) (os := os) (d := d') hr (by omega)
  refine ⟨rfl, ?_, k2⟩
  obtain ⟨cu, hcu, hcs, hcv⟩ := k1
  refine ⟨cu, 39, hcu, by omega, fun i hi => ?_⟩
  rw [hcv i (by omega)]
  dsimp only
  rw [if_pos (by omega), hd]
theorem bits0_any (w : World) : Calls Try.prog 100 #[.int .u64 0] w fun e w' => e = .returned (.int .i64 0) ∧ w' = w := by
  have h := Any.bits_Len (SlLaysF0.n15.bits (P := Try.prog) (ρ := Try.sortT_ren) { Try.sortT with }) 0 w (by omega) (by omega)
  exact h
set_option maxHeartbeats 1600000 in
theorem insSort0_any (w : World) : Calls Try.prog 107 #[.slice none 0 0, .int .i64 0, .int .i64 0, .func (.func 57) #[] #[]] w fun e w' => e = .returned (.tuple #[]) ∧ w' = w := by
  go_enter Try.func107, Try.ntmps107
  go_upto_region 1 with fail
  go_loopw [8] (fun i wr => i = .int .i64 1 ∧ Hid (wr = w)) (fun i _ => 0)
  case atStart => first | exact ⟨rfl, rfl⟩ | exact ⟨rfl, trivial⟩ | trivial
  case round =>
    rename World => wr
    obtain ⟨rfl, hE⟩ := hrel
    have hw := hE.out
    clear hE
    subst hw
    go_wp2_with fail
    first | (refine bodyPost_ret (results_none rfl _ _ _) rfl ?_) | go_end0
    exact ⟨rfl, rfl⟩
set_option maxHeartbeats 1600000 in
theorem pdq0_any (w : World) : Calls Try.prog 99 #[.slice none 0 0, .int .i64 0, .int .i64 0, .int .i64 0, .func (.func 57) #[] #[]] w fun e w' => e = .returned (.tuple #[]) ∧ w' = w := by
  go_enter Try.func99, Try.ntmps99
  go_upto_region 2 with fail
  go_loopw [1, 2, 3, 10] (fun a b c i wr => a = .int .i64 0 ∧ b = .int .i64 0 ∧ c = .int .i64 0 ∧ i = .bool true ∧ Hid (wr = w)) (fun _ _ _ i _ => 0)
  case atStart => first | exact ⟨rfl, rfl, rfl, rfl, rfl⟩ | exact ⟨rfl, rfl, rfl, rfl, trivial⟩ | trivial
  case round =>
    rename World => wr
    obtain ⟨rfl, rfl, rfl, rfl, hE⟩ := hrel
    have hw := hE.out
    clear hE
    subst hw
    go_wp2_with (first | (go_at_call 107; refine (insSort0_any _).mono ?_; rintro e w2 ⟨rfl, rfl⟩) | fail)
    first | (refine bodyPost_ret (results_none rfl _ _ _) rfl ?_) | go_end0
    exact ⟨rfl, rfl⟩
set_option maxHeartbeats 1600000 in
theorem sort0_any (w : World) : Calls Try.prog 85 #[.slice none 0 0, .func (.func 57) #[] #[]] w fun e w' => e = .returned (.tuple #[]) ∧ Blw w w' := by
  go_enter Try.func85, Try.ntmps85
  go_wp2_with (first | (go_at_call 100; refine (bits0_any _).mono ?_; rintro e w2 ⟨rfl, rfl⟩) | (go_at_call 99; refine (pdq0_any _).mono ?_; rintro e w2 ⟨rfl, rfl⟩) | fail)
  first | (refine bodyPost_ret (results_none rfl _ _ _) rfl ?_) | go_end0
  exact ⟨rfl, by first | exact Blw.refl _ | exact (Blw.refl _).drew | exact (Blw.refl _).drewN _⟩
end Go.Proofs.Ytkmkidahaagbpaa
