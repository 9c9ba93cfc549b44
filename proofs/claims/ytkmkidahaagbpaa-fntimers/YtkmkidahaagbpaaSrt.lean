/- Lists of timers in the order of time, then Id. -/
import Derived.Test.YtkmkidahaagbpaaWd
import Derived.Sort.Statements
import Derived.Sort.LotA
import Derived.Lib.Small
namespace Go.Proofs.Ytkmkidahaagbpaa
set_option linter.unusedSimpArgs false
set_option linter.unusedVariables false
def LtT (x y : Tm) : Prop := x.2 < y.2 ∨ x.2 = y.2 ∧ x.1 < y.1
def ltT (x y : Tm) : Bool := decide (x.2 < y.2 ∨ x.2 = y.2 ∧ x.1 < y.1)
theorem ltT_true (x y : Tm) : ltT x y = true ↔ LtT x y := by unfold ltT LtT; exact decide_eq_true_iff
theorem ltT_false (x y : Tm) : ltT x y = false ↔ ¬ LtT x y := by unfold ltT LtT; exact decide_eq_false_iff_not
/-- What byTime answers. -/
def cfT (x y : Tm) : Int := if Go.Lib.compareInt x.2 y.2 = 0 then Go.Lib.compareInt x.1 y.1 else Go.Lib.compareInt x.2 y.2
theorem cfT_lt (x y : Tm) : decide (cfT x y < 0) = ltT x y := by
  unfold cfT ltT Go.Lib.compareInt
  by_cases h1 : x.2 < y.2
  · simp [h1]
  · by_cases h2 : x.2 > y.2
    · simp [h1, h2]; intro h3; omega
    · have h3 : x.2 = y.2 := by omega
      simp only [h3, Int.lt_irrefl, if_false, gt_iff_lt, if_true, true_and, false_or]
      by_cases h4 : x.1 < y.1
      · simp [h4]
      · by_cases h5 : y.1 < x.1 <;> simp [h4, h5]
theorem swoT : Go.Sort.SWO ltT where
  irrefl x := by rw [ltT_false]; unfold LtT; omega
  trans x y z h1 h2 := by rw [ltT_true] at *; unfold LtT at *; omega
  ntrans x y z h1 h2 := by rw [ltT_false] at *; unfold LtT at *; omega
theorem ltT_anti (x y : Tm) (h1 : ltT x y = false) (h2 : ltT y x = false) : x = y := by
  rw [ltT_false] at h1 h2
  unfold LtT at h1 h2
  refine Prod.ext ?_ ?_ <;> omega
/-- In order. -/
def srt (l : List Tm) : List Tm := l.mergeSort (fun x y => !ltT y x)
def InOrd (l : List Tm) : Prop := l.Pairwise (fun x y => (!ltT y x) = true)
theorem srt_ord (l : List Tm) : InOrd (srt l) := by
  refine List.pairwise_mergeSort ?_ ?_ _
  · intro a b c h1 h2
    simp only [Bool.not_eq_true'] at h1 h2 ⊢
    exact swoT.ntrans c b a h2 h1
  · intro a b
    cases h : ltT b a with
    | false => simp
    | true => simp [swoT.asymmA h]
theorem srt_self (l : List Tm) : (srt l).Perm l := List.mergeSort_perm _ _
theorem ord_uniq {l m : List Tm} (hl : InOrd l) (hm : InOrd m) (h : l.Perm m) : l = m := by
  refine List.Perm.eq_of_pairwise (le := fun x y => (!ltT y x) = true) ?_ hl hm h
  intro a b _ _ h1 h2
  simp only [Bool.not_eq_true'] at h1 h2
  exact ltT_anti a b h2 h1
theorem srt_perm {l m : List Tm} (h : l.Perm m) : srt l = srt m := ord_uniq (srt_ord l) (srt_ord m) ((srt_self l).trans (h.trans (srt_self m).symm))
theorem srt_len (l : List Tm) : (srt l).length = l.length := (srt_self l).length_eq
theorem srt_mem {l : List Tm} {x : Tm} : x ∈ srt l ↔ x ∈ l := (srt_self l).mem_iff
/-- One more at its place. -/
def ins2 : List Tm → Tm → List Tm
  | [], t => [t]
  | x :: l, t => if ltT x t then x :: ins2 l t else t :: x :: l
def pos2 : List Tm → Tm → Nat
  | [], _ => 0
  | x :: l, t => if ltT x t then pos2 l t + 1 else 0
theorem pos2_le (l : List Tm) (t : Tm) : pos2 l t ≤ l.length := by
  induction l with
  | nil => simp [pos2]
  | cons x l ih => simp only [pos2]; split <;> simp <;> omega
theorem lt_pos2 {l : List Tm} {t : Tm} {i : Nat} (h : i < pos2 l t) : LtT (nth l i) t := by
  induction l generalizing i with
  | nil => simp [pos2] at h
  | cons x l ih =>
    by_cases e : ltT x t = true
    · cases i with
      | zero => exact (ltT_true _ _).1 e
      | succ i =>
        have e2 : pos2 (x :: l) t = pos2 l t + 1 := by simp [pos2, e]
        exact ih (by omega)
    · have e2 : pos2 (x :: l) t = 0 := by simp [pos2, e]
      omega
theorem at_pos2 {l : List Tm} {t : Tm} (h : pos2 l t < l.length) : ¬ LtT (nth l (pos2 l t)) t := by
  induction l with
  | nil => simp at h
  | cons x l ih =>
    by_cases e : ltT x t = true
    · have e2 : pos2 (x :: l) t = pos2 l t + 1 := by simp [pos2, e]
      rw [e2] at h ⊢
      exact ih (by simpa using h)
    · have e2 : pos2 (x :: l) t = 0 := by simp [pos2, e]
      rw [e2]; exact fun h5 => e ((ltT_true _ _).2 h5)
theorem ins2_eq (l : List Tm) (t : Tm) : ins2 l t = l.take (pos2 l t) ++ [t] ++ l.drop (pos2 l t) := by
  induction l with
  | nil => rfl
  | cons x l ih => simp only [ins2, pos2]; split <;> simp [ih]
theorem ins2_perm (l : List Tm) (t : Tm) : (ins2 l t).Perm (t :: l) := by
  have h := (List.perm_middle (a := t) (l₁ := l.take (pos2 l t)) (l₂ := l.drop (pos2 l t)))
  rw [List.take_append_drop] at h
  rw [ins2_eq]
  simpa using h
theorem ins2_len (l : List Tm) (t : Tm) : (ins2 l t).length = l.length + 1 := (ins2_perm l t).length_eq
theorem ins2_ord {l : List Tm} {t : Tm} (h : InOrd l) : InOrd (ins2 l t) := by
  induction l with
  | nil => exact List.pairwise_singleton _ _
  | cons x l ih =>
    have h' := List.pairwise_cons.1 h
    by_cases e : ltT x t = true
    · have e2 : ins2 (x :: l) t = x :: ins2 l t := by simp [ins2, e]
      rw [e2]
      refine List.pairwise_cons.2 ⟨fun y hy => ?_, ih h'.2⟩
      rcases List.mem_cons.1 ((ins2_perm l t).mem_iff.1 hy) with rfl | hy
      · simp [swoT.asymmA e]
      · exact h'.1 y hy
    · have e2 : ins2 (x :: l) t = t :: x :: l := by simp [ins2, e]
      rw [e2]
      refine List.pairwise_cons.2 ⟨fun y hy => ?_, h⟩
      rcases List.mem_cons.1 hy with rfl | hy
      · simpa using e
      · have h5 := h'.1 y hy
        simp only [Bool.not_eq_true'] at h5 ⊢
        exact swoT.ntrans y x t h5 (by simpa using e)
theorem fold_ord (l m : List Tm) (h : InOrd m) : InOrd (l.foldl ins2 m) := by
  induction l generalizing m with
  | nil => exact h
  | cons x l ih => exact ih _ (ins2_ord h)
theorem fold_perm (l m : List Tm) : (l.foldl ins2 m).Perm (m ++ l) := by
  induction l generalizing m with
  | nil => simp
  | cons x l ih => exact (ih _).trans (((ins2_perm m x).append_right l).trans (by simpa using (List.perm_middle (a := x) (l₁ := m) (l₂ := l)).symm))
/-- Put in one by one they stand in order. -/
theorem fold_srt (l : List Tm) : l.foldl ins2 [] = srt l := ord_uniq (fold_ord l [] List.Pairwise.nil) (srt_ord l) ((fold_perm l []).trans (by simpa using (srt_self l).symm))
theorem fold_len (l m : List Tm) : (l.foldl ins2 m).length = m.length + l.length := by rw [(fold_perm l m).length_eq, List.length_append]
theorem take_fold {l : List Tm} {j : Nat} (h : j < l.length) : (l.take (j + 1)).foldl ins2 [] = ins2 ((l.take j).foldl ins2 []) (nth l j) := by
  have e : l.take (j + 1) = l.take j ++ [nth l j] := by rw [List.take_succ_eq_append_getElem h, nth_get h]
  rw [e, List.foldl_append]; rfl
theorem srt_arr {d d' : Array Tm} (hP : Go.Sort.PermIn 0 d.size d d') (hS : Go.Sort.SortedIn ltT 0 d.size d') : d'.toList = srt d.toList :=
  Go.Sort.sorted_unique_holds swoT ltT_anti d d' hP hS
end Go.Proofs.Ytkmkidahaagbpaa
