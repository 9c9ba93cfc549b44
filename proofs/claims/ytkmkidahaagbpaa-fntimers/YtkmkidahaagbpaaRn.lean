/- Runs of ticks without any walk. -/
import Derived.Test.YtkmkidahaagbpaaTkm
import Derived.Test.YtkmkidahaagbpaaHold
import Derived.Test.YtkmkidahaagbpaaGow
namespace Go.Proofs.Ytkmkidahaagbpaa
open Go.RowKit
set_option linter.unusedSimpArgs false
set_option linter.unusedVariables false
def runR (now : Int) (R : Rws) : Nat → Rws
  | 0 => R
  | j + 1 => tickR (now + j + 1) (runR now R j)
def runI (now : Int) (R : Rws) : Nat → List Int
  | 0 => []
  | j + 1 => runI now R j ++ tickIds (now + j + 1) (runR now R j)
theorem TR.run {R : Rws} (h : TR [] R) (now : Int) (j : Nat) : TR [] (runR now R j) := by
  induction j with
  | zero => exact h
  | succ j ih => exact ih.tick
theorem TR.ids {R : Rws} (h : TR [] R) (n : Int) : (tickIds n R).length ≤ 20 := by
  unfold tickIds
  rw [List.length_map]
  exact h.near1.rowlen (nearK_lt n)
theorem TR.runI {R : Rws} (h : TR [] R) (now : Int) (j : Nat) : (runI now R j).length ≤ 20 * j := by
  induction j with
  | zero => simp [Go.Proofs.Ytkmkidahaagbpaa.runI]
  | succ j ih =>
    have h2 := (h.run now j).ids (now + j + 1)
    simp only [Go.Proofs.Ytkmkidahaagbpaa.runI, List.length_append]
    omega
theorem putL_out (n : Int) (l : List Tm) (R : Rws) {k : Nat} (hk : 16 ≤ k) : putL n l R k = R k := by
  induction l generalizing R with
  | nil => rfl
  | cons t l ih =>
    have h := rowOf_lt n t.2
    rw [putL, ih]
    unfold put
    rw [if_neg (by omega)]
theorem near1_out (n : Int) (R : Rws) {k : Nat} (hk : 16 ≤ k) : near1 n R k = R k := by
  unfold near1
  split
  · have h := farK_lt n
    rw [putL_out _ _ _ hk]; unfold updN; rw [if_neg (by omega)]
  · rfl
theorem tickR_out (n : Int) (R : Rws) {k : Nat} (hk : 16 ≤ k) : tickR n R k = R k := by
  have h := nearK_lt n
  unfold tickR updN
  rw [if_neg (by omega), near1_out _ _ hk]
theorem runR_out (now : Int) (R : Rws) (j : Nat) {k : Nat} (hk : 16 ≤ k) : runR now R j k = R k := by
  induction j with
  | zero => rfl
  | succ j ih => rw [runR, tickR_out _ _ hk, ih]
/-- A list of numbers as a function. -/
def gi (l : List Int) (i : Nat) : Int := l.getD i 0
theorem gi_app (l m : List Int) (i : Nat) : gi (l ++ m) i = if i < l.length then gi l i else gi m (i - l.length) := by
  unfold gi
  simp only [List.getD_eq_getElem?_getD, List.getElem?_append]
  split <;> rfl
theorem gi_fst (l : List Tm) (i : Nat) : gi (l.map Prod.fst) i = (nth l i).1 := by
  unfold gi nth
  simp only [List.getD_eq_getElem?_getD, List.getElem?_map]
  cases l[i]? <;> rfl
theorem Mod.tail2 {X Y : Nat → Prop} {a b c : World} (h : Mod X a b) (k : Mod Y b c) (hy : ∀ i, Y i → X i ∨ a.heap.size ≤ i) : Mod X a c :=
  ⟨k.os.trans h.os, k.tape.trans h.tape, k.output.trans h.output, Nat.le_trans h.size k.size, fun i hi hx => (k.block i (Nat.lt_of_lt_of_le hi h.size) (fun hh => by rcases hy i hh with h1 | h1; exact hx h1; omega)).trans (h.block i hi hx)⟩
/-- What RunWheel answers. -/
def RunP (D : WD) (t : Int) : Prop := GoodD D ∧ 0 ≤ t ∧ t ≤ 100 ∧ D.now + t ≤ 1000
def runOut (D : WD) (t : Int) (X : WD) (l : List Int) (b : Bool) : Prop :=
  (RunP D t ∧ X = wd8 (D.now + t) (runR D.now (rows16 D) t.toNat) ∧ l = Go.Proofs.Ytkmkidahaagbpaa.runI D.now (rows16 D) t.toNat ∧ b = true) ∨ (¬ RunP D t ∧ X = WD.zero ∧ l = [] ∧ b = false)
theorem runOut_same {D : WD} {t : Int} {X X' : WD} {l l' : List Int} {b b' : Bool} (h : runOut D t X l b) (h' : runOut D t X' l' b') : X = X' ∧ l = l' ∧ b = b' := by
  rcases h with ⟨hp, rfl, rfl, rfl⟩ | ⟨hp, rfl, rfl, rfl⟩ <;> rcases h' with ⟨hp', rfl, rfl, rfl⟩ | ⟨hp', rfl, rfl, rfl⟩
  · exact ⟨rfl, rfl, rfl⟩
  · exact absurd hp hp'
  · exact absurd hp' hp
  · exact ⟨rfl, rfl, rfl⟩
/-- What answers a wheel, numbers and a bool. -/
def GivesWI (out : WD → List Int → Bool → Prop) (w : World) : Ending → World → Prop := fun e w' =>
  ∃ (v : WV) (R : WD) (ao : Option Addr) (c m : Nat) (l : List Int) (b : Bool), e = .returned (.tuple #[v.val R, .slice ao m c, .bool b]) ∧ m = l.length ∧ out R l b ∧ R.small ∧ l.length ≤ 2000 ∧
    WOwn (fun x => (w.heap.size ≤ x ∧ x < w'.heap.size) ∧ ao ≠ some ⟨x, 0, none⟩) w' v R ∧ IntsOwn (fun x => (w.heap.size ≤ x ∧ x < w'.heap.size) ∧ ao = some ⟨x, 0, none⟩) w' ao l.length (gi l) ∧ Blw w w'
end Go.Proofs.Ytkmkidahaagbpaa
