/- Ticks without any walk; a row emptied. -/
import Derived.Test.YtkmkidahaagbpaaHw
namespace Go.Proofs.Ytkmkidahaagbpaa
open Go.RowKit
set_option linter.unusedSimpArgs false
set_option linter.unusedVariables false
theorem emp_upd (R : Rws) (k : Nat) (hk : k < 16) : (allR R).Perm (R k ++ allR (updN R k [])) := by
  have h := flatMap_upd (List.range 16) List.nodup_range (updN R k []) k (List.mem_range.2 hk) (R k) (R k) (by simp [updN])
  have e : (fun j => if j = k then R k else updN R k [] j) = R := by
    funext j
    by_cases ej : j = k
    · rw [if_pos ej, ej]
    · rw [if_neg ej]; unfold updN; rw [if_neg ej]
  rw [e] at h
  exact h
/-- Rows that stand, and timers that are still to be put. -/
structure TR (l : List Tm) (R : Rws) : Prop where
  sd : ∀ k, k < 16 → Sd (R k)
  bd : ∀ t ∈ l ++ allR R, 0 ≤ t.2 ∧ t.2 ≤ 100000
  nd : ((l ++ allR R).map Prod.fst).Nodup
  len : (l ++ allR R).length ≤ 20
theorem GoodR.tr {now : Int} {R : Rws} (h : GoodR now R) (h0 : 0 ≤ now) (h1 : now ≤ 1000) : TR [] R :=
  ⟨h.sd, fun t ht => by
    obtain ⟨k, hk, ht⟩ := mem_all.1 (by simpa using ht)
    have := h.ok k hk t ht
    omega, by simpa using h.nd, by simpa using h.len⟩
theorem TR.emp {R : Rws} (h : TR [] R) {k : Nat} (hk : k < 16) : TR (R k) (updN R k []) := by
  have hp := emp_upd R k hk
  refine ⟨fun j hj => ?_, fun t ht => h.bd t (by simpa using hp.mem_iff.2 ht), (hp.map _).nodup_iff.1 (by simpa using h.nd), by rw [← hp.length_eq]; simpa using h.len⟩
  unfold updN
  split
  · exact List.Pairwise.nil
  · exact h.sd j hj
theorem TR.put {now : Int} {t : Tm} {l : List Tm} {R : Rws} (h : TR (t :: l) R) : TR l (put now R t) := by
  have hp : (l ++ allR (Go.Proofs.Ytkmkidahaagbpaa.put now R t)).Perm (t :: l ++ allR R) := by
    refine ((put_perm now R t).append_left l).trans ?_
    exact List.perm_middle
  refine ⟨fun k hk => ?_, fun x hx => h.bd x (hp.mem_iff.1 hx), (hp.map _).nodup_iff.2 h.nd, by rw [hp.length_eq]; exact h.len⟩
  unfold Go.Proofs.Ytkmkidahaagbpaa.put
  split
  · refine ins_sd (h.sd k hk) (fun y hy e => ?_)
    have h1 := h.nd
    rw [List.cons_append, List.map_cons] at h1
    exact (List.nodup_cons.1 h1).1 (List.mem_map.2 ⟨y, List.mem_append_right _ (row_sub hk hy), e⟩)
  · exact h.sd k hk
def putL (now : Int) : List Tm → Rws → Rws
  | [], R => R
  | t :: l, R => putL now l (put now R t)
theorem putL_snoc (now : Int) (l : List Tm) (x : Tm) (R : Rws) : putL now (l ++ [x]) R = put now (putL now l R) x := by
  induction l generalizing R with
  | nil => rfl
  | cons t l ih => exact ih _
theorem TR.putL {now : Int} {m l : List Tm} {R : Rws} (h : TR (l ++ m) R) : TR m (putL now l R) := by
  induction l generalizing R with
  | nil => exact h
  | cons t l ih => exact ih (TR.put h)
theorem TR.drop {l : List Tm} {R : Rws} (h : TR l R) : TR [] R :=
  ⟨h.sd, fun t ht => h.bd t (List.mem_append_right _ (by simpa using ht)), by
    have h1 := h.nd
    rw [List.map_append] at h1
    rw [List.nil_append]
    exact (List.pairwise_append.1 h1).2.1, by have h1 := h.len; simp only [List.length_append] at h1; simpa using (by omega : (allR R).length ≤ 20)⟩
/-- The row of Far that comes near at a round's begin; the row of Near whose time is now. -/
def farK (now : Int) : Nat := 8 + (now / 8 % 8).toNat
def nearK (now : Int) : Nat := (now % 8).toNat
theorem farK_lt (now : Int) : farK now < 16 := by unfold farK; omega
theorem nearK_lt (now : Int) : nearK now < 16 := by unfold nearK; omega
/-- What a tick to now leaves before the timers of now go. -/
def near1 (now : Int) (R : Rws) : Rws := if now % 8 = 0 then putL now (R (farK now)) (updN R (farK now) []) else R
def tickIds (now : Int) (R : Rws) : List Int := (near1 now R (nearK now)).map Prod.fst
def tickR (now : Int) (R : Rws) : Rws := updN (near1 now R) (nearK now) []
theorem TR.near1 {now : Int} {R : Rws} (h : TR [] R) : TR [] (near1 now R) := by
  unfold Go.Proofs.Ytkmkidahaagbpaa.near1
  split
  · exact TR.putL (m := []) (by rw [List.append_nil]; exact h.emp (farK_lt now))
  · exact h
theorem TR.tick {now : Int} {R : Rws} (h : TR [] R) : TR [] (tickR now R) := (h.near1.emp (nearK_lt now)).drop
theorem TR.rowlen {l : List Tm} {R : Rws} (h : TR l R) {k : Nat} (hk : k < 16) : (R k).length ≤ 20 := by
  have h1 := h.len
  have h2 := len_row (S := R) hk
  simp only [List.length_append] at h1
  omega
theorem HW.empty {lo z : Nat} {now : Int} {R : Rws} {P : Nat → Option Addr} {C : Nat → Nat} {w : World} (h : HW lo z now R P C w) {k : Nat} (hk : k < 16) (hlo : lo ≤ w.heap.size) :
    HW lo z now (updN R k []) (updN P k none) (updN C k 0) (w.setCell ⟨z, 1 + k, none⟩ (.slice none 0 0)) :=
  h.upd (l := []) (a := none) (c := 0) hk hlo (Mod.refl _ _) (Buf.nil _ _ _ _ _)
set_option maxRecDepth 10000 in
theorem emptyRow_any (lo z : Nat) (now : Int) (R : Rws) (P : Nat → Option Addr) (C : Nat → Nat) (k : Nat) (w : World) (h : HW lo z now R P C w) (hk : k < 16) :
    Calls Try.prog 79 #[.pointer (some ⟨z, 0, none⟩), .int .i64 k] w fun e w' => e = .returned (.slice (P k) (R k).length (C k)) ∧ w' = w.setCell ⟨z, 1 + k, none⟩ (.slice none 0 0) := by
  have hc := h.cell hk
  have hf := h.box.frozen (1 + k)
  have hki : (k : Int) < 16 := by omega
  go_enter Try.func79, Try.ntmps79
  go_wp2
  go_ret
  exact ⟨rfl, rfl⟩
end Go.Proofs.Ytkmkidahaagbpaa
