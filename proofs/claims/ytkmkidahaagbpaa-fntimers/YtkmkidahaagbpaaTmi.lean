/- Rows of timers as lists; the iterator over them. -/
import Derived.Test.YtkmkidahaagbpaaWhl
import Derived.Test.YtkmkidahaagbpaaWd
import Derived.RangeFuncNested
import Derived.RangeFuncBound
import Derived.RangeFuncCalls
import Derived.RangeFuncLeaves
import Derived.Shelf.Abstract
import Derived.Shelf.RegionOpen
import Derived.OwnWalkIn
import Derived.TacticsInMore
import Derived.LoopNIn
import Derived.LoopIn
namespace Go.Proofs.Ytkmkidahaagbpaa
open Go.RowKit Go.Shelf
attribute [local go_sem] Oper.semAt_some
set_option linter.unusedSimpArgs false
set_option linter.unusedVariables false
def lf (l : List Tm) : Nat → Int := fun t => (nth l t).1
def la (l : List Tm) : Nat → Int := fun t => (nth l t).2
abbrev pdn (n : Nat) (R : Rws) : PD := ⟨n, fun i => (R i).length, fun i => lf (R i), fun i => la (R i)⟩
def rlist (D : PD) : Rws := fun i => (List.range (D.len i)).map (fun t => (D.p i t, D.m i t))
theorem rlist_len (D : PD) (i : Nat) : (rlist D i).length = D.len i := by simp [rlist]
theorem rlist_nth (D : PD) {i t : Nat} (h : t < D.len i) : nth (rlist D i) t = (D.p i t, D.m i t) := by
  rw [nth_get (by rw [rlist_len]; exact h)]; simp [rlist]
theorem PSAt.rows {Y : Nat → Prop} {w : World} {ao : Option Addr} {D : PD} (h : PSAt Y w ao D) : PSAt Y w ao (pdn D.n (rlist D)) :=
  ⟨h.1, fun i hi => by
    obtain ⟨b, o, a, c, h1, hY, h2, h3⟩ := h.2 i hi
    refine ⟨b, o, a, c, h1, hY, ?_, ?_⟩
    · show w.cell? ⟨b, o + i, none⟩ = some (.slice a (rlist D i).length c)
      rw [rlist_len]; exact h2
    · show UndosAt Y w a (rlist D i).length (lf (rlist D i)) (la (rlist D i))
      rw [rlist_len]
      exact h3.congr (fun t ht => by simp only [lf, la, rlist_nth D ht]; exact ⟨trivial, trivial⟩)⟩
def allN (n : Nat) (R : Rws) : List Tm := (List.range n).flatMap R
theorem allN_succ (n : Nat) (R : Rws) : allN (n + 1) R = allN n R ++ R n := by simp [allN, List.range_succ, List.flatMap_append]
theorem allN_pre {n k : Nat} (R : Rws) (h : k ≤ n) : allN k R <+: allN n R := by
  obtain ⟨d, rfl⟩ : ∃ d, n = k + d := ⟨n - k, by omega⟩
  clear h
  induction d with
  | zero => exact List.prefix_refl _
  | succ d ih => rw [← Nat.add_assoc, allN_succ]; exact ih.trans (List.prefix_append _ _)
theorem take_succ' {l : List Tm} {j : Nat} (h : j < l.length) : l.take (j + 1) = l.take j ++ [nth l j] := by
  rw [List.take_succ_eq_append_getElem h, nth_get h]
theorem allN_part {n k j : Nat} (R : Rws) (h : k < n) : allN k R ++ (R k).take j <+: allN n R := by
  have h1 := allN_pre R (show k + 1 ≤ n from h)
  rw [allN_succ] at h1
  refine List.IsPrefix.trans ?_ h1
  exact (List.prefix_append_right_inj _).2 (List.take_prefix _ _)
theorem modK_t {X : Nat → Prop} {A B C : World} (h : Mod X A B) (k : Mod X B C) : Mod X A C := h.trans k
theorem modK_b {X : Nat → Prop} {w : World} (hX : ∀ l, w.heap.size ≤ l → X l) (W : World) (l : Nat) (o o' : Obj) (hl : w.heap.size ≤ l) (h : W.heap[l]? = some o) (_ : o.isCells = false) (_ : o.isWalk = false) : Mod X W (W.putObj l o') :=
  ⟨rfl, rfl, rfl, by simp, fun k _ hk => World.putObj_heap_other (fun e => hk (e ▸ hX l hl))⟩
theorem grown_mod {W W' : World} {row : Option Nat} (h : W.grownBy W' row) : Mod (fun b => row = some b) W W' :=
  ⟨h.os, h.tape, h.output, h.size, fun k hk hx => h.block k hk (fun e => hx e.symm)⟩
theorem alloc_grown (W : World) (o : Obj) : W.grownBy (W.alloc o) none :=
  ⟨rfl, rfl, rfl, by simp, fun k hk _ => Below.heap_alloc _ _ _ hk⟩
theorem timersIn_any (ao : Option Addr) (n c : Nat) (w : World) :
    Calls Try.prog 56 #[.slice ao n c] w fun e w' => e = .returned (.func (.func 86) #[] #[.pointer (some ⟨w.heap.size, 0, none⟩)]) ∧ w' = w.alloc (.cells #[.slice ao n c] 23) := by
  go_enter Try.func56, Try.ntmps56
  go_wp2
  go_ret
  exact ⟨rfl, rfl⟩
set_option maxRecDepth 100000 in
set_option maxHeartbeats 2000000 in
theorem timers1_in (F : Fence) (n : Nat) (hF : F.fn 86) (hro : F.round = none) (hn : 1 ≤ n) (l Bs : Nat) (X Y : Nat → Prop) (hYX : ∀ b, Y b → ¬ X b) (ao : Option Addr) (nR cR : Nat) (R : Rws) (Qx : Tm → Prop) (hQ : ∀ k, k < nR → ∀ x ∈ R k, Qx x) (J Jx : List Tm → World → Prop)
    (hJ : ∀ s W o, J s W → J s (W.alloc o))
    (hY : ∀ pre x W, Qx x → J pre W → pre.length < (allN nR R).length → YieldAt F (n - 1) Try.prog l #[.agg #[.int .i64 x.1, .int .i64 x.2]] W fun e W' =>
      (e = .returned (.bool true) ∧ J (pre ++ [x]) W' ∧ Mod X W W') ∨ (e = .returned (.bool false) ∧ Jx (pre ++ [x]) W'))
    (W : World) (hBs : W.cell? ⟨Bs, 0, none⟩ = some (.slice ao nR cR)) (hp : PSAt Y W ao (pdn nR R)) (h0 : J [] W) :
    CallsIn F n Try.prog 86 #[.func (.yield l) #[] #[], .pointer (some ⟨Bs, 0, none⟩)] W fun e W' => (∃ v, e = .returned v) ∧
      ((∃ ys, ys = allN nR R ∧ J ys W') ∨ (∃ pre, pre <+: allN nR R ∧ Jx pre W')) := by
  have HP : Hid (PSAt Y W ao (pdn nR R)) := hp
  have hnR : nR ≤ 9223372036854775807 := hp.1
  clear hp
  refine callsIn_of_wp Try.func86 rfl hF ?_ hro
  simp only [Try.ntmps86, List.size_toArray, List.length_cons, List.length_nil, Nat.reduceAdd, Nat.reduceSub, Array.replicate_succ, Array.replicate_zero, List.push_toArray, List.append_toArray, List.nil_append, List.cons_append]
  gi_wp2
  gi_loopw [9] (fun i wr => ∃ k : Nat, k ≤ nR ∧ i = .int .i64 k ∧ J (allN k R) wr ∧ Mod X W wr) (fun i _ => nR - (intOf i).toNat)
  case atStart => exact ⟨0, Nat.zero_le _, rfl, h0, Mod.refl _ _⟩
  case round =>
    obtain ⟨k, hk, rfl, hJk, hm⟩ := hrel
    by_cases hlt : k < nR
    · obtain ⟨b, o, a, c, e, hYb, g1, g2⟩ := HP.out.2 k hlt
      subst e
      replace g1 := hm.cell g1 (hYX _ hYb)
      have G2 : Hid (UndosAt Y wr a (R k).length (lf (R k)) (la (R k))) := g2.mod hm hYX
      have hln : (R k).length ≤ 9223372036854775807 := g2.1
      clear g2
      gi_wp2
      have HM0 : Hid (Mod X W wr) := hm
      have HJ0 : Hid (J (allN k R) wr) := hJk
      clear g1 hm hJk hBs h0
      rename World => wo
      gi_loopw [15] (fun i w2 => ∃ j : Nat, j ≤ (R k).length ∧ i = .int .i64 j ∧ J (allN k R ++ (R k).take j) w2 ∧ Mod X wo w2) (fun i _ => (R k).length - (intOf i).toNat)
      case atStart => exact ⟨0, Nat.zero_le _, rfl, by simpa using HJ0.out, Mod.refl _ _⟩
      case round =>
        obtain ⟨j, hj, rfl, hJj, hm2⟩ := hrel
        by_cases hlt2 : j < (R k).length
        · obtain ⟨b2, o2, e, hYb2, q0, q1⟩ := G2.out.2 j hlt2
          subst e
          replace q0 := hm2.cell q0 (hYX _ hYb2)
          replace q1 := hm2.cell q1 (hYX _ hYb2)
          obtain ⟨fn, tmps, assign, body, hy, hR⟩ := hY (allN k R ++ (R k).take j) (nth (R k) j) (wr.alloc (.cells #[.int .i64 (lf (R k) j), .int .i64 (la (R k) j)] 39)) (hQ k hlt _ (nth_mem hlt2)) (hJ _ _ _ hJj) (by
            have h1 := allN_pre R (show k + 1 ≤ nR from hlt)
            rw [allN_succ] at h1
            have h2 := h1.length_le
            simp only [List.length_append, List.length_take] at h2 ⊢
            omega)
          have HM2 : Hid (Mod X wo wr) := hm2
          clear hJj hm2
          simp only [lf, la] at q0 q1 hR hy
          gi_wp2
          refine hR.mono ?_
          rintro e w3 (⟨rfl, hJ3, hk3⟩ | ⟨rfl, hJx3⟩)
          · have HM3 : Hid (Mod X wo w3) := HM2.out.trans ((((Blw.refl _).alloc _).mod X).trans hk3)
            clear hk3 HM2 q0 q1 hR hy HJ0
            gi_wp2
            go_roundw
            case rel => exact ⟨j + 1, by omega, by go_num, by rw [take_succ' hlt2, ← List.append_assoc]; exact hJ3, HM3.out⟩
            case measure => simp [intOf]; omega
          · clear hY HM2 q0 q1 hR hy HJ0
            gi_wp2
            refine bodyPost_ret (results_none rfl _ _ _) rfl ?_
            refine ⟨⟨_, rfl⟩, .inr ⟨_, ?_, hJx3⟩⟩
            have h1 := allN_part (j := j + 1) R (show k < nR from hlt)
            rw [take_succ' hlt2, ← List.append_assoc] at h1
            exact h1
        · obtain rfl : j = (R k).length := by omega
          have hJ2 : J (allN k R ++ R k) wr := by simpa using hJj
          have HJ2 : Hid (J (allN (k + 1) R) wr) := by rw [allN_succ]; exact hJ2
          have HM2 : Hid (Mod X W wr) := HM0.out.trans hm2
          clear hJj hJ2 hm2 HJ0 HM0
          gi_wp2
          go_roundw
          case rel => exact ⟨k + 1, by omega, by go_num, HJ2.out, HM2.out⟩
          case measure => simp [intOf]; omega
    · obtain rfl : k = nR := by omega
      clear HP hY
      gi_wp2
      go_end0
      exact ⟨⟨_, rfl⟩, .inl ⟨_, rfl, hJk⟩⟩
theorem timersIn_stops (F : Fence) (n : Nat) (hF : F.fn 86) (hro : F.round = none) (hn : 1 ≤ n) (Bs : Nat) (X Y : Nat → Prop) (ao : Option Addr) (nR cR : Nat) (R : Rws) (w : World) (hYX : ∀ b, Y b → ¬ X b) (hYw : ∀ b, Y b → b < w.heap.size) (hBs : w.cell? ⟨Bs, 0, none⟩ = some (.slice ao nR cR)) (hp : PSAt Y w ao (pdn nR R)) :
    SeqStopsK F n Try.prog 86 #[.pointer (some ⟨Bs, 0, none⟩)] (fun x : Tm => #[Value.agg #[.int .i64 x.1, .int .i64 x.2]]) (Mod X) (fun ys => ys = allN nR R) (fun pre => pre <+: allN nR R) (allN nR R).length w := fun l J Jx W hW hJ _ hY h0 =>
  timers1_in F n hF hro hn l Bs X Y hYX ao nR cR R (fun _ => True) (fun _ _ _ _ => trivial) J Jx (fun s W o hs => hJ s W _ none hs (alloc_grown W o) (fun r e => by cases e)) (fun pre x W _ hj hl => hY pre x W hj hl) W ((Blw.cell hW hBs)) (hp.blw hW) h0
theorem timersIn_stopsQ (Qx : Tm → Prop) (F : Fence) (n : Nat) (hF : F.fn 86) (hro : F.round = none) (hn : 1 ≤ n) (Bs : Nat) (X Y : Nat → Prop) (ao : Option Addr) (nR cR : Nat) (R : Rws) (hQ : ∀ k, k < nR → ∀ x ∈ R k, Qx x) (w : World) (hYX : ∀ b, Y b → ¬ X b) (hYw : ∀ b, Y b → b < w.heap.size) (hBs : w.cell? ⟨Bs, 0, none⟩ = some (.slice ao nR cR)) (hp : PSAt Y w ao (pdn nR R)) :
    SeqStopsK F n Try.prog 86 #[.pointer (some ⟨Bs, 0, none⟩)] (fun x : { x : Tm // Qx x } => #[Value.agg #[.int .i64 x.1.1, .int .i64 x.1.2]]) (Mod X) (fun ys => ys.map (·.1) = allN nR R) (fun pre => pre.map (·.1) <+: allN nR R) (allN nR R).length w := fun l J Jx W hW hJ _ hY h0 => by
  refine (timers1_in F n hF hro hn l Bs X Y hYX ao nR cR R Qx hQ (fun pre W => ∃ p : List { x : Tm // Qx x }, p.map (·.1) = pre ∧ J p W) (fun pre W => ∃ p : List { x : Tm // Qx x }, p.map (·.1) = pre ∧ Jx p W)
    (fun s W o hs => hs.imp (fun p h => ⟨h.1, hJ p W _ none h.2 (alloc_grown W o) (fun r e => by cases e)⟩)) ?_ W (Blw.cell hW hBs) (hp.blw hW) ⟨[], rfl, h0⟩).mono ?_
  · rintro pre x W hq ⟨p, rfl, hj⟩ hl
    refine YieldAt.mono (hY p ⟨x, hq⟩ W hj (by simpa using hl)) ?_
    rintro e W' (⟨he, h1, h2⟩ | ⟨he, h1⟩)
    · exact Or.inl ⟨he, ⟨p ++ [⟨x, hq⟩], by simp, h1⟩, h2⟩
    · exact Or.inr ⟨he, ⟨p ++ [⟨x, hq⟩], by simp, h1⟩⟩
  · rintro e W' ⟨he, ⟨ys, rfl, p, hp2, hj⟩ | ⟨pre, hpre, p, rfl, hj⟩⟩
    · exact ⟨he, .inl ⟨p, hp2, hj⟩⟩
    · exact ⟨he, .inr ⟨p, hpre, hj⟩⟩
end Go.Proofs.Ytkmkidahaagbpaa
