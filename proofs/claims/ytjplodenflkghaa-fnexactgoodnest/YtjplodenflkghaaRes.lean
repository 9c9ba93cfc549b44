/- What answers a table and a bool. -/
import Derived.Test.YtjplodenflkghaaGiveT
namespace Go.Proofs.Ytjplodenflkghaa
open Go.RowKit
set_option linter.unusedSimpArgs false
set_option linter.unusedVariables false
def upd (f : Nat → Int) (i : Nat) (v : Int) : Nat → Int := fun t => if t = i then v else f t
def upd2 (p : Nat → Nat → Int) (k j : Nat) (v : Int) : Nat → Nat → Int := fun a b => if a = k ∧ b = j then v else p a b
/-- What answers a table and a bool: V where ok, nothing else. -/
def resT (ok : Prop) (V R : BD) (r : Bool) : Prop := (ok ∧ R = V ∧ r = true) ∨ (¬ ok ∧ R = BD.zero ∧ r = false)
theorem resT_same {ok : Prop} {V R R' : BD} {b c : Bool} (h : resT ok V R b) (k : resT ok V R' c) : R = R' ∧ b = c := by
  rcases h with ⟨g, rfl, rfl⟩ | ⟨g, rfl, rfl⟩
  · rcases k with ⟨_, rfl, rfl⟩ | ⟨g', _, _⟩
    · exact ⟨rfl, rfl⟩
    · exact absurd g g'
  · rcases k with ⟨g', _⟩ | ⟨_, rfl, rfl⟩
    · exact absurd g' g
    · exact ⟨rfl, rfl⟩
theorem zero_givesT {out : BD → Bool → Prop} {w W : World} {z : Nat} (hz : w.heap.size ≤ z) (ho : out BD.zero false) (hb : Blw w W) :
    GivesB out w (.returned (.tuple #[BV.zero.val BD.zero, .bool false])) ((W.setCell ⟨z, 0, none⟩ (.slice none 0 0)).setCell ⟨z, 1, none⟩ (.slice none 0 0)) :=
  ⟨BV.zero, BD.zero, false, rfl, ho, by decide, BookOwn.zero _ _, set2_blw hb hz _ _⟩
theorem zero_givesT0 {out : BD → Bool → Prop} {w W : World} (ho : out BD.zero false) (hb : Blw w W) :
    GivesB out w (.returned (.tuple #[BV.zero.val BD.zero, .bool false])) W :=
  ⟨BV.zero, BD.zero, false, rfl, ho, by decide, BookOwn.zero _ _, hb⟩
theorem fin_givesT {out : BD → Bool → Prop} {X : Nat → Prop} {w W : World} {z : Nat} {b : BV} {R : BD} (hz : w.heap.size ≤ z) (ho : out R true) (hs : R.n + (R.D.n + R.D.tot) ≤ 1048576) (hb : Blw w W) (own : BookOwn X W b R) (hX : ∀ x, X x → w.heap.size ≤ x ∧ x ≠ z ∧ x < W.heap.size) :
    GivesB out w (.returned (.tuple #[b.val R, .bool true])) ((W.setCell ⟨z, 0, none⟩ (.slice b.a1 R.n b.c1)).setCell ⟨z, 1, none⟩ (.slice b.a2 R.D.n b.c2)) := by
  have hm := set2_mod (X := fun x => x = z) W rfl (.slice b.a1 R.n b.c1) (.slice b.a2 R.D.n b.c2)
  have := hm.size
  exact ⟨b, R, true, rfl, ho, hs, (own.mod hm (fun x hx e => (hX x hx).2.1 e)).mono (fun x hx => by have := hX x hx; omega), set2_blw hb hz _ _⟩
theorem tot4 {c : Nat → Int} {kn : Nat} {p m : Nat → Nat → Int} (h : kn ≤ 4) : (4 : Nat) + (kn + PD.tot ⟨kn, fun _ => 4, p, m⟩) ≤ 1048576 := by
  have : pre (fun _ => 4) kn ≤ pre (fun _ => 4) 4 := pre_mono _ h
  have e : pre (fun _ => 4) 4 = 16 := rfl
  show 4 + (kn + pre (fun _ => 4) kn) ≤ _
  omega
/-! ### Lists of leaves that are gathered -/
structure Tl (lo : Nat) (wr : World) (v : Value) (n : Nat) (A : Nat → Option Addr) (C : Nat → Nat) (p m : Nat → Nat → Int) (ZB : Nat → Prop) (Z : Nat → Nat → Prop) : Prop where
  buf : Buf 147 1 ZB wr v n (fun i => .slice (A i) 4 (C i))
  own : ∀ i, i < n → UndosOwn (Z i) wr (A i) 4 (p i) (m i)
  zb : ∀ x, ZB x → lo ≤ x ∧ x < wr.heap.size
  z : ∀ i, i < n → ∀ x, Z i x → (lo ≤ x ∧ x < wr.heap.size) ∧ ¬ ZB x
  dis : ∀ i j, i < n → j < n → i ≠ j → ∀ x, Z i x → ¬ Z j x
theorem Tl.nil (lo : Nat) (wr : World) (p m : Nat → Nat → Int) : Tl lo wr (.slice none 0 0) 0 (fun _ => none) (fun _ => 0) p m (fun _ => False) (fun _ _ => False) :=
  ⟨Buf.nil _ _ _ _ _, fun i hi => absurd hi (Nat.not_lt_zero _), fun _ h => h.elim, fun i hi => absurd hi (Nat.not_lt_zero _), fun i j hi => absurd hi (Nat.not_lt_zero _)⟩
theorem Tl.mod {lo : Nat} {wr w' : World} {v : Value} {n : Nat} {A : Nat → Option Addr} {C : Nat → Nat} {p m : Nat → Nat → Int} {ZB Q : Nat → Prop} {Z : Nat → Nat → Prop} (h : Tl lo wr v n A C p m ZB Z) (hm : Mod Q wr w') (hq : ∀ x, lo ≤ x → ¬ Q x) : Tl lo w' v n A C p m ZB Z := by
  have hs := hm.size
  exact ⟨h.buf.mod hm (fun x hx => hq x (h.zb x hx).1), fun i hi => (h.own i hi).mod hm (fun x hx => hq x (h.z i hi x hx).1.1), fun x hx => by have := h.zb x hx; omega, fun i hi x hx => by have := h.z i hi x hx; exact ⟨by omega, this.2⟩, h.dis⟩
theorem Tl.go {lo : Nat} {wr w' : World} {v : Value} {n : Nat} {A : Nat → Option Addr} {C : Nat → Nat} {p m : Nat → Nat → Int} {ZB : Nat → Prop} {Z : Nat → Nat → Prop} (h : Tl lo wr v n A C p m ZB Z) (hb : Blw wr w') : Tl lo w' v n A C p m ZB Z := h.mod (hb.mod (fun _ => False)) (fun _ _ => id)
theorem info78 : (Try.prog.info? 147).map (fun i => (i.zero, i.size, i.bytes)) = some (some (.slice none 0 0), 1, 24) := by kernel_rfl
theorem box1_cell (w : World) (u : Value) (t : TypeId) : (w.alloc (.cells #[u] t)).cell? ((⟨w.heap.size, 0, none⟩ : Addr).add 0) = some u :=
  (Row.of_cells (heap_alloc_new w (.cells #[u] t)) (fun _ => u) (fun i hi => by obtain rfl : i = 0 := by simpa using hi
                                                                                rfl)).cell (i := 0) (by simp)
theorem Tl.push {lo s0 : Nat} {wr w1 : World} {v : Value} {n : Nat} {A : Nat → Option Addr} {C : Nat → Nat} {p m : Nat → Nat → Int} {ZB : Nat → Prop} {Z : Nat → Nat → Prop} (h : Tl lo wr v n A C p m ZB Z) (hb : Blw wr w1) (hlo : lo ≤ s0) (hs0 : wr.heap.size ≤ s0) (hs9 : s0 ≤ w1.heap.size) {ao : Option Addr} {cap : Nat} (ho : UndosOwn (fun x => s0 ≤ x ∧ x < w1.heap.size) w1 ao 4 (p n) (m n)) (hn : n ≤ 1048576) :
    ∃ ao' cap' w2 ZB', (Builtin.append_ #[27, 27] 27 #[v, .slice (some ⟨w1.heap.size, 0, none⟩) 1 1]).run Try.prog (w1.alloc (.cells #[.slice ao 4 cap] 147)) = .ok (.slice ao' (n + 1) cap') w2 ∧ Tl lo w2 (.slice ao' (n + 1) cap') (n + 1) (fun i => if i = n then ao else A i) (fun i => if i = n then cap else C i) p m ZB' (fun i x => if i = n then (s0 ≤ x ∧ x < w1.heap.size) else Z i x) ∧ Mod ZB w1 w2 := by
  have hbA : Blw w1 (w1.alloc (.cells #[.slice ao 4 cap] 147)) := (Blw.refl _).alloc _
  have hb1 : Blw wr (w1.alloc (.cells #[.slice ao 4 cap] 147)) := hb.trans hbA
  have hX : Buf 147 1 ZB (w1.alloc (.cells #[.slice ao 4 cap] 147)) v n (fun i => .slice (A i) 4 (C i)) := h.buf.blw hb1
  obtain ⟨i0, hi0, hz0, hz1, hz2⟩ := info_parts info78
  have hsb := hb.size
  have hs1 : (w1.alloc (.cells #[.slice ao 4 cap] 147)).heap.size = w1.heap.size + 1 := by simp
  obtain ⟨ao', cap', w2, hrun, hB, hM0⟩ := Buf.append Try.underlying27 hi0 hz0 hz1 hz2 rfl (by decide) hX (ao := some ⟨w1.heap.size, 0, none⟩) (m := 1) 1 (G := fun _ => .slice ao 4 cap) (fun e => by cases e) (fun ad e j hj => by
      cases e
      obtain rfl : j = 0 := by omega
      exact box1_cell w1 _ 147) (fun j => rfl) (by omega) (by decide) 27
  have hM : Mod ZB (w1.alloc (.cells #[.slice ao 4 cap] 147)) w2 := hM0.mono (fun x hx => h.buf.2 x hx)
  rw [hs1] at hB
  have s2 := hM.size
  rw [hs1] at s2
  refine ⟨ao', cap', w2, _, hrun, ⟨hB.congr (fun i hi => ?_), fun i hi => ?_, fun x hx => ?_, fun i hi x hx => ?_, fun i i' hi hi' hne x hx hx' => ?_⟩, (hbA.mod ZB).trans hM⟩
  · simp only [cat, Nat.mul_one]
    by_cases e : i < n
    · have e2 : ¬ i = n := by omega
      simp only [e, e2, if_true, if_false]
    · have e2 : i = n := by omega
      simp only [e, e2, if_true, if_false, Nat.lt_irrefl]
  · by_cases e : i = n
    · subst e
      simp only [if_pos]
      exact (ho.blw hbA).mod hM (fun x hx hz => by have := h.zb x hz; omega)
    · simp only [if_neg e]
      exact ((h.own i (by omega)).blw hb1).mod hM (fun x hx hz => (h.z i (by omega) x hx).2 hz)
  · have hx2 : (ZB x ∨ x = w1.heap.size + 1) ∧ x < w2.heap.size := hx
    rcases hx2.1 with h1 | h1
    · have := h.zb x h1; omega
    · omega
  · by_cases e : i = n
    · simp only [if_pos e] at hx
      refine ⟨by omega, fun hc => ?_⟩
      have hc : (ZB x ∨ x = w1.heap.size + 1) ∧ x < w2.heap.size := hc
      rcases hc.1 with h1 | h1
      · have := h.zb x h1; omega
      · omega
    · simp only [if_neg e] at hx
      have hz := h.z i (by omega) x hx
      refine ⟨by omega, fun hc => ?_⟩
      have hc : (ZB x ∨ x = w1.heap.size + 1) ∧ x < w2.heap.size := hc
      rcases hc.1 with h1 | h1
      · exact hz.2 h1
      · omega
  · by_cases e : i = n
    · have e' : ¬ i' = n := by omega
      simp only [if_pos e] at hx
      simp only [if_neg e'] at hx'
      have := h.z i' (by omega) x hx'; omega
    · simp only [if_neg e] at hx
      by_cases e' : i' = n
      · simp only [if_pos e'] at hx'
        have := h.z i (by omega) x hx; omega
      · simp only [if_neg e'] at hx'
        exact h.dis i i' (by omega) (by omega) hne x hx hx'
theorem Tl.ps {lo : Nat} {wr : World} {v : Value} {n : Nat} {A : Nat → Option Addr} {C : Nat → Nat} {p m : Nat → Nat → Int} {ZB : Nat → Prop} {Z : Nat → Nat → Prop} (h : Tl lo wr v n A C p m ZB Z) (hn : n ≤ 1048576) :
    ∃ ao cap, v = .slice ao n cap ∧ PSOwn (fun x => lo ≤ x ∧ x < wr.heap.size) wr ao ⟨n, fun _ => 4, p, m⟩ := by
  obtain ⟨ao, cap, e, h1⟩ := h.buf.form
  refine ⟨ao, cap, e, by show n ≤ _; omega, fun h0 => ?_⟩
  obtain ⟨g, hg, ea, hr⟩ := h1 h0
  rw [Nat.mul_one] at hr
  refine ⟨g, A, C, Z, ea, ⟨hr, h.own, fun i hi x hx => ?_, h.dis, h.zb g hg⟩⟩
  have := h.z i hi x hx
  exact ⟨this.1, fun e => this.2 (by rw [e]; exact hg)⟩
theorem Tl.congr {lo : Nat} {wr : World} {v : Value} {n : Nat} {A : Nat → Option Addr} {C : Nat → Nat} {p m p' m' : Nat → Nat → Int} {ZB : Nat → Prop} {Z : Nat → Nat → Prop} (h : Tl lo wr v n A C p m ZB Z) (hp : ∀ i, i < n → ∀ j, j < 4 → p i j = p' i j ∧ m i j = m' i j) : Tl lo wr v n A C p' m' ZB Z :=
  ⟨h.buf, fun i hi => (h.own i hi).congr (fun j hj => hp i hi j hj), h.zb, h.z, h.dis⟩
end Go.Proofs.Ytjplodenflkghaa
