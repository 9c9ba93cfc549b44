/- Merged by program, in this order: Rec, Short, WkL, Step, ChgS, PlayT, PlayP, Steps, OpenS. -/
import Derived.Test.YtcfdagmcnaepgaaJoin8
/- Lists of structs of K numbers: what they read as, what is owned. -/
namespace Go.Proofs.Ytcfdagmcnaepgaa
open Go.RowKit
set_option linter.unusedSimpArgs false
set_option linter.unusedVariables false
def kc (K : Nat) (F : Nat → Nat → Int) : Nat → Value := fun j => .int .i64 (F (j / K) (j % K))
theorem kc_at {K : Nat} (F : Nat → Nat → Int) (i : Nat) {c : Nat} (hc : c < K) : kc K F (i * K + c) = .int .i64 (F i c) := by
  unfold kc
  rw [Nat.mul_comm, Nat.mul_add_div (by omega), Nat.div_eq_of_lt hc, Nat.mul_add_mod, Nat.mod_eq_of_lt hc, Nat.add_zero]
theorem kc_lt {K n i c : Nat} (hi : i < n) (hc : c < K) : i * K + c < n * K := by
  have : (i + 1) * K ≤ n * K := Nat.mul_le_mul_right K hi
  rw [Nat.succ_mul] at this
  omega
/-- The slice at 'ao' reads as the n structs F, all in blocks of Y. -/
def KAt (K : Nat) (Y : Nat → Prop) (w : World) (ao : Option Addr) (n : Nat) (F : Nat → Nat → Int) : Prop :=
  n ≤ 9223372036854775807 ∧ ∀ i, i < n → ∃ b o, ao = some ⟨b, o, none⟩ ∧ Y b ∧ ∀ c, c < K → w.cell? ⟨b, o + i * K + c, none⟩ = some (.int .i64 (F i c))
def KOwn (K : Nat) (X : Nat → Prop) (w : World) (ao : Option Addr) (n : Nat) (F : Nat → Nat → Int) : Prop :=
  n ≤ 9223372036854775807 ∧ (0 < n → ∃ b, X b ∧ ao = some ⟨b, 0, none⟩ ∧ Row w b (n * K) (kc K F))
theorem k_get {w : World} {b n K : Nat} {F : Nat → Nat → Int} (r : Row w b (n * K) (kc K F)) {i c : Nat} (hi : i < n) (hc : c < K) : w.cell? ⟨b, i * K + c, none⟩ = some (.int .i64 (F i c)) := by
  rw [r.cell (kc_lt hi hc), kc_at F i hc]
theorem KOwn.at {K : Nat} {X : Nat → Prop} {w : World} {ao : Option Addr} {n : Nat} {F : Nat → Nat → Int} (h : KOwn K X w ao n F) : KAt K X w ao n F := by
  refine ⟨h.1, fun i hi => ?_⟩
  obtain ⟨b, hx, e, hr⟩ := h.2 (by omega)
  exact ⟨b, 0, e, hx, fun c hc => by rw [Nat.zero_add]; exact k_get hr hi hc⟩
theorem KAt.blw {K : Nat} {Y : Nat → Prop} {w w' : World} {ao : Option Addr} {n : Nat} {F : Nat → Nat → Int} (h : KAt K Y w ao n F) (hb : Blw w w') : KAt K Y w' ao n F :=
  ⟨h.1, fun i hi => let ⟨b, o, e, hY, h0⟩ := h.2 i hi; ⟨b, o, e, hY, fun c hc => hb.cell (h0 c hc)⟩⟩
theorem KAt.mod {K : Nat} {Y : Nat → Prop} {w w' : World} {ao : Option Addr} {n : Nat} {F : Nat → Nat → Int} {X : Nat → Prop} (h : KAt K Y w ao n F) (hb : Mod X w w') (hxy : ∀ k, Y k → ¬ X k) : KAt K Y w' ao n F :=
  ⟨h.1, fun i hi => let ⟨b, o, e, hY, h0⟩ := h.2 i hi; ⟨b, o, e, hY, fun c hc => hb.cell (h0 c hc) (hxy _ hY)⟩⟩
theorem KAt.mono {K : Nat} {Y : Nat → Prop} {w : World} {ao : Option Addr} {n : Nat} {F : Nat → Nat → Int} {X : Nat → Prop} (h : KAt K X w ao n F) (hxy : ∀ b, X b → Y b) : KAt K Y w ao n F :=
  ⟨h.1, fun i hi => let ⟨b, o, e, hY, h0⟩ := h.2 i hi; ⟨b, o, e, hxy _ hY, h0⟩⟩
theorem KAt.congr {K : Nat} {Y : Nat → Prop} {w : World} {ao : Option Addr} {n : Nat} {F : Nat → Nat → Int} {F' : Nat → Nat → Int} (h : KAt K Y w ao n F) (e : ∀ i c, i < n → c < K → F i c = F' i c) : KAt K Y w ao n F' :=
  ⟨h.1, fun i hi => let ⟨b, o, ea, hY, h0⟩ := h.2 i hi; ⟨b, o, ea, hY, fun c hc => by rw [← e i c hi hc]; exact h0 c hc⟩⟩
theorem KOwn.mod {K : Nat} {X Z : Nat → Prop} {w w' : World} {ao : Option Addr} {n : Nat} {F : Nat → Nat → Int} (h : KOwn K X w ao n F) (hb : Mod Z w w') (hxz : ∀ b, X b → ¬ Z b) : KOwn K X w' ao n F :=
  ⟨h.1, fun hn => let ⟨b, hx, e, hr⟩ := h.2 hn; ⟨b, hx, e, hr.mod hb (hxz _ hx)⟩⟩
theorem KOwn.blw {K : Nat} {X : Nat → Prop} {w w' : World} {ao : Option Addr} {n : Nat} {F : Nat → Nat → Int} (h : KOwn K X w ao n F) (hb : Blw w w') : KOwn K X w' ao n F := h.mod (hb.mod (fun _ => False)) (fun _ _ => id)
theorem KOwn.mono {K : Nat} {X Y : Nat → Prop} {w : World} {ao : Option Addr} {n : Nat} {F : Nat → Nat → Int} (h : KOwn K X w ao n F) (hxy : ∀ b, X b → Y b) : KOwn K Y w ao n F :=
  ⟨h.1, fun hn => let ⟨b, hx, e, hr⟩ := h.2 hn; ⟨b, hxy _ hx, e, hr⟩⟩
theorem KOwn.nil (K : Nat) (X : Nat → Prop) (w : World) (ao : Option Addr) (F : Nat → Nat → Int) : KOwn K X w ao 0 F := ⟨by omega, fun h => absurd h (by omega)⟩
theorem KOwn.congr {K : Nat} {X : Nat → Prop} {w : World} {ao : Option Addr} {n : Nat} {F F' : Nat → Nat → Int} (hK : 0 < K) (h : KOwn K X w ao n F) (e : ∀ i c, i < n → c < K → F i c = F' i c) : KOwn K X w ao n F' :=
  ⟨h.1, fun hn => let ⟨b, hx, ea, hr⟩ := h.2 hn; ⟨b, hx, ea, hr.congr fun j hj => by
    unfold kc
    rw [e (j / K) (j % K) (Nat.div_lt_of_lt_mul (by rw [Nat.mul_comm]; exact hj)) (Nat.mod_lt _ hK)]⟩⟩
def updF (F : Nat → Nat → Int) (i c : Nat) (v : Int) : Nat → Nat → Int := fun a b => if a = i ∧ b = c then v else F a b
theorem setK {w : World} {b n K : Nat} {F : Nat → Nat → Int} (r : Row w b (n * K) (kc K F)) (i : Nat) {c : Nat} (hc : c < K) (v : Int) : Row (w.setCell ⟨b, i * K + c, none⟩ (.int .i64 v)) b (n * K) (kc K (updF F i c v)) :=
  (r.set (i * K + c) _).congr (fun j hj => by
    have hK : 0 < K := by omega
    by_cases e : j = i * K + c
    · rw [if_pos e, e, kc_at _ i hc]; unfold updF; rw [if_pos ⟨rfl, rfl⟩]
    · rw [if_neg e]
      unfold kc updF
      have : ¬ (j / K = i ∧ j % K = c) := fun h => e (by have h1 := Nat.div_add_mod j K; rw [h.1, h.2, Nat.mul_comm] at h1; exact h1.symm)
      rw [if_neg this])
/-- What a list holds behind a mark. -/
def mkK (K : Nat) (k : Int) : Nat → Nat → Int := fun i c => k + K * i + c
def upK (G F : Nat → Nat → Int) (i : Nat) : Nat → Nat → Int := fun a c => if a < i then G a c else F a c
theorem upK_zero (G F : Nat → Nat → Int) : upK G F 0 = F := by funext a c; unfold upK; rw [if_neg (Nat.not_lt_zero _)]
theorem upK_all {K : Nat} {X : Nat → Prop} {w : World} {ao : Option Addr} {n : Nat} {G F : Nat → Nat → Int} (hK : 0 < K) (h : KOwn K X w ao n (upK G F n)) : KOwn K X w ao n G := h.congr hK (fun i c hi _ => by unfold upK; rw [if_pos hi])
theorem kAt_get {K : Nat} {Y : Nat → Prop} {w : World} {ao : Option Addr} {n : Nat} {F : Nat → Nat → Int} (h : KAt K Y w ao n F) {i : Nat} (hi : i < n) : ∃ b o, ao = some ⟨b, o, none⟩ ∧ Y b ∧ ∀ c, c < K → w.cell? ⟨b, o + i * K + c, none⟩ = some (.int .i64 (F i c)) := h.2 i hi
theorem Row.madeK (w : World) (z : Array Value) (v : Value) (hz : ∀ i, i < z.size → z[i]? = some v) (h0 : 0 < z.size) (n : Nat) (t : TypeId) : Row (w.alloc (.cells (madeCells z n) t)) w.heap.size n (fun _ => v) := by
  refine ⟨_, t, heap_alloc_new _ _, by simp [madeCells], fun i hi => ?_⟩
  have h2 : i % z.size < z.size := Nat.mod_lt _ h0
  have := hz (i % z.size) h2
  simp [madeCells, hi, getElem!_def, this]
end Go.Proofs.Ytcfdagmcnaepgaa
/- The laws' functions on lists of Sh. -/
namespace Go.Proofs.Ytcfdagmcnaepgaa
open Go.RowKit
set_option linter.unusedSimpArgs false
set_option linter.unusedVariables false
end Go.Proofs.Ytcfdagmcnaepgaa
/- Walkers: what they read as, what is owned; compared, marked, held. -/
namespace Go.Proofs.Ytcfdagmcnaepgaa
open Go.RowKit
set_option linter.unusedSimpArgs false
set_option linter.unusedVariables false
theorem box4 (w : World) (a b c d : Value) (t : TypeId) : Row (w.alloc (.cells #[a, b, c, d] t)) w.heap.size 4 (fun i => if i = 0 then a else if i = 1 then b else if i = 2 then c else d) :=
  ⟨_, t, heap_alloc_new _ _, by simp, fun i hi => by
    match i, hi with
    | 0, _ => rfl
    | 1, _ => rfl
    | 2, _ => rfl
    | 3, _ => rfl⟩
theorem get4 {w : World} {B : Nat} {a b c d : Value} (r : Row w B 4 (fun i => if i = 0 then a else if i = 1 then b else if i = 2 then c else d)) : w.cell? ⟨B, 0, none⟩ = some a ∧ w.cell? ⟨B, 1, none⟩ = some b ∧ w.cell? ⟨B, 2, none⟩ = some c ∧ w.cell? ⟨B, 3, none⟩ = some d :=
  ⟨r.cell (i := 0) (by omega), r.cell (i := 1) (by omega), r.cell (i := 2) (by omega), r.cell (i := 3) (by omega)⟩
/-- What a walker holds: its table, its short ways, its hits. -/
structure KD where
  B : BD
  n : Nat
  F : Nat → Nat → Int
  h : Int
abbrev KD.zero : KD := ⟨BD.zero, 0, fun _ _ => 0, 0⟩
structure KV where
  b : BV
  a : Option Addr
  q : Nat
abbrev KV.zero : KV := ⟨BV.zero, none, 0⟩
abbrev KV.cells (v : KV) (D : KD) : Array Value := #[.slice v.b.a1 D.B.n v.b.c1, .slice v.b.a2 D.B.D.n v.b.c2, .slice v.a D.n v.q, .int .i64 D.h]
abbrev KV.val (v : KV) (D : KD) : Value := .agg (v.cells D)
abbrev kb (v : KV) (D : KD) : Nat → Value := fun i => if i = 0 then .slice v.b.a1 D.B.n v.b.c1 else if i = 1 then .slice v.b.a2 D.B.D.n v.b.c2 else if i = 2 then .slice v.a D.n v.q else .int .i64 D.h
structure WkAt (Y : Nat → Prop) (w : World) (v : KV) (D : KD) : Prop where
  t : BookAt Y w v.b D.B
  k : KAt 3 Y w v.a D.n D.F
structure WkOwn (X : Nat → Prop) (w : World) (v : KV) (D : KD) : Prop where
  ex : ∃ X1 X2 : Nat → Prop, (∀ b, X1 b → X b ∧ ¬ X2 b) ∧ (∀ b, X2 b → X b) ∧ BookOwn X1 w v.b D.B ∧ KOwn 3 X2 w v.a D.n D.F
theorem WkAt.blw {Y : Nat → Prop} {w w' : World} {v : KV} {D : KD} (h : WkAt Y w v D) (hb : Blw w w') : WkAt Y w' v D := ⟨h.t.blw hb, h.k.blw hb⟩
theorem WkAt.mod {X Y : Nat → Prop} {w w' : World} {v : KV} {D : KD} (h : WkAt Y w v D) (hb : Mod X w w') (hxy : ∀ k, Y k → ¬ X k) : WkAt Y w' v D := ⟨h.t.mod hb hxy, h.k.mod hb hxy⟩
theorem WkAt.mono {X Y : Nat → Prop} {w : World} {v : KV} {D : KD} (h : WkAt X w v D) (hxy : ∀ b, X b → Y b) : WkAt Y w v D := ⟨h.t.mono hxy, h.k.mono hxy⟩
theorem WkOwn.at {X : Nat → Prop} {w : World} {v : KV} {D : KD} (h : WkOwn X w v D) : WkAt X w v D := by
  obtain ⟨X1, X2, d1, d2, ht, hk⟩ := h.ex
  exact ⟨ht.at.mono (fun b hb => (d1 b hb).1), hk.at.mono d2⟩
theorem WkOwn.mod {X Z : Nat → Prop} {w w' : World} {v : KV} {D : KD} (h : WkOwn X w v D) (hb : Mod Z w w') (hxz : ∀ b, X b → ¬ Z b) : WkOwn X w' v D := by
  obtain ⟨X1, X2, d1, d2, ht, hk⟩ := h.ex
  exact ⟨X1, X2, d1, d2, ht.mod hb (fun b hx => hxz b (d1 b hx).1), hk.mod hb (fun b hx => hxz b (d2 b hx))⟩
theorem WkOwn.blw {X : Nat → Prop} {w w' : World} {v : KV} {D : KD} (h : WkOwn X w v D) (hb : Blw w w') : WkOwn X w' v D := h.mod (hb.mod (fun _ => False)) (fun _ _ => id)
theorem WkOwn.mono {X Y : Nat → Prop} {w : World} {v : KV} {D : KD} (h : WkOwn X w v D) (hxy : ∀ b, X b → Y b) : WkOwn Y w v D := by
  obtain ⟨X1, X2, d1, d2, ht, hk⟩ := h.ex
  exact ⟨X1, X2, fun b hb => ⟨hxy b (d1 b hb).1, (d1 b hb).2⟩, fun b hb => hxy b (d2 b hb), ht, hk⟩
theorem WkOwn.zero (X : Nat → Prop) (w : World) : WkOwn X w KV.zero KD.zero := ⟨fun _ => False, fun _ => False, fun _ h => h.elim, fun _ h => h.elim, BookOwn.zero _ _, KOwn.nil _ _ _ _ _⟩
def KD.marked (D : KD) (k : Int) : KD := ⟨D.B.marked k, D.n, mkK 3 (k + D.B.total), D.h⟩
def KD.total (D : KD) : Nat := D.B.total + 3 * D.n
def KD.small (D : KD) : Prop := D.B.n + (D.B.D.n + D.B.D.tot) ≤ 1048576 ∧ D.n ≤ 1048576
end Go.Proofs.Ytcfdagmcnaepgaa
/- Steps that are right: the program's and the model's. -/
namespace Go.Proofs.Ytcfdagmcnaepgaa
open Go.RowKit
set_option linter.unusedSimpArgs false
set_option linter.unusedVariables false
def rightS (k a g y : Int) : Prop := pgOK a ∧ ((k = 2 ∧ pgOK g ∧ mayOK y) ∨ ((k = 1 ∨ k = 4) ∧ g = 0 ∧ mayOK y) ∨ (k = 3 ∧ g = 0 ∧ y = 0))
set_option maxHeartbeats 3200000 in
theorem isStep_any (k a g y : Int) (w : World) : Calls Try.prog 109 #[.agg #[.int .i64 k, .int .i64 a, .int .i64 g, .int .i64 y]] w fun e w' => ∃ r, e = .returned (.bool r) ∧ (r = true ↔ rightS k a g y) ∧ Blw w w' := by
  have HB : Hid (Blw w (w.alloc (.cells #[.int .i64 k, .int .i64 a, .int .i64 g, .int .i64 y] 103))) := (Blw.refl _).alloc _
  have hr := box4 w (.int .i64 k) (.int .i64 a) (.int .i64 g) (.int .i64 y) 103
  obtain ⟨b0, b1, b2, b3⟩ := get4 hr
  clear hr
  go_enter Try.func109, Try.ntmps109
  go_wp2_with fail
  generalize w.alloc (.cells #[.int .i64 k, .int .i64 a, .int .i64 g, .int .i64 y] 103) = w0 at *
  refine (isPlace_any a _).mono ?_
  rintro e w0 ⟨r, rfl, hr, rfl⟩
  have HT : Hid (r = true ↔ pgOK a) := hr
  clear hr
  cases r
  · have HN : Hid (¬ pgOK a) := fun q => by have := HT.out.2 q; simp at this
    clear HT
    go_wp2
    go_ret
    exact ⟨false, rfl, iff_f (fun q => HN.out q.1), HB.out⟩
  · have HY : Hid (pgOK a) := HT.out.1 (by first | rfl | trivial)
    clear HT
    have HA : Hid (pgOK a) := HY.out
    clear HY
    by_cases k2 : k = 2
    · subst k2
      go_wp2_with fail
      refine (isPage_any g _).mono ?_
      rintro e w0 ⟨r, rfl, hr, rfl⟩
      have HT : Hid (r = true ↔ pgOK g) := hr
      clear hr
      cases r
      · have HN : Hid (¬ pgOK g) := fun q => by have := HT.out.2 q; simp at this
        clear HT
        go_wp2
        go_ret
        exact ⟨false, rfl, iff_f (fun q => HN.out (by rcases q.2 with h | h | h <;> first | exact h.2.1 | (exfalso; omega))), HB.out⟩
      · have HY : Hid (pgOK g) := HT.out.1 (by first | rfl | trivial)
        clear HT
        have HP : Hid (pgOK g) := HY.out
        clear HY
        go_wp2_with fail
        refine (isMay_any y _).mono ?_
        rintro e w0 ⟨r, rfl, hr, rfl⟩
        have HT : Hid (r = true ↔ mayOK y) := hr
        clear hr
        cases r
        · have HN : Hid (¬ mayOK y) := fun q => by have := HT.out.2 q; simp at this
          clear HT
          go_wp2
          go_ret
          exact ⟨false, rfl, iff_f (fun q => HN.out (by rcases q.2 with h | h | h <;> first | exact h.2.2 | (exfalso; omega))), HB.out⟩
        · have HY : Hid (mayOK y) := HT.out.1 (by first | rfl | trivial)
          clear HT
          go_wp2
          go_ret
          exact ⟨true, rfl, iff_t (⟨HA.out, Or.inl ⟨rfl, HP.out, HY.out⟩⟩), HB.out⟩
    · have d2 : (k == 2) = false := by simp [k2]
      by_cases k1 : k = 1
      · subst k1
        clear k2 d2
        by_cases g0 : g = 0
        · subst g0
          go_wp2_with fail
          refine (isMay_any y _).mono ?_
          rintro e w0 ⟨r, rfl, hr, rfl⟩
          have HT : Hid (r = true ↔ mayOK y) := hr
          clear hr
          cases r
          · have HN : Hid (¬ mayOK y) := fun q => by have := HT.out.2 q; simp at this
            clear HT
            go_wp2
            go_ret
            exact ⟨false, rfl, iff_f (fun q => HN.out (by rcases q.2 with h | h | h <;> first | exact h.2.2 | (exfalso; omega))), HB.out⟩
          · have HY : Hid (mayOK y) := HT.out.1 (by first | rfl | trivial)
            clear HT
            go_wp2
            go_ret
            exact ⟨true, rfl, iff_t (⟨HA.out, Or.inr (Or.inl ⟨Or.inl rfl, rfl, HY.out⟩)⟩), HB.out⟩
        · have dg : (g == 0) = false := by simp [g0]
          have HN : Hid (¬ g = 0) := g0
          clear g0
          go_wp2
          go_ret
          exact ⟨false, rfl, iff_f (fun q => HN.out (by rcases q.2 with h | h | h <;> first | exact h.2.1 | (exfalso; omega))), HB.out⟩
      · have d1 : (k == 1) = false := by simp [k1]
        by_cases k4 : k = 4
        · subst k4
          clear k2 k1 d2 d1
          by_cases g0 : g = 0
          · subst g0
            go_wp2_with fail
            refine (isMay_any y _).mono ?_
            rintro e w0 ⟨r, rfl, hr, rfl⟩
            have HT : Hid (r = true ↔ mayOK y) := hr
            clear hr
            cases r
            · have HN : Hid (¬ mayOK y) := fun q => by have := HT.out.2 q; simp at this
              clear HT
              go_wp2
              go_ret
              exact ⟨false, rfl, iff_f (fun q => HN.out (by rcases q.2 with h | h | h <;> first | exact h.2.2 | (exfalso; omega))), HB.out⟩
            · have HY : Hid (mayOK y) := HT.out.1 (by first | rfl | trivial)
              clear HT
              go_wp2
              go_ret
              exact ⟨true, rfl, iff_t (⟨HA.out, Or.inr (Or.inl ⟨Or.inr rfl, rfl, HY.out⟩)⟩), HB.out⟩
          · have dg : (g == 0) = false := by simp [g0]
            have HN : Hid (¬ g = 0) := g0
            clear g0
            go_wp2
            go_ret
            exact ⟨false, rfl, iff_f (fun q => HN.out (by rcases q.2 with h | h | h <;> first | exact h.2.1 | (exfalso; omega))), HB.out⟩
        · have d4 : (k == 4) = false := by simp [k4]
          by_cases k3 : k = 3
          · subst k3
            clear k2 k1 k4 d2 d1 d4
            by_cases g0 : g = 0
            · subst g0
              by_cases y0 : y = 0
              · subst y0
                go_wp2
                go_ret
                exact ⟨true, rfl, iff_t ⟨HA.out, Or.inr (Or.inr ⟨rfl, rfl, rfl⟩)⟩, HB.out⟩
              · have dy : (y == 0) = false := by simp [y0]
                have HN : Hid (¬ y = 0) := y0
                clear y0
                go_wp2
                go_ret
                exact ⟨false, rfl, iff_f (fun q => HN.out (by rcases q.2 with h | h | h <;> first | exact h.2.2 | (exfalso; omega))), HB.out⟩
            · have dg : (g == 0) = false := by simp [g0]
              have HN : Hid (¬ g = 0) := g0
              clear g0
              go_wp2
              go_ret
              exact ⟨false, rfl, iff_f (fun q => HN.out (by rcases q.2 with h | h | h <;> first | exact h.2.1 | (exfalso; omega))), HB.out⟩
          · have d3 : (k == 3) = false := by simp [k3]
            have HN : Hid (¬ rightS k a g y) := fun q => by rcases q.2 with h | h | h <;> omega
            clear k2 k1 k4 k3
            go_wp2
            go_ret
            exact ⟨false, rfl, iff_f HN.out, HB.out⟩
set_option maxHeartbeats 3200000 in
theorem l7Right_any (k a g y : Int) (w : World) : Calls Try.prog 83 #[.agg #[.int .i64 k, .int .i64 a, .int .i64 g, .int .i64 y]] w fun e w' => ∃ r, e = .returned (.bool r) ∧ (r = true ↔ rightS k a g y) ∧ Blw w w' := by
  have HB : Hid (Blw w (w.alloc (.cells #[.int .i64 k, .int .i64 a, .int .i64 g, .int .i64 y] 103))) := (Blw.refl _).alloc _
  have hr := box4 w (.int .i64 k) (.int .i64 a) (.int .i64 g) (.int .i64 y) 103
  obtain ⟨b0, b1, b2, b3⟩ := get4 hr
  clear hr
  go_enter Try.func83, Try.ntmps83
  go_wp2_with fail
  generalize w.alloc (.cells #[.int .i64 k, .int .i64 a, .int .i64 g, .int .i64 y] 103) = w0 at *
  refine (l1In_any y 1 3 _).mono ?_
  rintro e w0 ⟨rm, rfl, hm, rfl⟩
  have HM : Hid (rm = true ↔ mayOK y) := hm
  clear hm
  by_cases k1 : k = 1
  · subst k1
    go_wp2_with fail
    refine (l6At_any a _).mono ?_
    rintro e w0 ⟨r, rfl, hr, rfl⟩
    have HT : Hid (r = true ↔ pgOK a) := hr
    clear hr
    cases r
    · have HN : Hid (¬ pgOK a) := fun q => by have := HT.out.2 q; simp at this
      clear HT
      go_wp2
      go_ret
      exact ⟨false, rfl, iff_f (fun q => HN.out q.1), HB.out⟩
    · have HY : Hid (pgOK a) := HT.out.1 (by first | rfl | trivial)
      clear HT
      have HA : Hid (pgOK a) := HY.out
      clear HY
      by_cases g0 : g = 0
      · subst g0
        cases rm
        · have HN : Hid (¬ mayOK y) := fun q => by have := HM.out.2 q; simp at this
          go_wp2
          go_ret
          exact ⟨false, rfl, iff_f (fun q => HN.out (by rcases q.2 with h | h | h <;> first | exact h.2.2 | (exfalso; omega))), HB.out⟩
        · have HY : Hid (mayOK y) := HM.out.1 (by first | rfl | trivial)
          go_wp2
          go_ret
          exact ⟨true, rfl, iff_t (⟨HA.out, Or.inr (Or.inl ⟨Or.inl rfl, rfl, HY.out⟩)⟩), HB.out⟩
      · have dg : (g == 0) = false := by simp [g0]
        have HN : Hid (¬ g = 0) := g0
        clear g0
        go_wp2
        go_ret
        exact ⟨false, rfl, iff_f (fun q => HN.out (by rcases q.2 with h | h | h <;> first | exact h.2.1 | (exfalso; omega))), HB.out⟩
  · have d1 : (k == 1) = false := by simp [k1]
    by_cases k4 : k = 4
    · subst k4
      clear k1 d1
      go_wp2_with fail
      refine (l6At_any a _).mono ?_
      rintro e w0 ⟨r, rfl, hr, rfl⟩
      have HT : Hid (r = true ↔ pgOK a) := hr
      clear hr
      cases r
      · have HN : Hid (¬ pgOK a) := fun q => by have := HT.out.2 q; simp at this
        clear HT
        go_wp2
        go_ret
        exact ⟨false, rfl, iff_f (fun q => HN.out q.1), HB.out⟩
      · have HY : Hid (pgOK a) := HT.out.1 (by first | rfl | trivial)
        clear HT
        have HA : Hid (pgOK a) := HY.out
        clear HY
        by_cases g0 : g = 0
        · subst g0
          cases rm
          · have HN : Hid (¬ mayOK y) := fun q => by have := HM.out.2 q; simp at this
            go_wp2
            go_ret
            exact ⟨false, rfl, iff_f (fun q => HN.out (by rcases q.2 with h | h | h <;> first | exact h.2.2 | (exfalso; omega))), HB.out⟩
          · have HY : Hid (mayOK y) := HM.out.1 (by first | rfl | trivial)
            go_wp2
            go_ret
            exact ⟨true, rfl, iff_t (⟨HA.out, Or.inr (Or.inl ⟨Or.inr rfl, rfl, HY.out⟩)⟩), HB.out⟩
        · have dg : (g == 0) = false := by simp [g0]
          have HN : Hid (¬ g = 0) := g0
          clear g0
          go_wp2
          go_ret
          exact ⟨false, rfl, iff_f (fun q => HN.out (by rcases q.2 with h | h | h <;> first | exact h.2.1 | (exfalso; omega))), HB.out⟩
    · have d4 : (k == 4) = false := by simp [k4]
      by_cases k2 : k = 2
      · subst k2
        clear k1 k4 d1 d4
        go_wp2_with fail
        refine (l6At_any a _).mono ?_
        rintro e w0 ⟨r, rfl, hr, rfl⟩
        have HT : Hid (r = true ↔ pgOK a) := hr
        clear hr
        cases r
        · have HN : Hid (¬ pgOK a) := fun q => by have := HT.out.2 q; simp at this
          clear HT
          go_wp2
          go_ret
          exact ⟨false, rfl, iff_f (fun q => HN.out q.1), HB.out⟩
        · have HY : Hid (pgOK a) := HT.out.1 (by first | rfl | trivial)
          clear HT
          have HA : Hid (pgOK a) := HY.out
          clear HY
          go_wp2_with fail
          refine (l1In_any g 0 15 _).mono ?_
          rintro e w0 ⟨r, rfl, hr, rfl⟩
          have HT : Hid (r = true ↔ (0 ≤ g ∧ g ≤ 15)) := hr
          clear hr
          cases r
          · have HN : Hid (¬ (0 ≤ g ∧ g ≤ 15)) := fun q => by have := HT.out.2 q; simp at this
            clear HT
            go_wp2
            go_ret
            exact ⟨false, rfl, iff_f (fun q => HN.out (by rcases q.2 with h | h | h <;> first | exact h.2.1 | (exfalso; omega))), HB.out⟩
          · have HY : Hid ((0 ≤ g ∧ g ≤ 15)) := HT.out.1 (by first | rfl | trivial)
            clear HT
            cases rm
            · have HN : Hid (¬ mayOK y) := fun q => by have := HM.out.2 q; simp at this
              go_wp2
              go_ret
              exact ⟨false, rfl, iff_f (fun q => HN.out (by rcases q.2 with h | h | h <;> first | exact h.2.2 | (exfalso; omega))), HB.out⟩
            · have HY2 : Hid (mayOK y) := HM.out.1 (by first | rfl | trivial)
              go_wp2
              go_ret
              exact ⟨true, rfl, iff_t (⟨HA.out, Or.inl ⟨rfl, HY.out, HY2.out⟩⟩), HB.out⟩
      · have d2 : (k == 2) = false := by simp [k2]
        by_cases k3 : k = 3
        · subst k3
          clear k2 k1 k4 d2 d1 d4
          go_wp2_with fail
          refine (l6At_any a _).mono ?_
          rintro e w0 ⟨r, rfl, hr, rfl⟩
          have HT : Hid (r = true ↔ pgOK a) := hr
          clear hr
          cases r
          · have HN : Hid (¬ pgOK a) := fun q => by have := HT.out.2 q; simp at this
            clear HT
            go_wp2
            go_ret
            exact ⟨false, rfl, iff_f (fun q => HN.out q.1), HB.out⟩
          · have HY : Hid (pgOK a) := HT.out.1 (by first | rfl | trivial)
            clear HT
            have HA : Hid (pgOK a) := HY.out
            clear HY
            by_cases g0 : g = 0
            · subst g0
              by_cases y0 : y = 0
              · subst y0
                go_wp2
                go_ret
                exact ⟨true, rfl, iff_t (⟨HA.out, Or.inr (Or.inr ⟨rfl, rfl, rfl⟩)⟩), HB.out⟩
              · have dy : (y == 0) = false := by simp [y0]
                have HN : Hid (¬ y = 0) := y0
                clear y0
                go_wp2
                go_ret
                exact ⟨false, rfl, iff_f (fun q => HN.out (by rcases q.2 with h | h | h <;> first | exact h.2.2 | (exfalso; omega))), HB.out⟩
            · have dg : (g == 0) = false := by simp [g0]
              have HN : Hid (¬ g = 0) := g0
              clear g0
              go_wp2
              go_ret
              exact ⟨false, rfl, iff_f (fun q => HN.out (by rcases q.2 with h | h | h <;> first | exact h.2.1 | (exfalso; omega))), HB.out⟩
        · have d3 : (k == 3) = false := by simp [k3]
          have HN : Hid (¬ rightS k a g y) := fun q => by rcases q.2 with h | h | h <;> omega
          clear k2 k1 k4 k3
          go_wp2
          go_ret
          exact ⟨false, rfl, iff_f (HN.out), HB.out⟩
theorem answerOf_any (x : Int) (r : Bool) (w : World) (hx : 0 ≤ x ∧ x ≤ 15) : Calls Try.prog 110 #[.int .i64 x, .bool r] w fun e w' => e = .returned (.int .i64 (if r = true then 1 + x else 0)) ∧ w' = w := by
  cases r
  · go_enter Try.func110, Try.ntmps110
    go_wp2
    go_ret
    exact ⟨by simp, rfl⟩
  · go_enter Try.func110, Try.ntmps110
    go_wp2
    go_ret
    exact ⟨by simp, rfl⟩
end Go.Proofs.Ytcfdagmcnaepgaa
/- Tables changed by a step: the program's and the model's. -/
namespace Go.Proofs.Ytcfdagmcnaepgaa
open Go.RowKit
set_option linter.unusedSimpArgs false
set_option linter.unusedVariables false
def chgO (B : BD) (k a g y : Int) (R : BD) (r : Bool) : Prop :=
  (k = 2 → chOut B a (fun _ oy => oy = 0 ∧ pgOK g ∧ mayOK y) (fun _ => g) y R r) ∧ (k = 3 → chOut B a (fun _ oy => ¬ oy = 0) (fun _ => 0) 0 R r) ∧ (k = 4 → chOut B a (fun _ oy => ¬ oy = 0 ∧ mayOK y) (fun o => o) y R r)
theorem chgO_same {B : BD} {k a g y : Int} {R R' : BD} {r r' : Bool} (hk : k = 2 ∨ k = 3 ∨ k = 4) (h : chgO B k a g y R r) (h' : chgO B k a g y R' r') : R = R' ∧ r = r' := by
  rcases hk with e | e | e
  · exact chOut_same (h.1 e) (h'.1 e)
  · exact chOut_same (h.2.1 e) (h'.2.1 e)
  · exact chOut_same (h.2.2 e) (h'.2.2 e)
theorem ch_len {B : BD} {a : Int} {P : Int → Int → Prop} {G : Int → Int} {y : Int} {R : BD} {r : Bool} (h : chOut B a P G y R r) (hr : r = true) : ∃ c p m, R = ⟨4, c, ⟨B.D.n, fun _ => 4, p, m⟩⟩ := by
  rcases h with ⟨_, ⟨q, _, rfl⟩, _⟩ | ⟨_, _, e⟩
  · exact ⟨_, _, _, rfl⟩
  · rw [e] at hr; cases hr
theorem chg_len {B : BD} {k a g y : Int} {R : BD} {r : Bool} (hk : k = 2 ∨ k = 3 ∨ k = 4) (h : chgO B k a g y R r) (hr : r = true) : ∃ c p m, R = ⟨4, c, ⟨B.D.n, fun _ => 4, p, m⟩⟩ := by
  rcases hk with e | e | e
  · exact ch_len (h.1 e) hr
  · exact ch_len (h.2.1 e) hr
  · exact ch_len (h.2.2 e) hr
set_option maxRecDepth 10000 in
set_option maxHeartbeats 3200000 in
theorem specChg_any (b : BV) (B : BD) (k a g y : Int) (Y : Nat → Prop) (w : World) (hn : B.n ≤ 1048576) (hk : k = 2 ∨ k = 3 ∨ k = 4) (h : BookAt Y w b B) :
    Calls Try.prog 84 #[b.val B, .agg #[.int .i64 k, .int .i64 a, .int .i64 g, .int .i64 y]] w (GivesB (chgO B k a g y) w) := by
  have hA1 : Blw w (w.alloc (.cells #[.slice b.a1 B.n b.c1, .slice b.a2 B.D.n b.c2] 26)) := (Blw.refl _).alloc _
  have hA2 : Blw (w.alloc (.cells #[.slice b.a1 B.n b.c1, .slice b.a2 B.D.n b.c2] 26)) ((w.alloc (.cells #[.slice b.a1 B.n b.c1, .slice b.a2 B.D.n b.c2] 26)).alloc (.cells #[.int .i64 k, .int .i64 a, .int .i64 g, .int .i64 y] 103)) := (Blw.refl _).alloc _
  have hA3 : Blw ((w.alloc (.cells #[.slice b.a1 B.n b.c1, .slice b.a2 B.D.n b.c2] 26)).alloc (.cells #[.int .i64 k, .int .i64 a, .int .i64 g, .int .i64 y] 103)) (((w.alloc (.cells #[.slice b.a1 B.n b.c1, .slice b.a2 B.D.n b.c2] 26)).alloc (.cells #[.int .i64 k, .int .i64 a, .int .i64 g, .int .i64 y] 103)).alloc (.cells #[.slice none 0 0, .slice none 0 0] 26)) := (Blw.refl _).alloc _
  have hb0 : Blw w (((w.alloc (.cells #[.slice b.a1 B.n b.c1, .slice b.a2 B.D.n b.c2] 26)).alloc (.cells #[.int .i64 k, .int .i64 a, .int .i64 g, .int .i64 y] 103)).alloc (.cells #[.slice none 0 0, .slice none 0 0] 26)) := (hA1.trans hA2).trans hA3
  have HA : Hid (BookAt Y (((w.alloc (.cells #[.slice b.a1 B.n b.c1, .slice b.a2 B.D.n b.c2] 26)).alloc (.cells #[.int .i64 k, .int .i64 a, .int .i64 g, .int .i64 y] 103)).alloc (.cells #[.slice none 0 0, .slice none 0 0] 26)) b B) := h.blw hb0
  have rA := (box2 w (.slice b.a1 B.n b.c1) (.slice b.a2 B.D.n b.c2) 26).blw (hA2.trans hA3)
  have rS := (box4 (w.alloc (.cells #[.slice b.a1 B.n b.c1, .slice b.a2 B.D.n b.c2] 26)) (.int .i64 k) (.int .i64 a) (.int .i64 g) (.int .i64 y) 103).blw hA3
  have rR := box2 ((w.alloc (.cells #[.slice b.a1 B.n b.c1, .slice b.a2 B.D.n b.c2] 26)).alloc (.cells #[.int .i64 k, .int .i64 a, .int .i64 g, .int .i64 y] 103)) (.slice none 0 0) (.slice none 0 0) 26
  simp only [World.size_alloc] at rS rR
  have hsz : (((w.alloc (.cells #[.slice b.a1 B.n b.c1, .slice b.a2 B.D.n b.c2] 26)).alloc (.cells #[.int .i64 k, .int .i64 a, .int .i64 g, .int .i64 y] 103)).alloc (.cells #[.slice none 0 0, .slice none 0 0] 26)).heap.size = w.heap.size + 1 + 1 + 1 := by simp
  clear h hA1 hA2 hA3
  go_enter Try.func84, Try.ntmps84
  obtain ⟨p0, p1⟩ := get2 rA
  obtain ⟨q0, q1, q2, q3⟩ := get4 rS
  clear rA rS
  by_cases k2 : k = 2
  · subst k2
    clear hk
    go_wp2_with fail
    clear p0 p1 q0 q1 q2 q3
    have HSZ : Hid ((((w.alloc (.cells #[.slice b.a1 B.n b.c1, .slice b.a2 B.D.n b.c2] 26)).alloc (.cells #[.int .i64 2, .int .i64 a, .int .i64 g, .int .i64 y] 103)).alloc (.cells #[.slice none 0 0, .slice none 0 0] 26)).heap.size = w.heap.size + 1 + 1 + 1) := hsz
    clear hsz
    generalize (((w.alloc (.cells #[.slice b.a1 B.n b.c1, .slice b.a2 B.D.n b.c2] 26)).alloc (.cells #[.int .i64 2, .int .i64 a, .int .i64 g, .int .i64 y] 103)).alloc (.cells #[.slice none 0 0, .slice none 0 0] 26)) = w0 at *
    refine (specMap_any b B a g y Y _ hn HA.out).mono ?_
    rintro e w1 ⟨b1, R, r, rfl, ho, hs, own, hb1⟩
    have hz := HSZ.out
    have hr := rR.blw hb1
    have hlt := hr.lt
    have FIN : Hid _ := pass_givesT (out := chgO B 2 a g y) (w := w) (W := w1) (z := w.heap.size + 1 + 1) (by omega) ⟨fun _ => ho, fun e => absurd e (by decide), fun e => absurd e (by decide)⟩ hs (hb0.trans hb1) own (fun x hx => ⟨by omega, by omega, hx.2⟩)
    obtain ⟨t0, t1⟩ := get2 hr
    have f0 := hr.frozen 0
    have f1 := hr.frozen 1
    clear HA rR hb0 hb1 own ho hs hr hz hlt HSZ
    go_wp2
    exact bodyPost_ret (v := .tuple #[b1.val R, .bool r]) (by simp [results, Try.results84, go_sem, t0, t1]) rfl FIN.out
  have d2 : (k == 2) = false := by simp [k2]
  by_cases k3 : k = 3
  · subst k3
    clear hk
    go_wp2_with fail
    clear p0 p1 q0 q1 q2 q3
    have HSZ : Hid ((((w.alloc (.cells #[.slice b.a1 B.n b.c1, .slice b.a2 B.D.n b.c2] 26)).alloc (.cells #[.int .i64 3, .int .i64 a, .int .i64 g, .int .i64 y] 103)).alloc (.cells #[.slice none 0 0, .slice none 0 0] 26)).heap.size = w.heap.size + 1 + 1 + 1) := hsz
    clear hsz
    generalize (((w.alloc (.cells #[.slice b.a1 B.n b.c1, .slice b.a2 B.D.n b.c2] 26)).alloc (.cells #[.int .i64 3, .int .i64 a, .int .i64 g, .int .i64 y] 103)).alloc (.cells #[.slice none 0 0, .slice none 0 0] 26)) = w0 at *
    refine (specUnmap_any b B a Y _ hn HA.out).mono ?_
    rintro e w1 ⟨b1, R, r, rfl, ho, hs, own, hb1⟩
    have hz := HSZ.out
    have hr := rR.blw hb1
    have hlt := hr.lt
    have FIN : Hid _ := pass_givesT (out := chgO B 3 a g y) (w := w) (W := w1) (z := w.heap.size + 1 + 1) (by omega) ⟨fun e => absurd e (by decide), fun _ => ho, fun e => absurd e (by decide)⟩ hs (hb0.trans hb1) own (fun x hx => ⟨by omega, by omega, hx.2⟩)
    obtain ⟨t0, t1⟩ := get2 hr
    have f0 := hr.frozen 0
    have f1 := hr.frozen 1
    clear HA rR hb0 hb1 own ho hs hr hz hlt HSZ
    go_wp2
    exact bodyPost_ret (v := .tuple #[b1.val R, .bool r]) (by simp [results, Try.results84, go_sem, t0, t1]) rfl FIN.out
  have d3 : (k == 3) = false := by simp [k3]
  by_cases k4 : k = 4
  · subst k4
    clear hk
    go_wp2_with fail
    clear p0 p1 q0 q1 q2 q3
    have HSZ : Hid ((((w.alloc (.cells #[.slice b.a1 B.n b.c1, .slice b.a2 B.D.n b.c2] 26)).alloc (.cells #[.int .i64 4, .int .i64 a, .int .i64 g, .int .i64 y] 103)).alloc (.cells #[.slice none 0 0, .slice none 0 0] 26)).heap.size = w.heap.size + 1 + 1 + 1) := hsz
    clear hsz
    generalize (((w.alloc (.cells #[.slice b.a1 B.n b.c1, .slice b.a2 B.D.n b.c2] 26)).alloc (.cells #[.int .i64 4, .int .i64 a, .int .i64 g, .int .i64 y] 103)).alloc (.cells #[.slice none 0 0, .slice none 0 0] 26)) = w0 at *
    refine (specProt_any b B a y Y _ hn HA.out).mono ?_
    rintro e w1 ⟨b1, R, r, rfl, ho, hs, own, hb1⟩
    have hz := HSZ.out
    have hr := rR.blw hb1
    have hlt := hr.lt
    have FIN : Hid _ := pass_givesT (out := chgO B 4 a g y) (w := w) (W := w1) (z := w.heap.size + 1 + 1) (by omega) ⟨fun e => absurd e (by decide), fun e => absurd e (by decide), fun _ => ho⟩ hs (hb0.trans hb1) own (fun x hx => ⟨by omega, by omega, hx.2⟩)
    obtain ⟨t0, t1⟩ := get2 hr
    have f0 := hr.frozen 0
    have f1 := hr.frozen 1
    clear HA rR hb0 hb1 own ho hs hr hz hlt HSZ
    go_wp2
    exact bodyPost_ret (v := .tuple #[b1.val R, .bool r]) (by simp [results, Try.results84, go_sem, t0, t1]) rfl FIN.out
  have d4 : (k == 4) = false := by simp [k4]
  exfalso; omega
set_option maxRecDepth 10000 in
set_option maxHeartbeats 3200000 in
theorem implChg_any (b : BV) (B : BD) (k a g y : Int) (Y : Nat → Prop) (w : World) (hY : ∀ x, Y x → x < w.heap.size) (hk : k = 2 ∨ k = 3 ∨ k = 4) (h : BookAt Y w b B) :
    Calls Try.prog 118 #[b.val B, .agg #[.int .i64 k, .int .i64 a, .int .i64 g, .int .i64 y]] w (GivesB (chgO B k a g y) w) := by
  have hA1 : Blw w (w.alloc (.cells #[.slice b.a1 B.n b.c1, .slice b.a2 B.D.n b.c2] 26)) := (Blw.refl _).alloc _
  have hA2 : Blw (w.alloc (.cells #[.slice b.a1 B.n b.c1, .slice b.a2 B.D.n b.c2] 26)) ((w.alloc (.cells #[.slice b.a1 B.n b.c1, .slice b.a2 B.D.n b.c2] 26)).alloc (.cells #[.int .i64 k, .int .i64 a, .int .i64 g, .int .i64 y] 103)) := (Blw.refl _).alloc _
  have hA3 : Blw ((w.alloc (.cells #[.slice b.a1 B.n b.c1, .slice b.a2 B.D.n b.c2] 26)).alloc (.cells #[.int .i64 k, .int .i64 a, .int .i64 g, .int .i64 y] 103)) (((w.alloc (.cells #[.slice b.a1 B.n b.c1, .slice b.a2 B.D.n b.c2] 26)).alloc (.cells #[.int .i64 k, .int .i64 a, .int .i64 g, .int .i64 y] 103)).alloc (.cells #[.slice none 0 0, .slice none 0 0] 26)) := (Blw.refl _).alloc _
  have hb0 : Blw w (((w.alloc (.cells #[.slice b.a1 B.n b.c1, .slice b.a2 B.D.n b.c2] 26)).alloc (.cells #[.int .i64 k, .int .i64 a, .int .i64 g, .int .i64 y] 103)).alloc (.cells #[.slice none 0 0, .slice none 0 0] 26)) := (hA1.trans hA2).trans hA3
  have HA : Hid (BookAt Y (((w.alloc (.cells #[.slice b.a1 B.n b.c1, .slice b.a2 B.D.n b.c2] 26)).alloc (.cells #[.int .i64 k, .int .i64 a, .int .i64 g, .int .i64 y] 103)).alloc (.cells #[.slice none 0 0, .slice none 0 0] 26)) b B) := h.blw hb0
  have rA := (box2 w (.slice b.a1 B.n b.c1) (.slice b.a2 B.D.n b.c2) 26).blw (hA2.trans hA3)
  have rS := (box4 (w.alloc (.cells #[.slice b.a1 B.n b.c1, .slice b.a2 B.D.n b.c2] 26)) (.int .i64 k) (.int .i64 a) (.int .i64 g) (.int .i64 y) 103).blw hA3
  have rR := box2 ((w.alloc (.cells #[.slice b.a1 B.n b.c1, .slice b.a2 B.D.n b.c2] 26)).alloc (.cells #[.int .i64 k, .int .i64 a, .int .i64 g, .int .i64 y] 103)) (.slice none 0 0) (.slice none 0 0) 26
  simp only [World.size_alloc] at rS rR
  have hsz : (((w.alloc (.cells #[.slice b.a1 B.n b.c1, .slice b.a2 B.D.n b.c2] 26)).alloc (.cells #[.int .i64 k, .int .i64 a, .int .i64 g, .int .i64 y] 103)).alloc (.cells #[.slice none 0 0, .slice none 0 0] 26)).heap.size = w.heap.size + 1 + 1 + 1 := by simp
  clear h hA1 hA2 hA3
  go_enter Try.func118, Try.ntmps118
  obtain ⟨p0, p1⟩ := get2 rA
  obtain ⟨q0, q1, q2, q3⟩ := get4 rS
  clear rA rS
  by_cases k2 : k = 2
  · subst k2
    clear hk
    go_wp2_with fail
    clear p0 p1 q0 q1 q2 q3
    have HSZ : Hid ((((w.alloc (.cells #[.slice b.a1 B.n b.c1, .slice b.a2 B.D.n b.c2] 26)).alloc (.cells #[.int .i64 2, .int .i64 a, .int .i64 g, .int .i64 y] 103)).alloc (.cells #[.slice none 0 0, .slice none 0 0] 26)).heap.size = w.heap.size + 1 + 1 + 1) := hsz
    clear hsz
    generalize (((w.alloc (.cells #[.slice b.a1 B.n b.c1, .slice b.a2 B.D.n b.c2] 26)).alloc (.cells #[.int .i64 2, .int .i64 a, .int .i64 g, .int .i64 y] 103)).alloc (.cells #[.slice none 0 0, .slice none 0 0] 26)) = w0 at *
    refine (implMap_any b B a g y Y _ HA.out (fun x hx => by have := hY x hx; have := HSZ.out; omega)).mono ?_
    rintro e w1 ⟨b1, R, r, rfl, ho, hs, own, hb1⟩
    have hz := HSZ.out
    have hr := rR.blw hb1
    have hlt := hr.lt
    have FIN : Hid _ := pass_givesT (out := chgO B 2 a g y) (w := w) (W := w1) (z := w.heap.size + 1 + 1) (by omega) ⟨fun _ => ho, fun e => absurd e (by decide), fun e => absurd e (by decide)⟩ hs (hb0.trans hb1) own (fun x hx => ⟨by omega, by omega, hx.2⟩)
    obtain ⟨t0, t1⟩ := get2 hr
    have f0 := hr.frozen 0
    have f1 := hr.frozen 1
    clear HA rR hb0 hb1 own ho hs hr hz hlt HSZ
    go_wp2
    exact bodyPost_ret (v := .tuple #[b1.val R, .bool r]) (by simp [results, Try.results118, go_sem, t0, t1]) rfl FIN.out
  have d2 : (k == 2) = false := by simp [k2]
  by_cases k3 : k = 3
  · subst k3
    clear hk
    go_wp2_with fail
    clear p0 p1 q0 q1 q2 q3
    have HSZ : Hid ((((w.alloc (.cells #[.slice b.a1 B.n b.c1, .slice b.a2 B.D.n b.c2] 26)).alloc (.cells #[.int .i64 3, .int .i64 a, .int .i64 g, .int .i64 y] 103)).alloc (.cells #[.slice none 0 0, .slice none 0 0] 26)).heap.size = w.heap.size + 1 + 1 + 1) := hsz
    clear hsz
    generalize (((w.alloc (.cells #[.slice b.a1 B.n b.c1, .slice b.a2 B.D.n b.c2] 26)).alloc (.cells #[.int .i64 3, .int .i64 a, .int .i64 g, .int .i64 y] 103)).alloc (.cells #[.slice none 0 0, .slice none 0 0] 26)) = w0 at *
    refine (implUnmap_any b B a Y _ HA.out (fun x hx => by have := hY x hx; have := HSZ.out; omega)).mono ?_
    rintro e w1 ⟨b1, R, r, rfl, ho, hs, own, hb1⟩
    have hz := HSZ.out
    have hr := rR.blw hb1
    have hlt := hr.lt
    have FIN : Hid _ := pass_givesT (out := chgO B 3 a g y) (w := w) (W := w1) (z := w.heap.size + 1 + 1) (by omega) ⟨fun e => absurd e (by decide), fun _ => ho, fun e => absurd e (by decide)⟩ hs (hb0.trans hb1) own (fun x hx => ⟨by omega, by omega, hx.2⟩)
    obtain ⟨t0, t1⟩ := get2 hr
    have f0 := hr.frozen 0
    have f1 := hr.frozen 1
    clear HA rR hb0 hb1 own ho hs hr hz hlt HSZ
    go_wp2
    exact bodyPost_ret (v := .tuple #[b1.val R, .bool r]) (by simp [results, Try.results118, go_sem, t0, t1]) rfl FIN.out
  have d3 : (k == 3) = false := by simp [k3]
  by_cases k4 : k = 4
  · subst k4
    clear hk
    go_wp2_with fail
    clear p0 p1 q0 q1 q2 q3
    have HSZ : Hid ((((w.alloc (.cells #[.slice b.a1 B.n b.c1, .slice b.a2 B.D.n b.c2] 26)).alloc (.cells #[.int .i64 4, .int .i64 a, .int .i64 g, .int .i64 y] 103)).alloc (.cells #[.slice none 0 0, .slice none 0 0] 26)).heap.size = w.heap.size + 1 + 1 + 1) := hsz
    clear hsz
    generalize (((w.alloc (.cells #[.slice b.a1 B.n b.c1, .slice b.a2 B.D.n b.c2] 26)).alloc (.cells #[.int .i64 4, .int .i64 a, .int .i64 g, .int .i64 y] 103)).alloc (.cells #[.slice none 0 0, .slice none 0 0] 26)) = w0 at *
    refine (implProt_any b B a y Y _ HA.out (fun x hx => by have := hY x hx; have := HSZ.out; omega)).mono ?_
    rintro e w1 ⟨b1, R, r, rfl, ho, hs, own, hb1⟩
    have hz := HSZ.out
    have hr := rR.blw hb1
    have hlt := hr.lt
    have FIN : Hid _ := pass_givesT (out := chgO B 4 a g y) (w := w) (W := w1) (z := w.heap.size + 1 + 1) (by omega) ⟨fun e => absurd e (by decide), fun e => absurd e (by decide), fun _ => ho⟩ hs (hb0.trans hb1) own (fun x hx => ⟨by omega, by omega, hx.2⟩)
    obtain ⟨t0, t1⟩ := get2 hr
    have f0 := hr.frozen 0
    have f1 := hr.frozen 1
    clear HA rR hb0 hb1 own ho hs hr hz hlt HSZ
    go_wp2
    exact bodyPost_ret (v := .tuple #[b1.val R, .bool r]) (by simp [results, Try.results118, go_sem, t0, t1]) rfl FIN.out
  have d4 : (k == 4) = false := by simp [k4]
  exfalso; omega
end Go.Proofs.Ytcfdagmcnaepgaa
/- A played table: the program's. -/
namespace Go.Proofs.Ytcfdagmcnaepgaa
open Go.RowKit
set_option linter.unusedSimpArgs false
set_option linter.unusedVariables false
/-- A table in a box at zt that is played; none of its blocks is of E. -/
structure TS (E : Nat → Prop) (wr : World) (zt : Nat) (b : BV) (B : BD) : Prop where
  box : Row wr zt 2 (fun i => if i = 0 then .slice b.a1 B.n b.c1 else .slice b.a2 B.D.n b.c2)
  at_ : BookAt (fun x => ¬ E x ∧ x < wr.heap.size ∧ x ≠ zt) wr b B
theorem TS.blw {E : Nat → Prop} {zt : Nat} {wr w' : World} {b : BV} {B : BD} (h : TS E wr zt b B) (hb : Blw wr w') : TS E w' zt b B :=
  ⟨h.box.blw hb, (h.at_.blw hb).mono (fun x hx => ⟨hx.1, Nat.lt_of_lt_of_le hx.2.1 hb.size, hx.2.2⟩)⟩
theorem TS.mod {Q E : Nat → Prop} {zt : Nat} {wr w' : World} {b : BV} {B : BD} (h : TS E wr zt b B) (hm : Mod Q wr w') (hz : ¬ Q zt) (hq : ∀ x, Q x → E x) : TS E w' zt b B :=
  ⟨h.box.mod hm hz, (h.at_.mod hm (fun x hx hh => hx.1 (hq x hh))).mono (fun x hx => ⟨hx.1, Nat.lt_of_lt_of_le hx.2.1 hm.size, hx.2.2⟩)⟩
theorem row2_setP {w : World} {z : Nat} {u v a b : Value} (h : Row w z 2 (fun i => if i = 0 then u else v)) : Row ((w.setCell ⟨z, 0, none⟩ a).setCell ⟨z, 1, none⟩ b) z 2 (fun i => if i = 0 then a else b) :=
  ((h.set 0 _).set 1 _).congr (fun i hi => by
    match i, hi with
    | 0, _ => rfl
    | 1, _ => rfl)
/-- What a change gives: r, and the table behind it. -/
def ctO (B : BD) (k a g y : Int) (R : BD) (r : Bool) : Prop := ∃ R0, chgO B k a g y R0 r ∧ ((r = true ∧ R = R0) ∨ (r = false ∧ R = B))
theorem ctO_same {B : BD} {k a g y : Int} {R R' : BD} {r r' : Bool} (hk : k = 2 ∨ k = 3 ∨ k = 4) (h : ctO B k a g y R r) (h' : ctO B k a g y R' r') : R = R' ∧ r = r' := by
  obtain ⟨R0, h1, h2⟩ := h
  obtain ⟨R0', h1', h2'⟩ := h'
  obtain ⟨e1, e2⟩ := chgO_same hk h1 h1'
  subst e1 e2
  rcases h2 with ⟨e3, e4⟩ | ⟨e3, e4⟩ <;> rcases h2' with ⟨e5, e6⟩ | ⟨e5, e6⟩
  · exact ⟨e4.trans e6.symm, rfl⟩
  · rw [e3] at e5; cases e5
  · rw [e3] at e5; cases e5
  · exact ⟨e4.trans e6.symm, rfl⟩
theorem Mod.newerP' {X Z : Nat → Prop} {a b c : World} (h : Mod X a b) (k : Mod Z b c) (hz : ∀ i, Z i → a.heap.size ≤ i) : Mod X a c :=
  ⟨k.os.trans h.os, k.tape.trans h.tape, k.output.trans h.output, Nat.le_trans h.size k.size, fun i hi hx => (k.block i (Nat.lt_of_lt_of_le hi h.size) (fun e => by have := hz i e; omega)).trans (h.block i hi hx)⟩
theorem ct_end {E : Nat → Prop} {zt zb : Nat} {w W : World} {b b3 : BV} {B R : BD} (hE : ∀ x, E x → x < w.heap.size) (ht : TS E W zt b B) (hz : Row W zb 2 (fun i => if i = 0 then .slice none 0 0 else .slice none 0 0)) (hb : w.heap.size < zb ∧ zt ≠ zb) (ho : BookOwn (fun x => w.heap.size < x ∧ x < W.heap.size ∧ x ≠ zb) W b3 R) (hm : Mod (fun x => x = zt) w W) (hzt : zt < w.heap.size) (hno : BookAt (fun x => (¬ E x ∧ x < W.heap.size ∧ x ≠ zt) ∧ x ≠ zb) W b B) :
    let W2 := (W.setCell ⟨zb, 0, none⟩ (.slice b3.a1 R.n b3.c1)).setCell ⟨zb, 1, none⟩ (.slice b3.a2 R.D.n b3.c2)
    let W3 := (W2.setCell ⟨zt, 0, none⟩ (.slice b3.a1 R.n b3.c1)).setCell ⟨zt, 1, none⟩ (.slice b3.a2 R.D.n b3.c2)
    TS E W2 zt b B ∧ Row W2 zb 2 (fun i => if i = 0 then .slice b3.a1 R.n b3.c1 else .slice b3.a2 R.D.n b3.c2) ∧ True ∧ Mod (fun x => x = zt) w W2 ∧ (TS E W3 zt b3 R ∧ Mod (fun x => x = zt) w W3) := by
  intro W2 W3
  have m2 : Mod (fun x => x = zb) W W2 := set2_mod (X := fun x => x = zb) W rfl _ _
  have m3 : Mod (fun x => x = zt) W2 W3 := set2_mod (X := fun x => x = zt) W2 rfl _ _
  have s2 := m2.size
  have s3 := m3.size
  have hM2 : Mod (fun x => x = zt) w W2 := hm.newerP' m2 (fun i hi => by omega)
  refine ⟨⟨ht.box.mod m2 hb.2, (hno.mod m2 (fun x hx e => hx.2 e)).mono (fun x hx => ⟨hx.1.1, by omega, hx.1.2.2⟩)⟩, row2_setP hz, trivial, hM2, ⟨row2_setP (ht.box.mod m2 hb.2), ?_⟩, hM2.trans m3⟩
  exact ((ho.at.mod m2 (fun x hx e => hx.2.2 e)).mod m3 (fun x hx e => by omega)).mono (fun x hx => ⟨fun e => by have := hE x e; omega, by omega, by omega⟩)
set_option maxRecDepth 10000 in
set_option maxHeartbeats 6400000 in
theorem changeT_any (E : Nat → Prop) (zt : Nat) (b : BV) (B : BD) (k a g y : Int) (w : World) (hk : k = 2 ∨ k = 3 ∨ k = 4) (hE : ∀ x, E x → x < w.heap.size) (h : TS E w zt b B) :
    Calls Try.prog 111 #[.pointer (some ⟨zt, 0, none⟩), .agg #[.int .i64 k, .int .i64 a, .int .i64 g, .int .i64 y]] w fun e w' => ∃ b' R r, e = .returned (.bool r) ∧ ctO B k a g y R r ∧ TS E w' zt b' R ∧ Mod (fun x => x = zt) w w' := by
  have hA : Blw w (w.alloc (.cells #[.int .i64 k, .int .i64 a, .int .i64 g, .int .i64 y] 103)) := (Blw.refl _).alloc _
  have HT : Hid (TS E (w.alloc (.cells #[.int .i64 k, .int .i64 a, .int .i64 g, .int .i64 y] 103)) zt b B) := h.blw hA
  have HS : Hid (Row (w.alloc (.cells #[.int .i64 k, .int .i64 a, .int .i64 g, .int .i64 y] 103)) w.heap.size 4 (fun i => if i = 0 then .int .i64 k else if i = 1 then .int .i64 a else if i = 2 then .int .i64 g else .int .i64 y)) := box4 w _ _ _ _ 103
  have HM : Hid (Mod (fun x => x = zt) w (w.alloc (.cells #[.int .i64 k, .int .i64 a, .int .i64 g, .int .i64 y] 103))) := hA.mod _
  have hzt := h.box.lt
  clear h hA
  go_enter Try.func111, Try.ntmps111
  go_upto_region 1 with fail
  replace HT : Hid (TS E (w.alloc (.cells #[.int .i64 k, .int .i64 a, .int .i64 g, .int .i64 y] 103)).drew zt b B) := HT.out.blw (Blw.refl _).drew
  replace HS : Hid (Row (w.alloc (.cells #[.int .i64 k, .int .i64 a, .int .i64 g, .int .i64 y] 103)).drew w.heap.size 4 (fun i => if i = 0 then .int .i64 k else if i = 1 then .int .i64 a else if i = 2 then .int .i64 g else .int .i64 y)) := HS.out.blw (Blw.refl _).drew
  replace HM : Hid (Mod (fun x => x = zt) w (w.alloc (.cells #[.int .i64 k, .int .i64 a, .int .i64 g, .int .i64 y] 103)).drew) := HM.out.trans ((Blw.refl _).drew.mod _)
  have HSZ : Hid (w.heap.size + 1 = (w.alloc (.cells #[.int .i64 k, .int .i64 a, .int .i64 g, .int .i64 y] 103)).drew.heap.size) := by show _ = _; simp
  generalize w.alloc (.cells #[.int .i64 k, .int .i64 a, .int .i64 g, .int .i64 y] 103) = wp at *
  have P0 : ∀ w', (Row w' zt 2 (fun i => if i = 0 then .slice b.a1 B.n b.c1 else .slice b.a2 B.D.n b.c2) ∧ Row w' w.heap.size 4 (fun i => if i = 0 then .int .i64 k else if i = 1 then .int .i64 a else if i = 2 then .int .i64 g else .int .i64 y)) → w'.cell? ⟨zt, 0, none⟩ = some (.slice b.a1 B.n b.c1) ∧ w'.cell? ⟨zt, 1, none⟩ = some (.slice b.a2 B.D.n b.c2) := fun w' hh => get2 hh.1
  have P1 : ∀ w', (Row w' zt 2 (fun i => if i = 0 then .slice b.a1 B.n b.c1 else .slice b.a2 B.D.n b.c2) ∧ Row w' w.heap.size 4 (fun i => if i = 0 then .int .i64 k else if i = 1 then .int .i64 a else if i = 2 then .int .i64 g else .int .i64 y)) → w'.cell? ⟨w.heap.size, 0, none⟩ = some (.int .i64 k) ∧ w'.cell? ⟨w.heap.size, 1, none⟩ = some (.int .i64 a) ∧ w'.cell? ⟨w.heap.size, 2, none⟩ = some (.int .i64 g) ∧ w'.cell? ⟨w.heap.size, 3, none⟩ = some (.int .i64 y) := fun w' hh => get4 hh.2
  refine wp_region_noPanic ?_
  refine wp_region_held_drew (S := fun w' => Row w' zt 2 (fun i => if i = 0 then .slice b.a1 B.n b.c1 else .slice b.a2 B.D.n b.c2) ∧ Row w' w.heap.size 4 (fun i => if i = 0 then .int .i64 k else if i = 1 then .int .i64 a else if i = 2 then .int .i64 g else .int .i64 y)) (by kernel_rfl) (And.intro HT.out.box HS.out) (fun hB => ?_)
  clear hB
  generalize wp.drew = wd at *
  refine wpAnyH_take (i := 0) (oi := { dst := some 8, op := Op.move (Operand.tmp 0), type := 111, pos := _, after := #[], guard := none }) (v := (.pointer (some ⟨zt, 0, none⟩))) rfl (by kernel_rfl) (by kernel_rfl) (by kernel_rfl) (fun _ _ _ h => h) (Or.inl ⟨by rfl, fun w' hS => by (try dsimp only at hS); go_simp⟩) (And.intro HT.out.box HS.out) ?_
  simp only [Act.put, List.setIfInBounds_toArray, List.set_cons_zero, List.set_cons_succ]
  refine wpAnyH_take (i := 3) (oi := { dst := some 11, op := Op.load 103 (Operand.tmp 3), type := 103, pos := _, after := #[], guard := none }) (v := (.agg #[.int .i64 k, .int .i64 a, .int .i64 g, .int .i64 y])) rfl (by kernel_rfl) (by kernel_rfl) (by kernel_rfl) (fun _ _ _ h => h) (Or.inl ⟨by rfl, fun w' hS => by (try dsimp only at hS); go_simp⟩) (And.intro HT.out.box HS.out) ?_
  simp only [Act.put, List.setIfInBounds_toArray, List.set_cons_zero, List.set_cons_succ]
  refine wpAnyH_take (i := 1) (oi := { dst := some 9, op := Op.nilCheck (Operand.tmp 8), type := 0, pos := _, after := #[{ on := 0, ground := Ground.data }], guard := none }) (v := (.pointer (some ⟨zt, 0, none⟩))) rfl (by kernel_rfl) (by kernel_rfl) (by kernel_rfl) (fun _ _ _ h => h) (Or.inl ⟨by rfl, fun w' hS => by (try dsimp only at hS); go_simp⟩) (And.intro HT.out.box HS.out) ?_
  simp only [Act.put, List.setIfInBounds_toArray, List.set_cons_zero, List.set_cons_succ]
  refine wpAnyH_take (i := 2) (oi := { dst := some 10, op := Op.load 26 (Operand.tmp 9), type := 26, pos := _, after := #[{ on := 1, ground := Ground.data }], guard := none }) (v := (.agg #[.slice b.a1 B.n b.c1, .slice b.a2 B.D.n b.c2])) rfl (by kernel_rfl) (by kernel_rfl) (by kernel_rfl) (fun _ _ _ h => h) (Or.inl ⟨by rfl, fun w' hS => by (try dsimp only at hS); go_simp⟩) (And.intro HT.out.box HS.out) ?_
  simp only [Act.put, List.setIfInBounds_toArray, List.set_cons_zero, List.set_cons_succ]
  refine wpAnyH_ready (rs := [4, 8]) (by kernel_rfl) (by simp) ?_
  refine AllReadyH.cons (o := { dst := some 12, op := Op.call { callee := Callee.value (Operand.func 118), args := #[Operand.tmp 10, Operand.tmp 11], argTypes := #[26, 103] }, type := 29, pos := _, after := #[{ on := 2, ground := Ground.data }, { on := 3, ground := Ground.data }], guard := none }) rfl (fun K hK => ?_) (AllReadyH.cons (o := { dst := some 5, op := Op.alloc 26, type := 0, pos := _, after := #[], guard := none }) rfl (fun K hK => ?_) AllReadyH.nil)
  · go_simp
    refine (implChg_any b B k a g y _ _ (fun x hx => hx.2.1) hk HT.out.at_).mono ?_
    rintro e wn ⟨b3, R, r3, rfl, ho3, hs3, own3, hbk⟩
    have HO : Hid (chgO B k a g y R r3) := ho3
    have hsz := hbk.size
    have hzw := HSZ.out
    have HOW : Hid (BookOwn (fun x => w.heap.size < x ∧ x < wn.heap.size) wn b3 R) := own3.mono (fun x hx => ⟨by omega, hx.2⟩)
    replace HT : Hid (TS E wn zt b B) := HT.out.blw hbk
    replace HS : Hid (Row wn w.heap.size 4 (fun i => if i = 0 then .int .i64 k else if i = 1 then .int .i64 a else if i = 2 then .int .i64 g else .int .i64 y)) := HS.out.blw hbk
    replace HM : Hid (Mod (fun x => x = zt) w wn) := HM.out.trans (hbk.mod _)
    clear ho3 hs3 own3 hbk hsz hzw
    refine hK.out _ _ (And.intro HT.out.box HS.out) (fun hB => ?_)
    clear hK K hB
    try simp only [Act.put, List.setIfInBounds_toArray, List.set_cons_zero, List.set_cons_succ]
    refine wpAnyH_take (i := 5) (oi := { dst := some 7, op := Op.move (Operand.tmp 12), type := 29, pos := _, after := #[{ on := 4, ground := Ground.data }], guard := none }) (v := (.tuple #[b3.val R, .bool r3])) rfl (by kernel_rfl) (by kernel_rfl) (by kernel_rfl) (fun _ _ _ h => h) (Or.inl ⟨by rfl, fun w' hS => by (try dsimp only at hS); go_simp⟩) (And.intro HT.out.box HS.out) ?_
    simp only [Act.put, List.setIfInBounds_toArray, List.set_cons_zero, List.set_cons_succ]
    refine wpAnyH_take (i := 6) (oi := { dst := some 13, op := Op.extract (Operand.tmp 7) 0, type := 26, pos := _, after := #[{ on := 5, ground := Ground.data }], guard := none }) (v := (.agg #[.slice b3.a1 R.n b3.c1, .slice b3.a2 R.D.n b3.c2])) rfl (by kernel_rfl) (by kernel_rfl) (by kernel_rfl) (fun _ _ _ h => h) (Or.inl ⟨by rfl, fun w' hS => by (try dsimp only at hS); go_simp⟩) (And.intro HT.out.box HS.out) ?_
    simp only [Act.put, List.setIfInBounds_toArray, List.set_cons_zero, List.set_cons_succ]
    refine wpAnyH_take (i := 7) (oi := { dst := some 14, op := Op.extract (Operand.tmp 7) 1, type := 4, pos := _, after := #[{ on := 5, ground := Ground.data }, { on := 9, ground := Ground.gcOnly Departure.lateStores }], guard := none }) (v := (.bool r3)) rfl (by kernel_rfl) (by kernel_rfl) (by kernel_rfl) (fun _ _ _ h => h) (Or.inl ⟨by rfl, fun w' hS => by (try dsimp only at hS); go_simp⟩) (And.intro HT.out.box HS.out) ?_
    simp only [Act.put, List.setIfInBounds_toArray, List.set_cons_zero, List.set_cons_succ]
    refine wpAnyH_ready (rs := [8]) (by kernel_rfl) (by simp) ?_
    refine AllReadyH.cons (o := { dst := some 5, op := Op.alloc 26, type := 0, pos := _, after := #[], guard := none }) rfl (fun K hK => ?_) AllReadyH.nil
    go_simp
    have HZ : Hid (Row (wn.alloc (.cells #[.slice none 0 0, .slice none 0 0] 26)) wn.heap.size 2 (fun i => if i = 0 then .slice none 0 0 else .slice none 0 0)) := box2 wn _ _ 26
    have HZB : Hid (w.heap.size < wn.heap.size ∧ zt ≠ wn.heap.size) := by have := HT.out.box.lt; have := HS.out.lt; show _ ∧ _; omega
    have HNO : Hid (BookAt (fun x => (¬ E x ∧ x < (wn.alloc (.cells #[.slice none 0 0, .slice none 0 0] 26)).heap.size ∧ x ≠ zt) ∧ x ≠ wn.heap.size) (wn.alloc (.cells #[.slice none 0 0, .slice none 0 0] 26)) b B) := (HT.out.at_.blw ((Blw.refl _).alloc _)).mono (fun x hx => ⟨⟨hx.1, by rw [World.size_alloc]; omega, hx.2.2⟩, by omega⟩)
    replace HOW : Hid (BookOwn (fun x => w.heap.size < x ∧ x < (wn.alloc (.cells #[.slice none 0 0, .slice none 0 0] 26)).heap.size ∧ x ≠ wn.heap.size) (wn.alloc (.cells #[.slice none 0 0, .slice none 0 0] 26)) b3 R) := (HOW.out.blw ((Blw.refl _).alloc _)).mono (fun x hx => ⟨hx.1, by rw [World.size_alloc]; omega, by omega⟩)
    replace HT : Hid (TS E (wn.alloc (.cells #[.slice none 0 0, .slice none 0 0] 26)) zt b B) := HT.out.blw ((Blw.refl _).alloc _)
    replace HS : Hid (Row (wn.alloc (.cells #[.slice none 0 0, .slice none 0 0] 26)) w.heap.size 4 (fun i => if i = 0 then .int .i64 k else if i = 1 then .int .i64 a else if i = 2 then .int .i64 g else .int .i64 y)) := HS.out.blw ((Blw.refl _).alloc _)
    replace HM : Hid (Mod (fun x => x = zt) w (wn.alloc (.cells #[.slice none 0 0, .slice none 0 0] 26))) := HM.out.trans (((Blw.refl _).alloc _).mod _)
    refine hK.out _ _ (And.intro HT.out.box HS.out) (fun hB => ?_)
    clear hK K hB
    try simp only [Act.put, List.setIfInBounds_toArray, List.set_cons_zero, List.set_cons_succ]
    generalize wn.alloc (.cells #[.slice none 0 0, .slice none 0 0] 26) = wA at *
    generalize wn.heap.size = zb at *
    refine wpAnyH_ready (rs := [9]) (by kernel_rfl) (by simp) ?_
    refine AllReadyH.cons (o := { dst := none, op := Op.store 26 (Operand.tmp 5) (Operand.tmp 13), type := 0, pos := _, after := #[{ on := 8, ground := Ground.data }, { on := 6, ground := Ground.data }, { on := 4, ground := Ground.chain }, { on := 0, ground := Ground.phase }, { on := 1, ground := Ground.phase }, { on := 2, ground := Ground.phase }, { on := 3, ground := Ground.phase }, { on := 4, ground := Ground.phase }, { on := 5, ground := Ground.phase }, { on := 6, ground := Ground.phase }, { on := 7, ground := Ground.textOnly Departure.lateStores }, { on := 8, ground := Ground.phase }], guard := none }) rfl (fun K hK => ?_) AllReadyH.nil
    obtain ⟨z0, z1⟩ := get2 HZ.out
    have fz0 := HZ.out.frozen 0
    have fz1 := HZ.out.frozen 1
    obtain ⟨ft, fz, fa, fm, fend⟩ := ct_end hE HT.out HZ.out HZB.out HOW.out HM.out hzt HNO.out
    have hm2 := set2_mod (X := fun x => x = zb) wA rfl (.slice b3.a1 R.n b3.c1) (.slice b3.a2 R.D.n b3.c2)
    have hSt := And.intro ft.box (HS.out.mod hm2 (by have := HZB.out; omega))
    have FT : Hid (TS E _ zt b B) := ft
    have FZ : Hid (Row _ zb 2 (fun i => if i = 0 then .slice b3.a1 R.n b3.c1 else .slice b3.a2 R.D.n b3.c2)) := fz
    have FM : Hid (Mod (fun x => x = zt) w _) := fm
    have FE : Hid (TS E _ zt b3 R ∧ Mod (fun x => x = zt) w _) := fend
    clear ft fz fa fm fend hm2
    go_simp
    refine hK.out _ _ hSt (fun hB => ?_)
    clear hK K hB
    try simp only [Act.put, List.setIfInBounds_toArray, List.set_cons_zero, List.set_cons_succ]
    clear z0 z1 fz0 fz1
    refine wpAnyH_take (i := 10) (oi := { dst := some 6, op := Op.assign (Operand.tmp 14), type := 4, pos := _, after := #[{ on := 7, ground := Ground.data }, { on := 9, ground := Ground.chain }, { on := 0, ground := Ground.phase }, { on := 1, ground := Ground.phase }, { on := 2, ground := Ground.phase }, { on := 3, ground := Ground.phase }, { on := 4, ground := Ground.phase }, { on := 5, ground := Ground.phase }, { on := 6, ground := Ground.phase }, { on := 7, ground := Ground.phase }, { on := 8, ground := Ground.phase }, { on := 9, ground := Ground.phase }], guard := none }) (v := (.bool r3)) rfl (by kernel_rfl) (by kernel_rfl) (by kernel_rfl) (fun _ _ _ h => h) (Or.inl ⟨by rfl, fun w' hS => by (try dsimp only at hS); go_simp⟩) hSt ?_
    simp only [Act.put, List.setIfInBounds_toArray, List.set_cons_zero, List.set_cons_succ]
    refine wpAnyH_done (by kernel_rfl) ?_ _
    refine NoPanic.normal ?_
    clear hSt P0 P1 HT HS HM HZ HZB HOW HSZ HNO
    generalize ((wA.setCell ⟨zb, 0, none⟩ (.slice b3.a1 R.n b3.c1)).setCell ⟨zb, 1, none⟩ (.slice b3.a2 R.D.n b3.c2)) = W2 at *
    cases r3
    · have FIN : Hid (∃ b' R' r', Ending.returned (.bool false) = .returned (.bool r') ∧ ctO B k a g y R' r' ∧ TS E W2 zt b' R' ∧ Mod (fun x => x = zt) w W2) := ⟨b, B, false, rfl, ⟨R, HO.out, Or.inr ⟨rfl, rfl⟩⟩, FT.out, FM.out⟩
      clear HO FZ FT FM FE
      go_wp2
      go_ret
      exact FIN.out
    · obtain ⟨q0, q1⟩ := get2 FZ.out
      obtain ⟨t0, t1⟩ := get2 FT.out.box
      have f0 := FT.out.box.frozen 0
      have f1 := FT.out.box.frozen 1
      have FIN : Hid (∃ b' R' r', Ending.returned (.bool true) = .returned (.bool r') ∧ ctO B k a g y R' r' ∧ TS E ((W2.setCell ⟨zt, 0, none⟩ (.slice b3.a1 R.n b3.c1)).setCell ⟨zt, 1, none⟩ (.slice b3.a2 R.D.n b3.c2)) zt b' R' ∧ Mod (fun x => x = zt) w ((W2.setCell ⟨zt, 0, none⟩ (.slice b3.a1 R.n b3.c1)).setCell ⟨zt, 1, none⟩ (.slice b3.a2 R.D.n b3.c2))) := ⟨b3, R, true, rfl, ⟨R, HO.out, Or.inl ⟨rfl, rfl⟩⟩, FE.out.1, FE.out.2⟩
      clear HO FZ FT FM FE
      go_wp2
      refine bodyPost_ret (v := .bool true) (by simp [results, Try.results111, go_sem]) rfl FIN.out
  · go_simp
    have HZ : Hid (Row (wd.alloc (.cells #[.slice none 0 0, .slice none 0 0] 26)) wd.heap.size 2 (fun i => if i = 0 then .slice none 0 0 else .slice none 0 0)) := box2 wd _ _ 26
    have HZB : Hid (w.heap.size < wd.heap.size ∧ zt ≠ wd.heap.size) := by have := HT.out.box.lt; have := HS.out.lt; show _ ∧ _; omega
    have HNO : Hid (BookAt (fun x => (¬ E x ∧ x < (wd.alloc (.cells #[.slice none 0 0, .slice none 0 0] 26)).heap.size ∧ x ≠ zt) ∧ x ≠ wd.heap.size) (wd.alloc (.cells #[.slice none 0 0, .slice none 0 0] 26)) b B) := (HT.out.at_.blw ((Blw.refl _).alloc _)).mono (fun x hx => ⟨⟨hx.1, by rw [World.size_alloc]; omega, hx.2.2⟩, by omega⟩)
    replace HSZ : Hid (w.heap.size + 1 ≤ (wd.alloc (.cells #[.slice none 0 0, .slice none 0 0] 26)).heap.size) := by have := HSZ.out; show _ ≤ _; simp; omega
    replace HT : Hid (TS E (wd.alloc (.cells #[.slice none 0 0, .slice none 0 0] 26)) zt b B) := HT.out.blw ((Blw.refl _).alloc _)
    replace HS : Hid (Row (wd.alloc (.cells #[.slice none 0 0, .slice none 0 0] 26)) w.heap.size 4 (fun i => if i = 0 then .int .i64 k else if i = 1 then .int .i64 a else if i = 2 then .int .i64 g else .int .i64 y)) := HS.out.blw ((Blw.refl _).alloc _)
    replace HM : Hid (Mod (fun x => x = zt) w (wd.alloc (.cells #[.slice none 0 0, .slice none 0 0] 26))) := HM.out.trans (((Blw.refl _).alloc _).mod _)
    refine hK.out _ _ (And.intro HT.out.box HS.out) (fun hB => ?_)
    clear hK K hB
    try simp only [Act.put, List.setIfInBounds_toArray, List.set_cons_zero, List.set_cons_succ]
    generalize wd.alloc (.cells #[.slice none 0 0, .slice none 0 0] 26) = wA at *
    generalize wd.heap.size = zb at *
    refine wpAnyH_ready (rs := [4]) (by kernel_rfl) (by simp) ?_
    refine AllReadyH.cons (o := { dst := some 12, op := Op.call { callee := Callee.value (Operand.func 118), args := #[Operand.tmp 10, Operand.tmp 11], argTypes := #[26, 103] }, type := 29, pos := _, after := #[{ on := 2, ground := Ground.data }, { on := 3, ground := Ground.data }], guard := none }) rfl (fun K hK => ?_) AllReadyH.nil
    go_simp
    refine (implChg_any b B k a g y _ _ (fun x hx => hx.2.1) hk HT.out.at_).mono ?_
    rintro e wn ⟨b3, R, r3, rfl, ho3, hs3, own3, hbk⟩
    have HO : Hid (chgO B k a g y R r3) := ho3
    have hsz := hbk.size
    have hzw := HSZ.out
    have hzz := HZ.out.lt
    replace HNO : Hid (BookAt (fun x => (¬ E x ∧ x < wn.heap.size ∧ x ≠ zt) ∧ x ≠ zb) wn b B) := (HNO.out.blw hbk).mono (fun x hx => ⟨⟨hx.1.1, by omega, hx.1.2.2⟩, hx.2⟩)
    replace HZ : Hid (Row wn zb 2 (fun i => if i = 0 then .slice none 0 0 else .slice none 0 0)) := HZ.out.blw hbk
    have HOW : Hid (BookOwn (fun x => w.heap.size < x ∧ x < wn.heap.size ∧ x ≠ zb) wn b3 R) := own3.mono (fun x hx => ⟨by have := HZB.out; omega, hx.2, by omega⟩)
    replace HT : Hid (TS E wn zt b B) := HT.out.blw hbk
    replace HS : Hid (Row wn w.heap.size 4 (fun i => if i = 0 then .int .i64 k else if i = 1 then .int .i64 a else if i = 2 then .int .i64 g else .int .i64 y)) := HS.out.blw hbk
    replace HM : Hid (Mod (fun x => x = zt) w wn) := HM.out.trans (hbk.mod _)
    clear ho3 hs3 own3 hbk hsz hzw hzz
    refine hK.out _ _ (And.intro HT.out.box HS.out) (fun hB => ?_)
    clear hK K hB
    try simp only [Act.put, List.setIfInBounds_toArray, List.set_cons_zero, List.set_cons_succ]
    refine wpAnyH_take (i := 5) (oi := { dst := some 7, op := Op.move (Operand.tmp 12), type := 29, pos := _, after := #[{ on := 4, ground := Ground.data }], guard := none }) (v := (.tuple #[b3.val R, .bool r3])) rfl (by kernel_rfl) (by kernel_rfl) (by kernel_rfl) (fun _ _ _ h => h) (Or.inl ⟨by rfl, fun w' hS => by (try dsimp only at hS); go_simp⟩) (And.intro HT.out.box HS.out) ?_
    simp only [Act.put, List.setIfInBounds_toArray, List.set_cons_zero, List.set_cons_succ]
    refine wpAnyH_take (i := 6) (oi := { dst := some 13, op := Op.extract (Operand.tmp 7) 0, type := 26, pos := _, after := #[{ on := 5, ground := Ground.data }], guard := none }) (v := (.agg #[.slice b3.a1 R.n b3.c1, .slice b3.a2 R.D.n b3.c2])) rfl (by kernel_rfl) (by kernel_rfl) (by kernel_rfl) (fun _ _ _ h => h) (Or.inl ⟨by rfl, fun w' hS => by (try dsimp only at hS); go_simp⟩) (And.intro HT.out.box HS.out) ?_
    simp only [Act.put, List.setIfInBounds_toArray, List.set_cons_zero, List.set_cons_succ]
    refine wpAnyH_take (i := 7) (oi := { dst := some 14, op := Op.extract (Operand.tmp 7) 1, type := 4, pos := _, after := #[{ on := 5, ground := Ground.data }, { on := 9, ground := Ground.gcOnly Departure.lateStores }], guard := none }) (v := (.bool r3)) rfl (by kernel_rfl) (by kernel_rfl) (by kernel_rfl) (fun _ _ _ h => h) (Or.inl ⟨by rfl, fun w' hS => by (try dsimp only at hS); go_simp⟩) (And.intro HT.out.box HS.out) ?_
    simp only [Act.put, List.setIfInBounds_toArray, List.set_cons_zero, List.set_cons_succ]
    refine wpAnyH_ready (rs := [9]) (by kernel_rfl) (by simp) ?_
    refine AllReadyH.cons (o := { dst := none, op := Op.store 26 (Operand.tmp 5) (Operand.tmp 13), type := 0, pos := _, after := #[{ on := 8, ground := Ground.data }, { on := 6, ground := Ground.data }, { on := 4, ground := Ground.chain }, { on := 0, ground := Ground.phase }, { on := 1, ground := Ground.phase }, { on := 2, ground := Ground.phase }, { on := 3, ground := Ground.phase }, { on := 4, ground := Ground.phase }, { on := 5, ground := Ground.phase }, { on := 6, ground := Ground.phase }, { on := 7, ground := Ground.textOnly Departure.lateStores }, { on := 8, ground := Ground.phase }], guard := none }) rfl (fun K hK => ?_) AllReadyH.nil
    obtain ⟨z0, z1⟩ := get2 HZ.out
    have fz0 := HZ.out.frozen 0
    have fz1 := HZ.out.frozen 1
    obtain ⟨ft, fz, fa, fm, fend⟩ := ct_end hE HT.out HZ.out HZB.out HOW.out HM.out hzt HNO.out
    have hm2 := set2_mod (X := fun x => x = zb) wn rfl (.slice b3.a1 R.n b3.c1) (.slice b3.a2 R.D.n b3.c2)
    have hSt := And.intro ft.box (HS.out.mod hm2 (by have := HZB.out; omega))
    have FT : Hid (TS E _ zt b B) := ft
    have FZ : Hid (Row _ zb 2 (fun i => if i = 0 then .slice b3.a1 R.n b3.c1 else .slice b3.a2 R.D.n b3.c2)) := fz
    have FM : Hid (Mod (fun x => x = zt) w _) := fm
    have FE : Hid (TS E _ zt b3 R ∧ Mod (fun x => x = zt) w _) := fend
    clear ft fz fa fm fend hm2
    go_simp
    refine hK.out _ _ hSt (fun hB => ?_)
    clear hK K hB
    try simp only [Act.put, List.setIfInBounds_toArray, List.set_cons_zero, List.set_cons_succ]
    clear z0 z1 fz0 fz1
    refine wpAnyH_take (i := 10) (oi := { dst := some 6, op := Op.assign (Operand.tmp 14), type := 4, pos := _, after := #[{ on := 7, ground := Ground.data }, { on := 9, ground := Ground.chain }, { on := 0, ground := Ground.phase }, { on := 1, ground := Ground.phase }, { on := 2, ground := Ground.phase }, { on := 3, ground := Ground.phase }, { on := 4, ground := Ground.phase }, { on := 5, ground := Ground.phase }, { on := 6, ground := Ground.phase }, { on := 7, ground := Ground.phase }, { on := 8, ground := Ground.phase }, { on := 9, ground := Ground.phase }], guard := none }) (v := (.bool r3)) rfl (by kernel_rfl) (by kernel_rfl) (by kernel_rfl) (fun _ _ _ h => h) (Or.inl ⟨by rfl, fun w' hS => by (try dsimp only at hS); go_simp⟩) hSt ?_
    simp only [Act.put, List.setIfInBounds_toArray, List.set_cons_zero, List.set_cons_succ]
    refine wpAnyH_done (by kernel_rfl) ?_ _
    refine NoPanic.normal ?_
    clear hSt P0 P1 HT HS HM HZ HZB HOW HSZ HNO
    generalize ((wn.setCell ⟨zb, 0, none⟩ (.slice b3.a1 R.n b3.c1)).setCell ⟨zb, 1, none⟩ (.slice b3.a2 R.D.n b3.c2)) = W2 at *
    cases r3
    · have FIN : Hid (∃ b' R' r', Ending.returned (.bool false) = .returned (.bool r') ∧ ctO B k a g y R' r' ∧ TS E W2 zt b' R' ∧ Mod (fun x => x = zt) w W2) := ⟨b, B, false, rfl, ⟨R, HO.out, Or.inr ⟨rfl, rfl⟩⟩, FT.out, FM.out⟩
      clear HO FZ FT FM FE
      go_wp2
      go_ret
      exact FIN.out
    · obtain ⟨q0, q1⟩ := get2 FZ.out
      obtain ⟨t0, t1⟩ := get2 FT.out.box
      have f0 := FT.out.box.frozen 0
      have f1 := FT.out.box.frozen 1
      have FIN : Hid (∃ b' R' r', Ending.returned (.bool true) = .returned (.bool r') ∧ ctO B k a g y R' r' ∧ TS E ((W2.setCell ⟨zt, 0, none⟩ (.slice b3.a1 R.n b3.c1)).setCell ⟨zt, 1, none⟩ (.slice b3.a2 R.D.n b3.c2)) zt b' R' ∧ Mod (fun x => x = zt) w ((W2.setCell ⟨zt, 0, none⟩ (.slice b3.a1 R.n b3.c1)).setCell ⟨zt, 1, none⟩ (.slice b3.a2 R.D.n b3.c2))) := ⟨b3, R, true, rfl, ⟨R, HO.out, Or.inl ⟨rfl, rfl⟩⟩, FE.out.1, FE.out.2⟩
      clear HO FZ FT FM FE
      go_wp2
      refine bodyPost_ret (v := .bool true) (by simp [results, Try.results111, go_sem]) rfl FIN.out
end Go.Proofs.Ytcfdagmcnaepgaa
/- Steps played by a table: the program's. -/
namespace Go.Proofs.Ytcfdagmcnaepgaa
open Go.RowKit
set_option linter.unusedSimpArgs false
set_option linter.unusedVariables false
/-- What a right step tells, and the table behind it. -/
def PSO (B : BD) (k a g y : Int) (R : BD) (v : Int) : Prop :=
  (k = 1 ∧ R = B ∧ ∃ x yy r, wtOut B a y x yy r ∧ v = if r = true then 1 + x else 0) ∨ (¬ k = 1 ∧ ∃ r, ctO B k a g y R r ∧ v = if r = true then 1 else 0)
def PSF (B : BD) (k a g y : Int) (R : BD) (v : Int) : Prop := (¬ rightS k a g y ∧ R = B ∧ v = -1) ∨ (rightS k a g y ∧ PSO B k a g y R v)
theorem right_k {k a g y : Int} (h : rightS k a g y) (h1 : ¬ k = 1) : k = 2 ∨ k = 3 ∨ k = 4 := by rcases h.2 with h | h | h <;> omega
theorem PSO_same {B : BD} {k a g y : Int} {R R' : BD} {v v' : Int} (hr : rightS k a g y) (h : PSO B k a g y R v) (h' : PSO B k a g y R' v') : R = R' ∧ v = v' := by
  rcases h with ⟨k1, rfl, x, yy, r, hw, rfl⟩ | ⟨k1, r, hc, rfl⟩ <;> rcases h' with ⟨k1', rfl, x', yy', r', hw', rfl⟩ | ⟨k1', r', hc', rfl⟩
  · obtain ⟨rfl, rfl, rfl⟩ := wtOut_same hw hw'; exact ⟨rfl, rfl⟩
  · exact absurd k1 k1'
  · exact absurd k1' k1
  · obtain ⟨rfl, rfl⟩ := ctO_same (right_k hr k1) hc hc'; exact ⟨rfl, rfl⟩
theorem PSF_same {B : BD} {k a g y : Int} {R R' : BD} {v v' : Int} (h : PSF B k a g y R v) (h' : PSF B k a g y R' v') : R = R' ∧ v = v' := by
  rcases h with ⟨n, rfl, rfl⟩ | ⟨n, h⟩ <;> rcases h' with ⟨n', rfl, rfl⟩ | ⟨n', h'⟩
  · exact ⟨rfl, rfl⟩
  · exact absurd n' n
  · exact absurd n n'
  · exact PSO_same n h h'
theorem wt_page {B : BD} {a y x yy : Int} {r : Bool} (h : wtOut B a y x yy r) : 0 ≤ x ∧ x ≤ 15 := by
  rcases h with ⟨_, rfl, _⟩ | ⟨ok, _, ⟨_, rfl, _⟩ | ⟨_, rfl, _⟩⟩
  · omega
  · have h1 : pgOK a := ok.2.1
    have := lf_ok ok.1 (a := a.toNat) (by unfold pgOK at h1; omega)
    unfold leafOK at this
    omega
  · omega
set_option maxRecDepth 10000 in
set_option maxHeartbeats 6400000 in
theorem stepT_any (E : Nat → Prop) (zt : Nat) (b : BV) (B : BD) (k a g y : Int) (w : World) (hr : rightS k a g y) (hE : ∀ x, E x → x < w.heap.size) (h : TS E w zt b B) :
    Calls Try.prog 89 #[.pointer (some ⟨zt, 0, none⟩), .agg #[.int .i64 k, .int .i64 a, .int .i64 g, .int .i64 y]] w fun e w' => ∃ b' R v, e = .returned (.int .i64 v) ∧ PSO B k a g y R v ∧ TS E w' zt b' R ∧ Mod (fun x => x = zt) w w' := by
  have hA : Blw w (w.alloc (.cells #[.int .i64 k, .int .i64 a, .int .i64 g, .int .i64 y] 103)) := (Blw.refl _).alloc _
  have HT : Hid (TS E (w.alloc (.cells #[.int .i64 k, .int .i64 a, .int .i64 g, .int .i64 y] 103)) zt b B) := h.blw hA
  have HS : Hid (Row (w.alloc (.cells #[.int .i64 k, .int .i64 a, .int .i64 g, .int .i64 y] 103)) w.heap.size 4 (fun i => if i = 0 then .int .i64 k else if i = 1 then .int .i64 a else if i = 2 then .int .i64 g else .int .i64 y)) := box4 w _ _ _ _ 103
  have HB : Hid (Blw w (w.alloc (.cells #[.int .i64 k, .int .i64 a, .int .i64 g, .int .i64 y] 103))) := hA
  have HRI : Hid (rightS k a g y) := hr
  have hsz : (w.alloc (.cells #[.int .i64 k, .int .i64 a, .int .i64 g, .int .i64 y] 103)).heap.size = w.heap.size + 1 := by simp
  have HSZ : Hid (w.heap.size ≤ (w.alloc (.cells #[.int .i64 k, .int .i64 a, .int .i64 g, .int .i64 y] 103)).heap.size) := by show _ ≤ _; omega
  clear h hA hr hsz
  go_enter Try.func89, Try.ntmps89
  obtain ⟨s0, s1, s2, s3⟩ := get4 HS.out
  by_cases k1 : k = 1
  · subst k1
    go_upto_region 2 with fail
    clear s0 s1 s2 s3
    generalize w.alloc (.cells #[.int .i64 1, .int .i64 a, .int .i64 g, .int .i64 y] 103) = wp at *
    replace HT : Hid (TS E wp.drew zt b B) := HT.out.blw (Blw.refl _).drew
    replace HS : Hid (Row wp.drew w.heap.size 4 (fun i => if i = 0 then .int .i64 1 else if i = 1 then .int .i64 a else if i = 2 then .int .i64 g else .int .i64 y)) := HS.out.blw (Blw.refl _).drew
    replace HB : Hid (Blw w wp.drew) := HB.out.drew
    have P0 : ∀ w', (Row w' zt 2 (fun i => if i = 0 then .slice b.a1 B.n b.c1 else .slice b.a2 B.D.n b.c2) ∧ Row w' w.heap.size 4 (fun i => if i = 0 then .int .i64 1 else if i = 1 then .int .i64 a else if i = 2 then .int .i64 g else .int .i64 y)) → w'.cell? ⟨zt, 0, none⟩ = some (.slice b.a1 B.n b.c1) ∧ w'.cell? ⟨zt, 1, none⟩ = some (.slice b.a2 B.D.n b.c2) := fun w' hh => get2 hh.1
    have P1 : ∀ w', (Row w' zt 2 (fun i => if i = 0 then .slice b.a1 B.n b.c1 else .slice b.a2 B.D.n b.c2) ∧ Row w' w.heap.size 4 (fun i => if i = 0 then .int .i64 1 else if i = 1 then .int .i64 a else if i = 2 then .int .i64 g else .int .i64 y)) → w'.cell? ⟨w.heap.size, 1, none⟩ = some (.int .i64 a) ∧ w'.cell? ⟨w.heap.size, 3, none⟩ = some (.int .i64 y) := fun w' hh => ⟨(get4 hh.2).2.1, (get4 hh.2).2.2.2⟩
    refine wp_region_noPanic ?_
    refine wp_region_held_drew (S := fun w' => Row w' zt 2 (fun i => if i = 0 then .slice b.a1 B.n b.c1 else .slice b.a2 B.D.n b.c2) ∧ Row w' w.heap.size 4 (fun i => if i = 0 then .int .i64 1 else if i = 1 then .int .i64 a else if i = 2 then .int .i64 g else .int .i64 y)) (by kernel_rfl) (And.intro HT.out.box HS.out) (fun hB => ?_)
    clear hB
    generalize wp.drew = wd at *
    refine wpAnyH_take (i := 0) (oi := { dst := some 12, op := Op.move (Operand.tmp 0), type := 111, pos := _, after := #[], guard := none }) (v := (.pointer (some ⟨zt, 0, none⟩))) rfl (by kernel_rfl) (by kernel_rfl) (by kernel_rfl) (fun _ _ _ h => h) (Or.inl ⟨by rfl, fun w' hS => by (try dsimp only at hS); go_simp⟩) (And.intro HT.out.box HS.out) ?_
    simp only [Act.put, List.setIfInBounds_toArray, List.set_cons_zero, List.set_cons_succ]
    refine wpAnyH_take (i := 3) (oi := { dst := some 15, op := Op.fieldAddr 103 (Operand.tmp 3) 1, type := 0, pos := _, after := #[], guard := none }) (v := (.pointer (some ⟨w.heap.size, 1, none⟩))) rfl (by kernel_rfl) (by kernel_rfl) (by kernel_rfl) (fun _ _ _ h => h) (Or.inl ⟨by rfl, fun w' hS => by (try dsimp only at hS); go_simp⟩) (And.intro HT.out.box HS.out) ?_
    simp only [Act.put, List.setIfInBounds_toArray, List.set_cons_zero, List.set_cons_succ]
    refine wpAnyH_take (i := 5) (oi := { dst := some 17, op := Op.fieldAddr 103 (Operand.tmp 3) 3, type := 0, pos := _, after := #[], guard := none }) (v := (.pointer (some ⟨w.heap.size, 3, none⟩))) rfl (by kernel_rfl) (by kernel_rfl) (by kernel_rfl) (fun _ _ _ h => h) (Or.inl ⟨by rfl, fun w' hS => by (try dsimp only at hS); go_simp⟩) (And.intro HT.out.box HS.out) ?_
    simp only [Act.put, List.setIfInBounds_toArray, List.set_cons_zero, List.set_cons_succ]
    refine wpAnyH_take (i := 1) (oi := { dst := some 13, op := Op.nilCheck (Operand.tmp 12), type := 0, pos := _, after := #[{ on := 0, ground := Ground.data }], guard := none }) (v := (.pointer (some ⟨zt, 0, none⟩))) rfl (by kernel_rfl) (by kernel_rfl) (by kernel_rfl) (fun _ _ _ h => h) (Or.inl ⟨by rfl, fun w' hS => by (try dsimp only at hS); go_simp⟩) (And.intro HT.out.box HS.out) ?_
    simp only [Act.put, List.setIfInBounds_toArray, List.set_cons_zero, List.set_cons_succ]
    refine wpAnyH_take (i := 4) (oi := { dst := some 16, op := Op.load 3 (Operand.tmp 15), type := 3, pos := _, after := #[{ on := 3, ground := Ground.data }], guard := none }) (v := (.int .i64 a)) rfl (by kernel_rfl) (by kernel_rfl) (by kernel_rfl) (fun _ _ _ h => h) (Or.inl ⟨by rfl, fun w' hS => by (try dsimp only at hS); go_simp⟩) (And.intro HT.out.box HS.out) ?_
    simp only [Act.put, List.setIfInBounds_toArray, List.set_cons_zero, List.set_cons_succ]
    refine wpAnyH_take (i := 6) (oi := { dst := some 18, op := Op.load 3 (Operand.tmp 17), type := 3, pos := _, after := #[{ on := 5, ground := Ground.data }], guard := none }) (v := (.int .i64 y)) rfl (by kernel_rfl) (by kernel_rfl) (by kernel_rfl) (fun _ _ _ h => h) (Or.inl ⟨by rfl, fun w' hS => by (try dsimp only at hS); go_simp⟩) (And.intro HT.out.box HS.out) ?_
    simp only [Act.put, List.setIfInBounds_toArray, List.set_cons_zero, List.set_cons_succ]
    refine wpAnyH_take (i := 2) (oi := { dst := some 14, op := Op.load 26 (Operand.tmp 13), type := 26, pos := _, after := #[{ on := 1, ground := Ground.data }], guard := none }) (v := (.agg #[.slice b.a1 B.n b.c1, .slice b.a2 B.D.n b.c2])) rfl (by kernel_rfl) (by kernel_rfl) (by kernel_rfl) (fun _ _ _ h => h) (Or.inl ⟨by rfl, fun w' hS => by (try dsimp only at hS); go_simp⟩) (And.intro HT.out.box HS.out) ?_
    simp only [Act.put, List.setIfInBounds_toArray, List.set_cons_zero, List.set_cons_succ]
    refine wpAnyH_ready (rs := [7]) (by kernel_rfl) (by simp) ?_
    refine AllReadyH.cons (o := { dst := some 19, op := Op.call { callee := Callee.value (Operand.func 14), args := #[Operand.tmp 14, Operand.tmp 16, Operand.tmp 18], argTypes := #[26, 3, 3] }, type := 33, pos := _, after := #[{ on := 2, ground := Ground.data }, { on := 4, ground := Ground.data }, { on := 6, ground := Ground.data }], guard := none }) rfl (fun K hK => ?_) AllReadyH.nil
    go_simp
    refine (implWalk_any b B a y _ _ HT.out.at_ (fun x hx => hx.2.1)).mono ?_
    rintro e wn ⟨x, yy, r, rfl, ho, hbk⟩
    have HO : Hid (wtOut B a y x yy r) := ho
    replace HT : Hid (TS E wn zt b B) := HT.out.blw hbk
    replace HS : Hid (Row wn w.heap.size 4 (fun i => if i = 0 then .int .i64 1 else if i = 1 then .int .i64 a else if i = 2 then .int .i64 g else .int .i64 y)) := HS.out.blw hbk
    replace HB : Hid (Blw w wn) := HB.out.trans hbk
    clear ho hbk
    refine hK.out _ _ (And.intro HT.out.box HS.out) (fun hB => ?_)
    clear hK K hB
    try simp only [Act.put, List.setIfInBounds_toArray, List.set_cons_zero, List.set_cons_succ]
    refine wpAnyH_take (i := 8) (oi := { dst := some 11, op := Op.move (Operand.tmp 19), type := 33, pos := _, after := #[{ on := 7, ground := Ground.data }], guard := none }) (v := (.tuple #[.int .i64 x, .int .i64 yy, .bool r])) rfl (by kernel_rfl) (by kernel_rfl) (by kernel_rfl) (fun _ _ _ h => h) (Or.inl ⟨by rfl, fun w' hS => by (try dsimp only at hS); go_simp⟩) (And.intro HT.out.box HS.out) ?_
    simp only [Act.put, List.setIfInBounds_toArray, List.set_cons_zero, List.set_cons_succ]
    refine wpAnyH_take (i := 9) (oi := { dst := some 20, op := Op.extract (Operand.tmp 11) 0, type := 3, pos := _, after := #[{ on := 8, ground := Ground.data }], guard := none }) (v := (.int .i64 x)) rfl (by kernel_rfl) (by kernel_rfl) (by kernel_rfl) (fun _ _ _ h => h) (Or.inl ⟨by rfl, fun w' hS => by (try dsimp only at hS); go_simp⟩) (And.intro HT.out.box HS.out) ?_
    simp only [Act.put, List.setIfInBounds_toArray, List.set_cons_zero, List.set_cons_succ]
    refine wpAnyH_take (i := 10) (oi := { dst := some 21, op := Op.extract (Operand.tmp 11) 1, type := 3, pos := _, after := #[{ on := 8, ground := Ground.data }, { on := 12, ground := Ground.gcOnly Departure.lateStores }], guard := none }) (v := (.int .i64 yy)) rfl (by kernel_rfl) (by kernel_rfl) (by kernel_rfl) (fun _ _ _ h => h) (Or.inl ⟨by rfl, fun w' hS => by (try dsimp only at hS); go_simp⟩) (And.intro HT.out.box HS.out) ?_
    simp only [Act.put, List.setIfInBounds_toArray, List.set_cons_zero, List.set_cons_succ]
    refine wpAnyH_take (i := 11) (oi := { dst := some 22, op := Op.extract (Operand.tmp 11) 2, type := 4, pos := _, after := #[{ on := 8, ground := Ground.data }, { on := 13, ground := Ground.gcOnly Departure.lateStores }], guard := none }) (v := (.bool r)) rfl (by kernel_rfl) (by kernel_rfl) (by kernel_rfl) (fun _ _ _ h => h) (Or.inl ⟨by rfl, fun w' hS => by (try dsimp only at hS); go_simp⟩) (And.intro HT.out.box HS.out) ?_
    simp only [Act.put, List.setIfInBounds_toArray, List.set_cons_zero, List.set_cons_succ]
    refine wpAnyH_take (i := 12) (oi := { dst := some 5, op := Op.assign (Operand.tmp 20), type := 3, pos := _, after := #[{ on := 9, ground := Ground.data }, { on := 7, ground := Ground.chain }, { on := 0, ground := Ground.phase }, { on := 1, ground := Ground.phase }, { on := 2, ground := Ground.phase }, { on := 3, ground := Ground.phase }, { on := 4, ground := Ground.phase }, { on := 5, ground := Ground.phase }, { on := 6, ground := Ground.phase }, { on := 7, ground := Ground.phase }, { on := 8, ground := Ground.phase }, { on := 9, ground := Ground.phase }, { on := 10, ground := Ground.textOnly Departure.lateStores }, { on := 11, ground := Ground.textOnly Departure.lateStores }], guard := none }) (v := (.int .i64 x)) rfl (by kernel_rfl) (by kernel_rfl) (by kernel_rfl) (fun _ _ _ h => h) (Or.inl ⟨by rfl, fun w' hS => by (try dsimp only at hS); go_simp⟩) (And.intro HT.out.box HS.out) ?_
    simp only [Act.put, List.setIfInBounds_toArray, List.set_cons_zero, List.set_cons_succ]
    refine wpAnyH_take (i := 13) (oi := { dst := some 6, op := Op.assign (Operand.tmp 21), type := 3, pos := _, after := #[{ on := 10, ground := Ground.data }, { on := 12, ground := Ground.chain }, { on := 0, ground := Ground.phase }, { on := 1, ground := Ground.phase }, { on := 2, ground := Ground.phase }, { on := 3, ground := Ground.phase }, { on := 4, ground := Ground.phase }, { on := 5, ground := Ground.phase }, { on := 6, ground := Ground.phase }, { on := 7, ground := Ground.phase }, { on := 8, ground := Ground.phase }, { on := 9, ground := Ground.phase }, { on := 10, ground := Ground.phase }, { on := 11, ground := Ground.textOnly Departure.lateStores }, { on := 12, ground := Ground.phase }], guard := none }) (v := (.int .i64 yy)) rfl (by kernel_rfl) (by kernel_rfl) (by kernel_rfl) (fun _ _ _ h => h) (Or.inl ⟨by rfl, fun w' hS => by (try dsimp only at hS); go_simp⟩) (And.intro HT.out.box HS.out) ?_
    simp only [Act.put, List.setIfInBounds_toArray, List.set_cons_zero, List.set_cons_succ]
    refine wpAnyH_take (i := 14) (oi := { dst := some 7, op := Op.assign (Operand.tmp 22), type := 4, pos := _, after := #[{ on := 11, ground := Ground.data }, { on := 13, ground := Ground.chain }, { on := 0, ground := Ground.phase }, { on := 1, ground := Ground.phase }, { on := 2, ground := Ground.phase }, { on := 3, ground := Ground.phase }, { on := 4, ground := Ground.phase }, { on := 5, ground := Ground.phase }, { on := 6, ground := Ground.phase }, { on := 7, ground := Ground.phase }, { on := 8, ground := Ground.phase }, { on := 9, ground := Ground.phase }, { on := 10, ground := Ground.phase }, { on := 11, ground := Ground.phase }, { on := 12, ground := Ground.phase }, { on := 13, ground := Ground.phase }], guard := none }) (v := (.bool r)) rfl (by kernel_rfl) (by kernel_rfl) (by kernel_rfl) (fun _ _ _ h => h) (Or.inl ⟨by rfl, fun w' hS => by (try dsimp only at hS); go_simp⟩) (And.intro HT.out.box HS.out) ?_
    simp only [Act.put, List.setIfInBounds_toArray, List.set_cons_zero, List.set_cons_succ]
    refine wpAnyH_done (by kernel_rfl) ?_ _
    refine NoPanic.normal ?_
    clear P0 P1 HS
    go_wp2_with fail
    refine (answerOf_any x r _ (wt_page HO.out)).mono ?_
    rintro e wn ⟨rfl, rfl⟩
    have FIN : Hid (∃ b' R v, Ending.returned (.int .i64 (if r = true then 1 + x else 0)) = .returned (.int .i64 v) ∧ PSO B 1 a g y R v ∧ TS E wn zt b' R ∧ Mod (fun x => x = zt) w wn) := ⟨b, B, _, rfl, Or.inl ⟨rfl, rfl, x, yy, r, HO.out, rfl⟩, HT.out, HB.out.mod _⟩
    generalize (if r = true then 1 + x else 0) = va at *
    clear HO HT HB
    go_wp2
    go_ret
    exact FIN.out
  · have d1 : (k == 1) = false := by simp [k1]
    have HK1 : Hid (¬ k = 1) := k1
    have HK : Hid (k = 2 ∨ k = 3 ∨ k = 4) := right_k HRI.out k1
    clear k1
    go_wp2_with fail
    clear s0 s1 s2 s3
    generalize w.alloc (.cells #[.int .i64 k, .int .i64 a, .int .i64 g, .int .i64 y] 103) = wp at *
    refine (changeT_any E zt b B k a g y _ HK.out (fun x hx => Nat.lt_of_lt_of_le (hE x hx) HSZ.out) HT.out).mono ?_
    rintro e w2 ⟨b2, R, r, rfl, ho, ht, hm⟩
    have HO : Hid (ctO B k a g y R r) := ho
    replace HT : Hid (TS E w2 zt b2 R) := ht
    have HM : Hid (Mod (fun x => x = zt) w w2) := (HB.out.mod _).trans hm
    clear ho ht hm HS HB HSZ
    go_wp2_with fail
    refine (answerOf_any 0 r _ (by omega)).mono ?_
    rintro e w2 ⟨rfl, rfl⟩
    have FIN : Hid (∃ b' R v, Ending.returned (.int .i64 (if r = true then 1 + 0 else 0)) = .returned (.int .i64 v) ∧ PSO B k a g y R v ∧ TS E w2 zt b' R ∧ Mod (fun x => x = zt) w w2) := ⟨b2, R, _, rfl, Or.inr ⟨HK1.out, r, HO.out, by cases r <;> rfl⟩, HT.out, HM.out⟩
    generalize (if r = true then (1 : Int) + 0 else 0) = va at *
    clear HO HT HM
    go_wp2
    go_ret
    exact FIN.out
set_option maxHeartbeats 1600000 in
theorem playP_any (E : Nat → Prop) (zt : Nat) (b : BV) (B : BD) (k a g y : Int) (w : World) (hr : rightS k a g y) (hE : ∀ x, E x → x < w.heap.size) (h : TS E w zt b B) :
    Calls Try.prog 88 #[.agg #[.int .i64 k, .int .i64 a, .int .i64 g, .int .i64 y], .pointer (some ⟨zt, 0, none⟩)] w fun e w' => ∃ b' R v, e = .returned (.int .i64 v) ∧ PSO B k a g y R v ∧ TS E w' zt b' R ∧ Mod (fun x => x = zt) w w' := by
  have hA : Blw w (w.alloc (.cells #[.int .i64 k, .int .i64 a, .int .i64 g, .int .i64 y] 103)) := (Blw.refl _).alloc _
  have HT : Hid (TS E (w.alloc (.cells #[.int .i64 k, .int .i64 a, .int .i64 g, .int .i64 y] 103)) zt b B) := h.blw hA
  have HS : Hid (Row (w.alloc (.cells #[.int .i64 k, .int .i64 a, .int .i64 g, .int .i64 y] 103)) w.heap.size 4 (fun i => if i = 0 then .int .i64 k else if i = 1 then .int .i64 a else if i = 2 then .int .i64 g else .int .i64 y)) := box4 w _ _ _ _ 103
  have HB : Hid (Blw w (w.alloc (.cells #[.int .i64 k, .int .i64 a, .int .i64 g, .int .i64 y] 103))) := hA
  have HSZ : Hid (w.heap.size ≤ (w.alloc (.cells #[.int .i64 k, .int .i64 a, .int .i64 g, .int .i64 y] 103)).heap.size) := by show _ ≤ _; simp
  clear h hA
  go_enter Try.func88, Try.ntmps88
  obtain ⟨s0, s1, s2, s3⟩ := get4 HS.out
  go_wp2_with fail
  clear s0 s1 s2 s3
  generalize w.alloc (.cells #[.int .i64 k, .int .i64 a, .int .i64 g, .int .i64 y] 103) = wp at *
  refine (stepT_any E zt b B k a g y _ hr (fun x hx => Nat.lt_of_lt_of_le (hE x hx) HSZ.out) HT.out).mono ?_
  rintro e w2 ⟨b2, R, v, rfl, ho, ht, hm⟩
  have FIN : Hid (∃ b' R' v', Ending.returned (.int .i64 v) = .returned (.int .i64 v') ∧ PSO B k a g y R' v' ∧ TS E w2 zt b' R' ∧ Mod (fun x => x = zt) w w2) := ⟨b2, R, v, rfl, ho, ht, (HB.out.mod _).trans hm⟩
  clear ho ht hm HS HB HT HSZ
  go_wp2
  go_ret
  exact FIN.out
set_option maxRecDepth 10000 in
set_option maxHeartbeats 1600000 in
theorem answerP_any (E : Nat → Prop) (zt zf : Nat) (b : BV) (B : BD) (k a g y : Int) (w : World) (hE : ∀ x, E x → x < w.heap.size) (h : TS E w zt b B) (hf : Row w zf 1 (fun _ => .func (.func 88) #[] #[.pointer (some ⟨zt, 0, none⟩)])) :
    Calls Try.prog 108 #[.agg #[.int .i64 k, .int .i64 a, .int .i64 g, .int .i64 y], .pointer (some ⟨zf, 0, none⟩)] w fun e w' => ∃ b' R v, e = .returned (.int .i64 v) ∧ PSF B k a g y R v ∧ TS E w' zt b' R ∧ Mod (fun x => x = zt) w w' := by
  have hA : Blw w (w.alloc (.cells #[.int .i64 k, .int .i64 a, .int .i64 g, .int .i64 y] 103)) := (Blw.refl _).alloc _
  have HT : Hid (TS E (w.alloc (.cells #[.int .i64 k, .int .i64 a, .int .i64 g, .int .i64 y] 103)) zt b B) := h.blw hA
  have HS : Hid (Row (w.alloc (.cells #[.int .i64 k, .int .i64 a, .int .i64 g, .int .i64 y] 103)) w.heap.size 4 (fun i => if i = 0 then .int .i64 k else if i = 1 then .int .i64 a else if i = 2 then .int .i64 g else .int .i64 y)) := box4 w _ _ _ _ 103
  have HF : Hid (Row (w.alloc (.cells #[.int .i64 k, .int .i64 a, .int .i64 g, .int .i64 y] 103)) zf 1 (fun _ => .func (.func 88) #[] #[.pointer (some ⟨zt, 0, none⟩)])) := hf.blw hA
  have HB : Hid (Blw w (w.alloc (.cells #[.int .i64 k, .int .i64 a, .int .i64 g, .int .i64 y] 103))) := hA
  have HSZ : Hid (w.heap.size ≤ (w.alloc (.cells #[.int .i64 k, .int .i64 a, .int .i64 g, .int .i64 y] 103)).heap.size) := by show _ ≤ _; simp
  clear h hA hf
  go_enter Try.func108, Try.ntmps108
  obtain ⟨s0, s1, s2, s3⟩ := get4 HS.out
  go_wp2_with fail
  clear s0 s1 s2 s3
  generalize w.alloc (.cells #[.int .i64 k, .int .i64 a, .int .i64 g, .int .i64 y] 103) = wp at *
  refine (isStep_any k a g y _).mono ?_
  rintro e w1 ⟨r, rfl, hr, hb1⟩
  have HR : Hid (r = true ↔ rightS k a g y) := hr
  replace HT : Hid (TS E w1 zt b B) := HT.out.blw hb1
  replace HS : Hid (Row w1 w.heap.size 4 (fun i => if i = 0 then .int .i64 k else if i = 1 then .int .i64 a else if i = 2 then .int .i64 g else .int .i64 y)) := HS.out.blw hb1
  replace HF : Hid (Row w1 zf 1 (fun _ => .func (.func 88) #[] #[.pointer (some ⟨zt, 0, none⟩)])) := HF.out.blw hb1
  replace HB : Hid (Blw w w1) := HB.out.trans hb1
  replace HSZ : Hid (w.heap.size ≤ w1.heap.size) := Nat.le_trans HSZ.out hb1.size
  clear hr hb1
  cases r
  · have HN : Hid (¬ rightS k a g y) := fun q => by have := HR.out.2 q; simp at this
    have FIN : Hid (∃ b' R' v', Ending.returned (.int .i64 (-1)) = .returned (.int .i64 v') ∧ PSF B k a g y R' v' ∧ TS E w1 zt b' R' ∧ Mod (fun x => x = zt) w w1) := ⟨b, B, -1, rfl, Or.inl ⟨HN.out, rfl, rfl⟩, HT.out, HB.out.mod _⟩
    clear HR HT HS HF HB HSZ HN
    go_wp2
    go_ret
    exact FIN.out
  have HY : Hid (rightS k a g y) := HR.out.1 (by first | rfl | trivial)
  clear HR
  obtain ⟨s0, s1, s2, s3⟩ := get4 HS.out
  have hfc := HF.out.cell (i := 0) (by omega)
  go_wp2_with fail
  clear s0 s1 s2 s3 hfc
  refine (playP_any E zt b B k a g y _ HY.out (fun x hx => Nat.lt_of_lt_of_le (hE x hx) HSZ.out) HT.out).mono ?_
  rintro e w2 ⟨b2, R, v, rfl, ho, ht, hm⟩
  have FIN : Hid (∃ b' R' v', Ending.returned (.int .i64 v) = .returned (.int .i64 v') ∧ PSF B k a g y R' v' ∧ TS E w2 zt b' R' ∧ Mod (fun x => x = zt) w w2) := ⟨b2, R, v, rfl, Or.inr ⟨HY.out, ho⟩, ht, (HB.out.mod _).trans hm⟩
  clear ho ht hm HS HB HT HSZ HF HY
  go_wp2
  go_ret
  exact FIN.out
end Go.Proofs.Ytcfdagmcnaepgaa
/- The laws' functions on lists of Ws. -/
namespace Go.Proofs.Ytcfdagmcnaepgaa
open Go.RowKit
set_option linter.unusedSimpArgs false
set_option linter.unusedVariables false
theorem infoWs : (Try.prog.info? 103).map (fun i => (i.zero, i.size, i.bytes)) = some (some (.agg #[.int .i64 0, .int .i64 0, .int .i64 0, .int .i64 0]), 4, 32) := by kernel_rfl
theorem mkWs (n : Nat) (hn : n ≤ 1048576) (w : World) : (Instr.makeSlice 63 (.int .i64 n) (.int .i64 n)).run Try.prog w = .ok (.slice (some ⟨w.heap.size, 0, none⟩) n n) (w.alloc (.cells (madeCells #[.int .i64 0, .int .i64 0, .int .i64 0, .int .i64 0] (n * 4)) 103)) := by
  obtain ⟨i0, hi, hz0, hz1, hz2⟩ := info_parts infoWs
  have h := run_make (P := Try.prog) w 63 103 i0 (.agg #[.int .i64 0, .int .i64 0, .int .i64 0, .int .i64 0]) Try.underlying63 hi hz0 .i64 .i64 (n : Int) (n : Int) (by omega) (Int.le_refl _) (by rw [hz2]; omega) (by omega)
  simpa [hz1, Value.cells] using h
set_option maxHeartbeats 400000 in
theorem szWs_any (ao : Option Addr) (c n : Nat) (left : Int) (w : World) (hn : n ≤ 9223372036854775807) (h0 : 0 ≤ left) (h1 : left ≤ 1048576) :
    Calls Try.prog 40 #[.slice ao n c, .int .i64 left] w fun e w' => ∃ r : Int, e = .returned (.int .i64 r) ∧ Left left n r ∧ Blw w w' := by
  by_cases h : left - n < 0
  · go_enter Try.func40, Try.ntmps40
    go_wp2
    go_ret
    exact ⟨_, rfl, Or.inl rfl, Blw.refl _⟩
  · go_enter Try.func40, Try.ntmps40
    go_wp2
    go_ret
    exact ⟨_, rfl, Or.inr ⟨by omega, by omega⟩, Blw.refl _⟩
set_option maxHeartbeats 800000 in
theorem toWs1_any (x0 x1 x2 x3 : Int) (w : World) : Calls Try.prog 85 #[.agg #[.int .i64 x0, .int .i64 x1, .int .i64 x2, .int .i64 x3]] w fun e w' => e = .returned (.agg #[.int .i64 x0, .int .i64 x1, .int .i64 x2, .int .i64 x3]) ∧ Blw w w' := by
  go_enter Try.func85, Try.ntmps85
  go_wp2
  refine bodyPost_ret (v := (.agg #[.int .i64 x0, .int .i64 x1, .int .i64 x2, .int .i64 x3])) (by simp [results, Try.results85, go_sem]) rfl ⟨rfl, ?_⟩
  exact (((Blw.refl _).alloc _).alloc _).alloc _
set_option maxHeartbeats 1600000 in
theorem toWs_any (ao : Option Addr) (c n : Nat) (F : Nat → Nat → Int) (Y : Nat → Prop) (w : World) (hn : n ≤ 1048576) (h : KAt 4 Y w ao n F) :
    Calls Try.prog 42 #[.slice ao n c] w fun e w' => e = .returned (.slice (some ⟨w.heap.size, 0, none⟩) n n) ∧ Row w' w.heap.size (n * 4) (kc 4 F) ∧ Blw w w' := by
  have H : Hid (KAt 4 Y w ao n F) := h
  clear h
  have hmk := mkWs n hn
  go_enter Try.func42, Try.ntmps42
  go_wp2
  clear hmk
  go_loopw [4] (fun i wr => ∃ j : Nat, j ≤ n ∧ i = .int .i64 j ∧ Row wr w.heap.size (n * 4) (kc 4 (upK F (fun _ _ => 0) j)) ∧ Blw w wr) (fun i _ => n - (intOf i).toNat)
  case atStart => exact ⟨0, Nat.zero_le _, rfl, (Row.madeK w #[.int .i64 0, .int .i64 0, .int .i64 0, .int .i64 0] (.int .i64 0) (fun i hi => by
    match i, hi with
    | 0, _ => rfl
    | 1, _ => rfl
    | 2, _ => rfl
    | 3, _ => rfl
    ) (by decide) (n * 4) 103).congr (fun i _ => by rw [upK_zero]; rfl), (Blw.refl _).alloc _⟩
  case round =>
    obtain ⟨j, hj, rfl, hr, hb⟩ := hrel
    have HR : Hid (Row wr w.heap.size (n * 4) (kc 4 (upK F (fun _ _ => 0) j))) := hr
    have HB : Hid (Blw w wr) := hb
    clear hr hb
    by_cases hlt : j < n
    · obtain ⟨b, o, rfl, -, g⟩ := (H.out.blw HB.out).2 j hlt
      have g0 := g 0 (by omega)
      have g1 := g 1 (by omega)
      have g2 := g 2 (by omega)
      have g3 := g 3 (by omega)
      have hlt' : (j : Int) < n := by omega
      clear g H
      rw [Nat.add_zero] at g0
      go_wp2_with fail
      refine (toWs1_any _ _ _ _ _).mono ?_
      rintro e w1 ⟨rfl, hb1⟩
      clear g0 g1 g2 g3
      have HR1 : Hid (Row w1 w.heap.size (n * 4) (kc 4 (upK F (fun _ _ => 0) j))) := HR.out.blw hb1
      have HB1 : Hid (Blw w w1) := HB.out.trans hb1
      clear HR HB hb1
      have p0 := k_get HR1.out hlt (c := 0) (by omega)
      have f0 := HR1.out.frozen (j * 4)
      have p1 := k_get HR1.out hlt (c := 1) (by omega)
      have f1 := HR1.out.frozen (j * 4 + 1)
      have p2 := k_get HR1.out hlt (c := 2) (by omega)
      have f2 := HR1.out.frozen (j * 4 + 2)
      have p3 := k_get HR1.out hlt (c := 3) (by omega)
      have f3 := HR1.out.frozen (j * 4 + 3)
      rw [Nat.add_zero] at p0
      have HS : Hid (Row ((((w1.setCell ⟨w.heap.size, j * 4, none⟩ (.int .i64 (F j 0))).setCell ⟨w.heap.size, j * 4 + 1, none⟩ (.int .i64 (F j 1))).setCell ⟨w.heap.size, j * 4 + 2, none⟩ (.int .i64 (F j 2))).setCell ⟨w.heap.size, j * 4 + 3, none⟩ (.int .i64 (F j 3))) w.heap.size (n * 4) (kc 4 (upK F (fun _ _ => 0) (j + 1)))) := by
        have hq := (setK (setK (setK (setK HR1.out j (c := 0) (by omega) (F j 0)) j (c := 1) (by omega) (F j 1)) j (c := 2) (by omega) (F j 2)) j (c := 3) (by omega) (F j 3))
        rw [Nat.add_zero] at hq
        refine hq.congr (fun t ht => ?_)
        have ht2 : t % 4 < 4 := Nat.mod_lt _ (by omega)
        unfold kc updF upK
        by_cases e : t / 4 = j
        · simp only [e, true_and, Nat.lt_succ_self, if_true]
          rcases (show t % 4 = 0 ∨ t % 4 = 1 ∨ t % 4 = 2 ∨ t % 4 = 3 by omega) with e2 | e2 | e2 | e2 <;> simp [e2]
        · have e3 : (t / 4 < j + 1) = (t / 4 < j) := by simp; omega
          simp [e, e3]
      have HBF : Hid (Blw w ((((w1.setCell ⟨w.heap.size, j * 4, none⟩ (.int .i64 (F j 0))).setCell ⟨w.heap.size, j * 4 + 1, none⟩ (.int .i64 (F j 1))).setCell ⟨w.heap.size, j * 4 + 2, none⟩ (.int .i64 (F j 2))).setCell ⟨w.heap.size, j * 4 + 3, none⟩ (.int .i64 (F j 3)))) := ((((HB1.out.setCell (Nat.le_refl _) _).setCell (Nat.le_refl _) _).setCell (Nat.le_refl _) _).setCell (Nat.le_refl _) _)
      clear HR1 HB1
      go_wp2
      go_roundw
      case rel => exact ⟨j + 1, by omega, by go_num, HS.out, HBF.out⟩
      case measure => simp [intOf]; omega
    · go_wp2
      go_ret
      obtain rfl : j = n := by omega
      refine ⟨rfl, HR.out.congr fun i hi => ?_, HB.out⟩
      have : i / 4 < j := Nat.div_lt_of_lt_mul (by rw [Nat.mul_comm]; exact hi)
      simp [kc, upK, this]
set_option maxHeartbeats 800000 in
theorem eqWs1_same (x0 x1 x2 x3 : Int) (w : World) : Calls Try.prog 90 #[.agg #[.int .i64 x0, .int .i64 x1, .int .i64 x2, .int .i64 x3], .agg #[.int .i64 x0, .int .i64 x1, .int .i64 x2, .int .i64 x3]] w fun e w' => e = .returned (.bool true) ∧ Blw w w' := by
  have h0 : (x0 != x0) = false := by simp
  have h1 : (x1 != x1) = false := by simp
  have h2 : (x2 != x2) = false := by simp
  have h3 : (x3 != x3) = false := by simp
  go_enter Try.func90, Try.ntmps90
  go_wp2
  go_ret
  exact ⟨rfl, ((Blw.refl _).alloc _).alloc _⟩
set_option maxHeartbeats 1600000 in
theorem eqWs_same (a1 a2 : Option Addr) (c1 c2 n : Nat) (F : Nat → Nat → Int) {X Y : Nat → Prop} (w : World) (h1 : KAt 4 X w a1 n F) (h2 : KAt 4 Y w a2 n F) :
    Calls Try.prog 45 #[.slice a1 n c1, .slice a2 n c2] w fun e w' => e = .returned (.bool true) ∧ Blw w w' := by
  have H1 : Hid (KAt 4 X w a1 n F) := h1
  have H2 : Hid (KAt 4 Y w a2 n F) := h2
  have hn := h1.1
  clear h1 h2
  have hne : ((n : Int) != (n : Int)) = false := by simp
  go_enter Try.func45, Try.ntmps45
  go_wp2_with fail
  go_loopw [5] (fun i wr => ∃ k : Nat, k ≤ n ∧ i = .int .i64 k ∧ Blw w wr) (fun i _ => n - (intOf i).toNat)
  case atStart => exact ⟨0, Nat.zero_le _, rfl, Blw.refl _⟩
  case round =>
    obtain ⟨k, hk, rfl, hb⟩ := hrel
    by_cases hlt : k < n
    · have hlt' : (k : Int) < n := by omega
      obtain ⟨b1, o1, rfl, -, g1⟩ := (H1.out.blw hb).2 k hlt
      obtain ⟨b2, o2, rfl, -, g2⟩ := (H2.out.blw hb).2 k hlt
      generalize hFk : F k = Fk at *
      have P0 : ∀ w', Blw wr w' → w'.cell? ⟨b1, o1 + k * 4, none⟩ = some (.int .i64 (Fk 0)) := fun w' hh => hh.cell (g1 0 (by omega))
      have Q0 : ∀ w', Blw wr w' → w'.cell? ⟨b2, o2 + k * 4, none⟩ = some (.int .i64 (Fk 0)) := fun w' hh => hh.cell (g2 0 (by omega))
      have P1 : ∀ w', Blw wr w' → w'.cell? ⟨b1, o1 + k * 4 + 1, none⟩ = some (.int .i64 (Fk 1)) := fun w' hh => hh.cell (g1 1 (by omega))
      have Q1 : ∀ w', Blw wr w' → w'.cell? ⟨b2, o2 + k * 4 + 1, none⟩ = some (.int .i64 (Fk 1)) := fun w' hh => hh.cell (g2 1 (by omega))
      have P2 : ∀ w', Blw wr w' → w'.cell? ⟨b1, o1 + k * 4 + 2, none⟩ = some (.int .i64 (Fk 2)) := fun w' hh => hh.cell (g1 2 (by omega))
      have Q2 : ∀ w', Blw wr w' → w'.cell? ⟨b2, o2 + k * 4 + 2, none⟩ = some (.int .i64 (Fk 2)) := fun w' hh => hh.cell (g2 2 (by omega))
      have P3 : ∀ w', Blw wr w' → w'.cell? ⟨b1, o1 + k * 4 + 3, none⟩ = some (.int .i64 (Fk 3)) := fun w' hh => hh.cell (g1 3 (by omega))
      have Q3 : ∀ w', Blw wr w' → w'.cell? ⟨b2, o2 + k * 4 + 3, none⟩ = some (.int .i64 (Fk 3)) := fun w' hh => hh.cell (g2 3 (by omega))
      have HB : Hid (Blw w wr) := hb
      clear g1 g2 H1 H2 hb hFk
      go_wp2_with fail
      go_region_held3 (fun w' => Blw wr w') ((first | exact (Blw.refl _).drew | assumption | exact Blw.trans (by assumption) (by assumption))) (first
        | (go_at_call 90; refine (eqWs1_same (Fk 0) (Fk 1) (Fk 2) (Fk 3) _).mono ?_; rintro e w7 ⟨rfl, hb7⟩))
      all_goals go_wp2
      all_goals go_roundw
      all_goals first | exact ⟨k + 1, by omega, by go_num, HB.out.trans (by assumption)⟩ | (simp [intOf]; omega)
    · obtain rfl : k = n := by omega
      go_wp2
      go_ret
      exact ⟨rfl, hb⟩
set_option maxHeartbeats 3200000 in
theorem markWs_any (ao : Option Addr) (c n : Nat) (F : Nat → Nat → Int) (X : Nat → Prop) (k : Int) (w : World) (h1 : 0 ≤ k) (h2 : k + 4 * n ≤ 9223372036854775807) (h : KOwn 4 X w ao n F) :
    Calls Try.prog 46 #[.slice ao n c, .int .i64 k] w fun e w' => e = .returned (.int .i64 (k + 4 * n)) ∧ KOwn 4 X w' ao n (mkK 4 k) ∧ Mod X w w' := by
  have H : Hid (KOwn 4 X w ao n F) := h
  have hn := h.1
  clear h
  go_enter Try.func46, Try.ntmps46
  go_wp2_with fail
  go_loopw [1, 5] (fun kv iv wr => ∃ i : Nat, i ≤ n ∧ iv = .int .i64 i ∧ kv = .int .i64 (k + 4 * i) ∧ KOwn 4 X wr ao n (upK (mkK 4 k) F i) ∧ Mod X w wr) (fun _ i _ => n - (intOf i).toNat)
  case atStart => exact ⟨0, Nat.zero_le _, rfl, by simp, by rw [upK_zero]; exact H.out, Mod.refl _ _⟩
  case round =>
    obtain ⟨i, hi, rfl, rfl, S, hm⟩ := hrel
    clear H
    by_cases hlt : i < n
    · have hlt' : (i : Int) < n := by omega
      obtain ⟨b, hx, rfl, r⟩ := S.2 (by omega)
      have p0 := k_get r hlt (c := 0) (by omega)
      have f0 := r.frozen (i * 4)
      have p1 := k_get r hlt (c := 1) (by omega)
      have f1 := r.frozen (i * 4 + 1)
      have p2 := k_get r hlt (c := 2) (by omega)
      have f2 := r.frozen (i * 4 + 2)
      have p3 := k_get r hlt (c := 3) (by omega)
      have f3 := r.frozen (i * 4 + 3)
      rw [Nat.add_zero] at p0
      have HR : Hid (Row ((((wr.setCell ⟨b, i * 4, none⟩ (.int .i64 (k + 4 * i))).setCell ⟨b, i * 4 + 1, none⟩ (.int .i64 (k + 4 * i + 1))).setCell ⟨b, i * 4 + 2, none⟩ (.int .i64 (k + 4 * i + 1 + 1))).setCell ⟨b, i * 4 + 3, none⟩ (.int .i64 (k + 4 * i + 1 + 1 + 1))) b (n * 4) (kc 4 (upK (mkK 4 k) F (i + 1)))) := by
        have hq := (setK (setK (setK (setK r i (c := 0) (by omega) (k + 4 * i)) i (c := 1) (by omega) (k + 4 * i + 1)) i (c := 2) (by omega) (k + 4 * i + 1 + 1)) i (c := 3) (by omega) (k + 4 * i + 1 + 1 + 1))
        rw [Nat.add_zero] at hq
        refine hq.congr (fun t ht => ?_)
        have ht2 : t % 4 < 4 := Nat.mod_lt _ (by omega)
        unfold kc updF upK mkK
        by_cases e : t / 4 = i
        · simp only [e, true_and, Nat.lt_succ_self, if_true]
          rcases (show t % 4 = 0 ∨ t % 4 = 1 ∨ t % 4 = 2 ∨ t % 4 = 3 by omega) with e2 | e2 | e2 | e2 <;> simp [e2] <;> omega
        · have e3 : (t / 4 < i + 1) = (t / 4 < i) := by simp; omega
          simp [e, e3]
      have HM : Hid (Mod X w ((((wr.setCell ⟨b, i * 4, none⟩ (.int .i64 (k + 4 * i))).setCell ⟨b, i * 4 + 1, none⟩ (.int .i64 (k + 4 * i + 1))).setCell ⟨b, i * 4 + 2, none⟩ (.int .i64 (k + 4 * i + 1 + 1))).setCell ⟨b, i * 4 + 3, none⟩ (.int .i64 (k + 4 * i + 1 + 1 + 1)))) := ((((hm.trans (Mod.setCell _ (p := ⟨b, i * 4, none⟩) hx _)).trans (Mod.setCell _ (p := ⟨b, i * 4 + 1, none⟩) hx _)).trans (Mod.setCell _ (p := ⟨b, i * 4 + 2, none⟩) hx _)).trans (Mod.setCell _ (p := ⟨b, i * 4 + 3, none⟩) hx _))
      clear S hm r
      have ee : k + 4 * (i : Int) + 1 + 1 + 1 + 1 = k + 4 * ((i + 1 : Nat) : Int) := by omega
      go_wp2
      go_roundw
      case rel => exact ⟨i + 1, by omega, by go_num, by congr 1 <;> omega, ⟨hn, fun _ => ⟨b, hx, rfl, HR.out⟩⟩, HM.out⟩
      case measure => simp [intOf]; omega
    · obtain rfl : i = n := by omega
      go_wp2
      go_ret
      exact ⟨rfl, upK_all (by omega) S, hm⟩
end Go.Proofs.Ytcfdagmcnaepgaa
/- Lists of steps by value. -/
namespace Go.Proofs.Ytcfdagmcnaepgaa
open Go.ChangeShapes Go.WideShapes Go.ChangeAt Go.RowKit Go.Joins Go.Deep
set_option linter.unusedVariables false
set_option linter.unusedSimpArgs false
section
variable {H : Type} {enc : TypeId × Value → H} {w : World} {base : Nat} {spare : Nat → Bool} {held : Bool}
theorem cells74 : Try.prog.cellsOf 107 = 4 := by kernel_rfl
set_option maxRecDepth 10000 in
theorem open_stepsAt {fuel : Nat} {v : Value} {x : DataW H × List MemPlace} (h : DataW.trod enc Try.prog w base spare held fuel 60 [v] = some x) :
    ∃ ao n c F, v = .slice ao n c ∧ KAt 4 (fun b => b < w.heap.size) w ao n F := by
  rcases open_slice Try.underlying60 h with ⟨hcs, _⟩ | ⟨a, len, cap, m, nn, D, Pl, hcs, hb, hl, hm, hmm, -, hx⟩
  · simp only [List.cons.injEq, and_true] at hcs
    exact ⟨none, 0, 0, fun _ _ => 0, hcs, by omega, fun i hi => absurd hi (Nat.not_lt_zero _)⟩
  · simp only [List.cons.injEq, and_true] at hcs
    have hml : len ≤ m := by rw [hmm]; split <;> omega
    unfold maxLen at hm
    have each : ∀ i, i < len → ∃ q : Int × Int × Int × Int, w.cell? (a.add (i * 4)) = some (.int .i64 q.1) ∧ w.cell? (a.add (i * 4 + 1)) = some (.int .i64 q.2.1) ∧ w.cell? (a.add (i * 4 + 2)) = some (.int .i64 q.2.2.1) ∧ w.cell? (a.add (i * 4 + 3)) = some (.int .i64 q.2.2.2) := fun i hi => by
      obtain ⟨cs', h1, h2⟩ := hx i (by omega)
      rw [cells74] at h1
      obtain ⟨_, hlen, hcell⟩ := World.cells?_some h1
      obtain ⟨xs, k, hk, hxy, _, hxl, hf⟩ := DataW.trod_struct Try.underlying107 h2
      match xs, hxl, cs', hlen with
      | [y0, y1, y2, y3], _, [v0, v1, v2, v3], _ =>
        have g0 := hf 0 _ rfl
        have g1 := hf 1 _ rfl
        have g2 := hf 2 _ rfl
        have g3 := hf 3 _ rfl
        simp [cells3] at g0 g1 g2 g3
        have e0 := hcell 0 (by omega)
        have e1 := hcell 1 (by omega)
        have e2 := hcell 2 (by omega)
        have e3 := hcell 3 (by omega)
        rw [add_add] at e0 e1 e2 e3
        obtain ⟨a0, q0, _⟩ := DataW.trod_int Try.underlying3 g0
        obtain ⟨a1, q1, _⟩ := DataW.trod_int Try.underlying3 g1
        obtain ⟨a2, q2, _⟩ := DataW.trod_int Try.underlying3 g2
        obtain ⟨a3, q3, _⟩ := DataW.trod_int Try.underlying3 g3
        simp only [List.cons.injEq, and_true] at q0 q1 q2 q3
        subst q0 q1 q2 q3
        exact ⟨(a0, a1, a2, a3), by simpa using e0, by simpa using e1, by simpa using e2, by simpa using e3⟩
    obtain ⟨T, hT⟩ := Go.Deep.choose_lt each
    refine ⟨some a, len, cap, fun i c => if c = 0 then (T i).1 else if c = 1 then (T i).2.1 else if c = 2 then (T i).2.2.1 else (T i).2.2.2, hcs, by omega, fun i hi => ?_⟩
    have ha := addr_of_cell (by simpa [Addr.add] using (hT 0 (by omega)).1)
    obtain ⟨c0, c1, c2, c3⟩ := hT i hi
    rw [ha, Addr.add_mid] at c0 c1 c2 c3
    refine ⟨a.block, a.off, by rw [← ha], World.block_lt_of_cell? w ⟨a.block, a.off + i * 4, none⟩ c0, fun c hc => ?_⟩
    match c, hc with
    | 0, _ => simpa using c0
    | 1, _ => simpa [Nat.add_assoc] using c1
    | 2, _ => simpa [Nat.add_assoc] using c2
    | 3, _ => simpa [Nat.add_assoc] using c3
end
end Go.Proofs.Ytcfdagmcnaepgaa
