/- Merged by program, in this order: Kf, Kd, Wf, Ks, ChgW, Ww, Wn, Steps, NewS. -/
import Derived.Test.YtbpdopcdhnemfaaJw6
/- The model: where a short way stands among the kept ones. -/
namespace Go.Proofs.Ytbpdopcdhnemfaa
open Go.RowKit
set_option linter.unusedSimpArgs false
set_option linter.unusedVariables false

set_option maxRecDepth 10000 in
set_option maxHeartbeats 3200000 in
theorem l7Find_any (v : KV) (D : KD) (a : Int) (Y : Nat → Prop) (w : World) (h : KAt 3 Y w v.a D.n D.F) :
    Calls Try.prog 107 #[v.val D, .int .i64 a] w fun e w' => ∃ r : Int, e = .returned (.int .i64 r) ∧ IsPos D.n (fun i => D.F i 0) a r ∧ Blw w w' := by
  have hn := h.1
  have hb0 : Blw w (w.alloc (.cells #[.slice v.b.a1 D.B.n v.b.c1, .slice v.b.a2 D.B.D.n v.b.c2, .slice v.a D.n v.q, .int .i64 D.h] 32)) := (Blw.refl _).alloc _
  have H : Hid (KAt 3 Y w v.a D.n D.F) := h
  have HB0 : Hid (Blw w (w.alloc (.cells #[.slice v.b.a1 D.B.n v.b.c1, .slice v.b.a2 D.B.D.n v.b.c2, .slice v.a D.n v.q, .int .i64 D.h] 32))) := hb0
  obtain ⟨-, -, c2, -⟩ := get4 (box4 w (.slice v.b.a1 D.B.n v.b.c1) (.slice v.b.a2 D.B.D.n v.b.c2) (.slice v.a D.n v.q) (.int .i64 D.h) 32)
  clear h hb0
  go_enter Try.func107, Try.ntmps107
  go_wp2_with fail
  clear c2
  go_loopw [10] (fun i wr => ∃ j : Nat, j ≤ D.n ∧ i = .int .i64 j ∧ (∀ t, t < j → D.F t 0 ≠ a) ∧ Blw w wr) (fun i _ => D.n - (intOf i).toNat)
  case atStart => exact ⟨0, Nat.zero_le _, rfl, fun t ht => absurd ht (Nat.not_lt_zero _), HB0.out⟩
  case round =>
    obtain ⟨j, hj, rfl, hok, hb⟩ := hrel
    have HO : Hid (∀ t, t < j → D.F t 0 ≠ a) := hok
    have HB : Hid (Blw w wr) := hb
    clear hok hb HB0
    by_cases hlt : j < D.n
    · obtain ⟨b, o, e, -, q⟩ := (H.out.blw HB.out).2 j hlt
      have q0 := q 0 (by omega)
      have q1 := q 1 (by omega)
      have q2 := q 2 (by omega)
      rw [Nat.add_zero] at q0
      have hlt' : (j : Int) < D.n := by omega
      rw [e]
      clear q
      have HB1 : Hid (Blw w (wr.alloc (.cells #[.int .i64 (D.F j 0), .int .i64 (D.F j 1), .int .i64 (D.F j 2)] 129))) := HB.out.alloc _
      obtain ⟨t0, t1, t2⟩ := get3s (box3s wr (.int .i64 (D.F j 0)) (.int .i64 (D.F j 1)) (.int .i64 (D.F j 2)) 129)
      by_cases hf : D.F j 0 = a
      · have HN : Hid (IsPos D.n (fun i => D.F i 0) a (j : Int)) := Or.inl ⟨j, hlt, rfl, hf, HO.out⟩
        have hq : (D.F j 0 == a) = true := by simp [hf]
        clear HO hf HB
        go_wp2
        exact bodyPost_ret (v := .int .i64 (j : Int)) (by simp [results, Try.results107, go_sem]) rfl ⟨_, rfl, HN.out, HB1.out⟩
      · have HN : Hid (∀ t, t < j + 1 → D.F t 0 ≠ a) := fun t ht => by
          by_cases e : t = j
          · subst e; exact hf
          · exact HO.out t (by omega)
        have hq : (D.F j 0 == a) = false := by simp [hf]
        clear HO hf HB
        go_wp2
        go_roundw
        case rel => exact ⟨j + 1, by omega, by go_num, HN.out, HB1.out⟩
        case measure => simp [intOf]; omega
    · have hj2 : j = D.n := by omega
      have hlt' : ¬ ((j : Int) < D.n) := by omega
      have HN : Hid (IsPos D.n (fun i => D.F i 0) a (-1 : Int)) := Or.inr ⟨rfl, fun t ht => HO.out t (by omega)⟩
      clear HO
      go_wp2
      exact bodyPost_ret (v := .int .i64 (-1)) (by simp [results, Try.results107, go_sem]) rfl ⟨_, rfl, HN.out, HB.out⟩
end Go.Proofs.Ytbpdopcdhnemfaa
/- The model: short ways without that of a place. -/
namespace Go.Proofs.Ytbpdopcdhnemfaa
open Go.RowKit
set_option linter.unusedSimpArgs false
set_option linter.unusedVariables false

/-- How many of the first j are left without the k-th. -/
def cntK (k j : Nat) : Nat := if j ≤ k then j else j - 1
theorem drop_append {X : Nat → Prop} {w wr : World} {v : Value} {k j : Nat} {F : Nat → Nat → Int} (hX : ∀ b, X b → w.heap.size ≤ b) (hb : Blw w wr) (h : Buf 129 3 X wr v (cntK k j) (kc 3 (dropK k F))) (hj : j ≤ 1000) (hk : j ≠ k) :
    ∃ a' c' w', (Builtin.append_ #[30, 30] 30 #[v, .slice (some ⟨wr.heap.size + 1, 0, none⟩) 1 1]).run Try.prog ((wr.alloc (.cells #[.int .i64 (F j 0), .int .i64 (F j 1), .int .i64 (F j 2)] 129)).alloc (.cells #[.int .i64 (F j 0), .int .i64 (F j 1), .int .i64 (F j 2)] 129)) = .ok (.slice a' (cntK k j + 1) c') w' ∧ Blw w w' ∧ Buf 129 3 (fun b => w.heap.size ≤ b ∧ b < w'.heap.size) w' (.slice a' (cntK k j + 1) c') (cntK k (j + 1)) (kc 3 (dropK k F)) := by
  obtain ⟨i0, hi, hz0, hz1, hz2⟩ := info_parts infoSh
  have hA : Blw wr ((wr.alloc (.cells #[.int .i64 (F j 0), .int .i64 (F j 1), .int .i64 (F j 2)] 129)).alloc (.cells #[.int .i64 (F j 0), .int .i64 (F j 1), .int .i64 (F j 2)] 129)) := ((Blw.refl _).alloc _).alloc _
  have hc : cntK k j ≤ 1000 := by unfold cntK; split <;> omega
  have hc1 : cntK k (j + 1) = cntK k j + 1 := by unfold cntK; split <;> split <;> omega
  have r3 := box3s (wr.alloc (.cells #[.int .i64 (F j 0), .int .i64 (F j 1), .int .i64 (F j 2)] 129)) (.int .i64 (F j 0)) (.int .i64 (F j 1)) (.int .i64 (F j 2)) 129
  rw [World.size_alloc] at r3
  obtain ⟨a', c', w', hrun, hB, hM⟩ := Buf.append (t := 30) Try.underlying30 hi hz0 hz1 hz2 (by rfl) (by omega) (h.blw hA) (ao := some ⟨wr.heap.size + 1, 0, none⟩) (m := 1) 1 (G := kc 3 (fun _ c => F j c)) (fun e => by cases e) (fun ad e q hq => by
    cases e
    rw [Addr.add_lit, Nat.zero_add]
    rw [r3.cell (i := q) (by omega)]
    match q, hq with
    | 0, _ => rfl
    | 1, _ => rfl
    | 2, _ => rfl) (fun j => rfl) (by omega) (by omega) 30
  have hB2 := hB.congr (G := kc 3 (dropK k F)) (fun i hi => by
    rw [cat_kc 3 _ (by omega)]
    unfold kc catK
    by_cases hlt : i / 3 < cntK k j
    · rw [if_pos hlt]
    · rw [if_neg hlt]
      have e : i / 3 = cntK k j := by omega
      rw [e]
      show Value.int .i64 (F j (i % 3)) = .int .i64 (dropK k F (cntK k j) (i % 3))
      unfold dropK cntK
      by_cases q : j ≤ k
      · rw [if_pos q, if_pos (by omega)]
      · rw [if_neg q, if_neg (by omega), show j - 1 + 1 = j by omega])
  have hs := hb.size
  refine ⟨a', c', w', hrun, Mod.blw (hb.trans hA) hM (fun b e => hX b (h.2 b e)), ?_⟩
  rw [hc1]
  refine hB2.mono (fun b hx => ⟨?_, hx.2⟩)
  rcases hx.1 with q | q
  · exact hX b q
  · rw [World.size_alloc, World.size_alloc] at q; omega
set_option maxRecDepth 10000 in
set_option maxHeartbeats 3200000 in
theorem l7Drop_any (ao : Option Addr) (n c k : Nat) (F : Nat → Nat → Int) (a : Int) (Y : Nat → Prop) (w : World) (hn : n ≤ 1000) (hu : ∀ t, t < n → (F t 0 = a ↔ t = k)) (h : KAt 3 Y w ao n F) :
    Calls Try.prog 151 #[.slice ao n c, .int .i64 a] w fun e w' => ∃ v, e = .returned v ∧ Buf 129 3 (fun b => w.heap.size ≤ b ∧ b < w'.heap.size) w' v (cntK k n) (kc 3 (dropK k F)) ∧ Blw w w' := by
  have H : Hid (KAt 3 Y w ao n F) := h
  have HU : Hid (∀ t, t < n → (F t 0 = a ↔ t = k)) := hu
  clear h hu
  go_enter Try.func151, Try.ntmps151
  go_wp2_with fail
  go_loopw [5, 10] (fun vo i wr => ∃ (j : Nat) (oa : Option Addr) (cp : Nat), j ≤ n ∧ i = .int .i64 j ∧ vo = .slice oa (cntK k j) cp ∧ Buf 129 3 (fun b => w.heap.size ≤ b ∧ b < wr.heap.size) wr (.slice oa (cntK k j) cp) (cntK k j) (kc 3 (dropK k F)) ∧ Blw w wr) (fun _ i _ => n - (intOf i).toNat)
  case atStart => exact ⟨0, none, 0, Nat.zero_le _, rfl, by simp [cntK], by simpa [cntK] using Buf.nil 129 3 _ w _, Blw.refl _⟩
  case round =>
    obtain ⟨j, oa, cp, hj, rfl, rfl, hbf, hb⟩ := hrel
    have HF : Hid (Buf 129 3 (fun b => w.heap.size ≤ b ∧ b < wr.heap.size) wr (.slice oa (cntK k j) cp) (cntK k j) (kc 3 (dropK k F))) := hbf
    have HB : Hid (Blw w wr) := hb
    clear hbf hb
    by_cases hlt : j < n
    · obtain ⟨b, o, e, -, q⟩ := (H.out.blw HB.out).2 j hlt
      have q0 := q 0 (by omega)
      have q1 := q 1 (by omega)
      have q2 := q 2 (by omega)
      rw [Nat.add_zero] at q0
      have hlt' : (j : Int) < n := by omega
      subst e
      clear q
      obtain ⟨t0, t1, t2⟩ := get3s (box3s wr (.int .i64 (F j 0)) (.int .i64 (F j 1)) (.int .i64 (F j 2)) 129)
      have hbA : Blw wr (wr.alloc (.cells #[.int .i64 (F j 0), .int .i64 (F j 1), .int .i64 (F j 2)] 129)) := (Blw.refl _).alloc _
      by_cases hf : F j 0 = a
      · have ek : j = k := (HU.out j hlt).1 hf
        have hq : (F j 0 != a) = false := by simp [hf]
        have hc : cntK k (j + 1) = cntK k j := by unfold cntK; rw [if_neg (by omega), if_pos (by omega)]; rfl
        have HN : Hid (Buf 129 3 (fun b => w.heap.size ≤ b ∧ b < (wr.alloc (.cells #[.int .i64 (F j 0), .int .i64 (F j 1), .int .i64 (F j 2)] 129)).heap.size) (wr.alloc (.cells #[.int .i64 (F j 0), .int .i64 (F j 1), .int .i64 (F j 2)] 129)) (.slice oa (cntK k (j + 1)) cp) (cntK k (j + 1)) (kc 3 (dropK k F))) := by
          rw [hc]
          exact (HF.out.blw hbA).mono (fun b hx => ⟨hx.1, Nat.lt_of_lt_of_le hx.2 hbA.size⟩)
        have HB1 : Hid (Blw w (wr.alloc (.cells #[.int .i64 (F j 0), .int .i64 (F j 1), .int .i64 (F j 2)] 129))) := HB.out.trans hbA
        have HC : Hid (cntK k (j + 1) = cntK k j) := hc
        clear HF HB hf ek hc hbA
        go_wp2
        go_roundw
        case rel => exact ⟨j + 1, oa, cp, by omega, by go_num, by rw [HC.out], HN.out, HB1.out⟩
        case measure => simp [intOf]; omega
      · have ek : j ≠ k := fun q => hf ((HU.out j hlt).2 q)
        have hq : (F j 0 != a) = true := by simp [hf]
        obtain ⟨a', c', w6, hrun, hb6, hB6⟩ := drop_append (w := w) (F := F) (fun b hx => hx.1) HB.out HF.out (by omega) ek
        have hcc : cntK k (j + 1) = cntK k j + 1 := by unfold cntK; split <;> split <;> omega
        have HRN : Hid _ := hrun
        have HN : Hid (Buf 129 3 (fun b => w.heap.size ≤ b ∧ b < w6.heap.size) w6 (.slice a' (cntK k (j + 1)) c') (cntK k (j + 1)) (kc 3 (dropK k F))) := by rw [← hcc] at hB6; exact hB6
        have HC : Hid (cntK k (j + 1) = cntK k j + 1) := hcc
        have HB6 : Hid (Blw w w6) := hb6
        clear HF HB hf ek hbA hrun hb6 hB6 hcc
        go_wp2_with (first | (at_builtin; refine wpList_app (.tmp 18) (.tmp 20) 30 (by rfl) ?_; refine ⟨_, _, HRN.out, ?_⟩) | fail)
        go_roundw
        case rel => exact ⟨j + 1, a', c', by omega, by go_num, by rw [HC.out], HN.out, HB6.out⟩
        case measure => simp [intOf]; omega
    · obtain rfl : j = n := by omega
      go_wp2
      exact bodyPost_ret (v := (.slice oa (cntK k j) cp)) (by simp [results, Try.results151, go_sem]) rfl ⟨_, rfl, HF.out, HB.out⟩
end Go.Proofs.Ytbpdopcdhnemfaa
/- What a walker's steps leave, and what stands of a played walker (no walk). -/
namespace Go.Proofs.Ytbpdopcdhnemfaa
open Go.RowKit
set_option linter.unusedSimpArgs false
set_option linter.unusedVariables false

theorem pg_nat' {a : Int} (h : pgOK a) : ∃ x : Nat, a = x ∧ x < 16 := ⟨a.toNat, by unfold pgOK at h; omega, by unfold pgOK at h; omega⟩
/-- Where in the kept ways the one At a is; their number where there is none. -/
def AtK (D : KD) (a : Int) (k : Nat) : Prop := k ≤ D.n ∧ ∀ t, t < D.n → (D.F t 0 = a ↔ t = k)
theorem AtK.same {D : KD} {a : Int} {k k' : Nat} (h : AtK D a k) (h' : AtK D a k') : k = k' := by
  by_cases e : k < D.n
  · exact (h'.2 k e).1 ((h.2 k e).2 rfl)
  · by_cases e' : k' < D.n
    · exact ((h.2 k' e').1 ((h'.2 k' e').2 rfl)).symm
    · have := h.1; have := h'.1; omega
/-- What stands of a walker that was played. -/
structure WG (D : KD) : Prop where
  g : D.B.Good
  f : ∃ c kn p m, D.B = ⟨4, c, ⟨kn, fun _ => 4, p, m⟩⟩
  n4 : D.n ≤ 4
  sh : ∀ j, j < D.n → ∃ a : Nat, a < 16 ∧ D.F j 0 = a ∧ D.F j 1 = lfP D.B.c D.B.D.p a ∧ D.F j 2 = lfP D.B.c D.B.D.m a ∧ ¬ D.F j 2 = 0
  ds : ∀ i j, i < D.n → j < D.n → D.F i 0 = D.F j 0 → i = j
  h0 : 0 ≤ D.h ∧ D.h ≤ 1000
theorem WG.pos {D : KD} (h : WG D) (a : Int) : ∃ k, AtK D a k := by
  by_cases e : ∃ k, k < D.n ∧ D.F k 0 = a
  · obtain ⟨k, hk, e⟩ := e
    exact ⟨k, by omega, fun t ht => ⟨fun q => h.ds t k ht hk (q.trans e.symm), fun q => by rw [q]; exact e⟩⟩
  · exact ⟨D.n, Nat.le_refl _, fun t ht => ⟨fun q => absurd ⟨t, ht, q⟩ e, fun q => by omega⟩⟩
/-- The walker behind a look-up. -/
def wlkR (D : KD) (a : Int) (k : Nat) : KD :=
  if lfP D.B.c D.B.D.m a.toNat = 0 then D
  else ⟨D.B, min (1 + cntK k D.n) 4, consK a (lfP D.B.c D.B.D.p a.toNat) (lfP D.B.c D.B.D.m a.toNat) (dropK k D.F), if k < D.n then min (D.h + 1) 1000 else D.h⟩
def WLK (D : KD) (a y : Int) (R : KD) (v : Int) : Prop :=
  ∃ k, AtK D a k ∧ R = wlkR D a k ∧ ((hasMay (lfP D.B.c D.B.D.m a.toNat) y ∧ v = 1 + lfP D.B.c D.B.D.p a.toNat) ∨ (¬ hasMay (lfP D.B.c D.B.D.m a.toNat) y ∧ v = 0))
theorem WLK.same {D R R' : KD} {a y v v' : Int} (h : WLK D a y R v) (h' : WLK D a y R' v') : R = R' ∧ v = v' := by
  obtain ⟨k, h1, rfl, h2⟩ := h
  obtain ⟨k', h1', rfl, h2'⟩ := h'
  rw [h1.same h1']
  refine ⟨rfl, ?_⟩
  rcases h2 with ⟨q, e⟩ | ⟨q, e⟩ <;> rcases h2' with ⟨q', e'⟩ | ⟨q', e'⟩
  · rw [e, e']
  · exact absurd q q'
  · exact absurd q' q
  · rw [e, e']
/-- The walker behind a right step. -/
def WSO (D : KD) (k a g y : Int) (R : KD) (v : Int) : Prop :=
  (k = 1 ∧ WLK D a y R v) ∨ (¬ k = 1 ∧ ∃ RB r, ctO D.B k a g y RB r ∧ ((r = true ∧ v = 1 ∧ ∃ q, AtK D a q ∧ R = ⟨RB, cntK q D.n, dropK q D.F, D.h⟩) ∨ (r = false ∧ v = 0 ∧ R = D)))
def WSF (D : KD) (k a g y : Int) (R : KD) (v : Int) : Prop := (¬ rightS k a g y ∧ R = D ∧ v = -1) ∨ (rightS k a g y ∧ WSO D k a g y R v)
theorem WSO_same {D R R' : KD} {k a g y v v' : Int} (hr : rightS k a g y) (h : WSO D k a g y R v) (h' : WSO D k a g y R' v') : R = R' ∧ v = v' := by
  rcases h with ⟨k1, h⟩ | ⟨k1, RB, r, hc, h⟩ <;> rcases h' with ⟨k1', h'⟩ | ⟨k1', RB', r', hc', h'⟩
  · exact h.same h'
  · exact absurd k1 k1'
  · exact absurd k1' k1
  · obtain ⟨e1, e2⟩ := ctO_same (right_k hr k1) hc hc'
    subst e1 e2
    rcases h with ⟨q, rfl, p, hp, rfl⟩ | ⟨q, rfl, rfl⟩ <;> rcases h' with ⟨q', rfl, p', hp', rfl⟩ | ⟨q', rfl, rfl⟩
    · rw [hp.same hp']; exact ⟨rfl, rfl⟩
    · rw [q] at q'; cases q'
    · rw [q] at q'; cases q'
    · exact ⟨rfl, rfl⟩
theorem WSF_same {D R R' : KD} {k a g y v v' : Int} (h : WSF D k a g y R v) (h' : WSF D k a g y R' v') : R = R' ∧ v = v' := by
  rcases h with ⟨n, rfl, rfl⟩ | ⟨n, h⟩ <;> rcases h' with ⟨n', rfl, rfl⟩ | ⟨n', h'⟩
  · exact ⟨rfl, rfl⟩
  · exact absurd n' n
  · exact absurd n n'
  · exact WSO_same n h h'
/-- The place in the whole list of what stands at j behind the drop of k. -/
def uqK (k j : Nat) : Nat := if j < k then j else j + 1
theorem dropK_up (k : Nat) (F : Nat → Nat → Int) (j c : Nat) : dropK k F j c = F (uqK k j) c := by
  unfold dropK uqK; by_cases e : j < k <;> simp [e]
theorem uqK_ok {n k j : Nat} (hk : k ≤ n) (hj : j < cntK k n) : uqK k j < n ∧ uqK k j ≠ k := by
  unfold cntK at hj; unfold uqK
  by_cases e : j < k
  · rw [if_pos e]; split at hj <;> omega
  · rw [if_neg e]; split at hj <;> omega
theorem uqK_inj {k i j : Nat} (h : uqK k i = uqK k j) : i = j := by
  unfold uqK at h; split at h <;> split at h <;> omega
theorem consK_0 (x0 x1 x2 : Int) (F : Nat → Nat → Int) : consK x0 x1 x2 F 0 0 = x0 ∧ consK x0 x1 x2 F 0 1 = x1 ∧ consK x0 x1 x2 F 0 2 = x2 := ⟨rfl, rfl, rfl⟩
theorem consK_s (x0 x1 x2 : Int) (F : Nat → Nat → Int) (i c : Nat) : consK x0 x1 x2 F (i + 1) c = F i c := by
  unfold consK catK; rw [if_neg (by omega)]; rfl
theorem like_chOut {B R : BD} {a y : Int} {P : Int → Int → Prop} {G : Int → Int} (h : chOut B a P G y R true) (hl : ∀ p m, leafOK p m → P p m → leafOK (G p) y) : R.Good ∧ Like B R a ∧ ∃ c p m, R = ⟨4, c, ⟨B.D.n, fun _ => 4, p, m⟩⟩ := by
  rcases h with ⟨ok, ⟨q, hq, rfl⟩, -⟩ | ⟨-, -, e⟩
  case inr => cases e
  obtain ⟨hB, ha, hP, -⟩ := ok
  obtain ⟨x, rfl, hx⟩ := pg_nat' ha
  rw [Int.toNat_natCast] at *
  have hl2 := hl _ _ (lf_ok hB hx) hP
  exact ⟨ch_good hB hx hq hl2, like_ch hB hx hq hl2, _, _, _, rfl⟩
theorem like_ct {B R : BD} {k a g y : Int} (hk : k = 2 ∨ k = 3 ∨ k = 4) (h : ctO B k a g y R true) : R.Good ∧ Like B R a ∧ ∃ c p m, R = ⟨4, c, ⟨B.D.n, fun _ => 4, p, m⟩⟩ := by
  obtain ⟨R0, h1, ⟨-, e⟩ | ⟨e, -⟩⟩ := h
  case inr => cases e
  subst e
  rcases hk with e | e | e
  · exact like_chOut (h1.1 e) (fun p m _ q => by obtain ⟨-, hg, hy⟩ := q; unfold pgOK at hg; unfold mayOK at hy; unfold leafOK; omega)
  · exact like_chOut (h1.2.1 e) (fun p m _ _ => by unfold leafOK; omega)
  · exact like_chOut (h1.2.2 e) (fun p m hl q => by obtain ⟨hm, hy⟩ := q; unfold mayOK at hy; unfold leafOK at *; omega)
theorem WG.known {D : KD} (h : WG D) {a : Int} {k : Nat} (hk : AtK D a k) (hl : k < D.n) : D.F k 0 = a ∧ D.F k 1 = lfP D.B.c D.B.D.p a.toNat ∧ D.F k 2 = lfP D.B.c D.B.D.m a.toNat ∧ ¬ lfP D.B.c D.B.D.m a.toNat = 0 := by
  obtain ⟨x, hx, e0, e1, e2, e3⟩ := h.sh k hl
  have ea : D.F k 0 = a := (hk.2 k hl).2 rfl
  have ex : a.toNat = x := by rw [← ea, e0]; rfl
  rw [ex]
  exact ⟨ea, e1, e2, by rw [← e2]; exact e3⟩
theorem WG.walk {D R : KD} (h : WG D) {a y v : Int} (ha : pgOK a) (hw : WLK D a y R v) : WG R := by
  obtain ⟨k, hk, rfl, -⟩ := hw
  obtain ⟨x, rfl, hx⟩ := pg_nat' ha
  unfold wlkR
  rw [Int.toNat_natCast]
  by_cases hm : lfP D.B.c D.B.D.m x = 0
  · rw [if_pos hm]; exact h
  rw [if_neg hm]
  refine ⟨h.g, h.f, by show min _ 4 ≤ 4; omega, fun j hj => ?_, fun i j hi hj e => ?_, ?_⟩
  · replace hj : j < min (1 + cntK k D.n) 4 := hj
    match j, hj with
    | 0, _ => exact ⟨x, hx, rfl, rfl, rfl, hm⟩
    | j + 1, hj =>
      obtain ⟨h1, -⟩ := uqK_ok (n := D.n) (j := j) hk.1 (by omega)
      obtain ⟨z, hz, e0, e1, e2, e3⟩ := h.sh _ h1
      simp only [consK_s, dropK_up]
      exact ⟨z, hz, e0, e1, e2, e3⟩
  · replace hi : i < min (1 + cntK k D.n) 4 := hi
    replace hj : j < min (1 + cntK k D.n) 4 := hj
    match i, j, hi, hj with
    | 0, 0, _, _ => rfl
    | 0, j + 1, _, hj =>
      obtain ⟨h1, h2⟩ := uqK_ok (n := D.n) (j := j) hk.1 (by omega)
      simp only [consK_s, dropK_up, consK_0] at e
      exact absurd ((hk.2 _ h1).1 e.symm) h2
    | i + 1, 0, hi, _ =>
      obtain ⟨h1, h2⟩ := uqK_ok (n := D.n) (j := i) hk.1 (by omega)
      simp only [consK_s, dropK_up, consK_0] at e
      exact absurd ((hk.2 _ h1).1 e) h2
    | i + 1, j + 1, hi, hj =>
      obtain ⟨h1, -⟩ := uqK_ok (n := D.n) (j := i) hk.1 (by omega)
      obtain ⟨h2, -⟩ := uqK_ok (n := D.n) (j := j) hk.1 (by omega)
      simp only [consK_s, dropK_up] at e
      rw [uqK_inj (h.ds _ _ h1 h2 e)]
  · have := h.h0
    show 0 ≤ (if k < D.n then min (D.h + 1) 1000 else D.h) ∧ (if k < D.n then min (D.h + 1) 1000 else D.h) ≤ 1000
    split <;> omega
theorem WG.change {D : KD} {RB : BD} (h : WG D) {k a g y : Int} {q : Nat} (hk : k = 2 ∨ k = 3 ∨ k = 4) (hc : ctO D.B k a g y RB true) (hq : AtK D a q) : WG ⟨RB, cntK q D.n, dropK q D.F, D.h⟩ := by
  obtain ⟨g1, hL, c, p, m, hf⟩ := like_ct hk hc
  have hn := h.n4
  refine ⟨g1, ⟨c, _, p, m, hf⟩, by show cntK q D.n ≤ 4; unfold cntK; split <;> omega, fun j hj => ?_, fun i j hi hj e => ?_, h.h0⟩
  · obtain ⟨h1, h2⟩ := uqK_ok (n := D.n) (j := j) hq.1 hj
    obtain ⟨z, hz, e0, e1, e2, e3⟩ := h.sh _ h1
    have hne : ¬ (z : Int) = a := fun e => h2 ((hq.2 _ h1).1 (e0.trans e))
    obtain ⟨l1, l2⟩ := hL.2.2 z hz hne
    simp only [dropK_up]
    exact ⟨z, hz, e0, e1.trans l1, e2.trans l2, e3⟩
  · obtain ⟨h1, -⟩ := uqK_ok (n := D.n) (j := i) hq.1 hi
    obtain ⟨h2, -⟩ := uqK_ok (n := D.n) (j := j) hq.1 hj
    simp only [dropK_up] at e
    exact uqK_inj (h.ds _ _ h1 h2 e)
theorem WG.step {D R : KD} (h : WG D) {k a g y v : Int} (hs : WSF D k a g y R v) : WG R := by
  rcases hs with ⟨-, rfl, -⟩ | ⟨hr, ⟨-, hw⟩ | ⟨k1, RB, r, hc, ⟨rfl, -, q, hq, rfl⟩ | ⟨-, -, rfl⟩⟩⟩
  · exact h
  · exact h.walk hr.1 hw
  · exact h.change (right_k hr k1) hc hq
  · exact h
/-- The walker of a new table. -/
abbrev newK (k : Int) : KD := ⟨newB k, 0, fun _ _ => 0, 0⟩
theorem newK_good {k : Int} (h : cntOK k) : WG (newK k) := by
  unfold cntOK at h
  refine ⟨⟨rfl, by show 1 ≤ k.toNat ∧ k.toNat ≤ 4; omega, fun i hi => ⟨rfl, fun j hj => by show leafOK 0 0; unfold leafOK; omega⟩, fun i hi => by show (-1 : Int) ≤ -1 ∧ (-1 : Int) ≤ (k.toNat : Int) - 1; omega, fun i j hi hj h0 => by replace h0 : (0 : Int) ≤ -1 := h0; omega, fun k hk _ j hj => by show ¬ (0 : Int) < 0; omega⟩, ⟨_, _, _, _, rfl⟩, by show 0 ≤ 4; omega, fun j hj => absurd hj (Nat.not_lt_zero _), fun i j hi => absurd hi (Nat.not_lt_zero _), by show (0 : Int) ≤ 0 ∧ (0 : Int) ≤ 1000; omega⟩
/-- Walkers Ds and answers A of the first j steps F, from D on. -/
def WPlays (D : KD) (F : Nat → Nat → Int) (j : Nat) (Ds : Nat → KD) (A : Nat → Int) : Prop :=
  Ds 0 = D ∧ ∀ i, i < j → WSF (Ds i) (F i 0) (F i 1) (F i 2) (F i 3) (Ds (i + 1)) (A i)
theorem WPlays.next {D R : KD} {F : Nat → Nat → Int} {j : Nat} {Ds : Nat → KD} {A : Nat → Int} {v : Int} (h : WPlays D F j Ds A) (h1 : WSF (Ds j) (F j 0) (F j 1) (F j 2) (F j 3) R v) : WPlays D F (j + 1) (fun i => if i = j + 1 then R else Ds i) (fun i => if i = j then v else A i) := by
  refine ⟨by show (if 0 = j + 1 then R else Ds 0) = D; rw [if_neg (by omega)]; exact h.1, fun i hi => ?_⟩
  have e0 : ¬ i = j + 1 := by omega
  by_cases e : i = j
  · subst e
    simp only [if_neg e0, if_pos]
    exact h1
  · have e1 : ¬ i + 1 = j + 1 := by omega
    simp only [if_neg e0, if_neg e, if_neg e1]
    exact h.2 i (by omega)
theorem WPlays.same {D : KD} {F : Nat → Nat → Int} {Ds Ds' : Nat → KD} {A A' : Nat → Int} {j : Nat} (h : WPlays D F j Ds A) (h' : WPlays D F j Ds' A') : (∀ i, i ≤ j → Ds i = Ds' i) ∧ ∀ i, i < j → A i = A' i := by
  have key : ∀ i, i ≤ j → Ds i = Ds' i ∧ (∀ t, t < i → A t = A' t) := by
    intro i
    induction i with
    | zero => intro _; exact ⟨h.1.trans h'.1.symm, fun t ht => absurd ht (Nat.not_lt_zero _)⟩
    | succ i ih =>
      intro hi
      obtain ⟨e1, e2⟩ := ih (by omega)
      have p1 := h.2 i (by omega)
      have p2 := h'.2 i (by omega)
      rw [← e1] at p2
      obtain ⟨e3, e4⟩ := WSF_same p1 p2
      refine ⟨e3, fun t ht => ?_⟩
      by_cases e : t = i
      · subst e; exact e4
      · exact e2 t (by omega)
  exact ⟨fun i hi => (key i hi).1, fun i hi => (key j (Nat.le_refl _)).2 i hi⟩
theorem WPlays.good {D : KD} {F : Nat → Nat → Int} {Ds : Nat → KD} {A : Nat → Int} {j : Nat} (h : WPlays D F j Ds A) (hD : WG D) : ∀ i, i ≤ j → WG (Ds i) := by
  intro i
  induction i with
  | zero => intro _; rw [h.1]; exact hD
  | succ i ih => intro hi; exact (ih (by omega)).step (h.2 i (by omega))
end Go.Proofs.Ytbpdopcdhnemfaa
/- The short way to a place, as the table has it: the program. -/
namespace Go.Proofs.Ytbpdopcdhnemfaa
open Go.RowKit
set_option linter.unusedSimpArgs false
set_option linter.unusedVariables false

set_option maxRecDepth 10000 in
set_option maxHeartbeats 3200000 in
theorem shortTo_any (c : Nat → Int) (zl kn : Nat) (p m : Nat → Nat → Int) (a : Nat) (w : World) (hk : kn ≤ 4) (ht : ∀ i, i < 4 → -1 ≤ c i ∧ c i ≤ (kn : Int) - 1) (ha : a < 16) (h : Row w zl (kn * 8) (lc p m)) :
    Calls Try.prog 157 #[.agg (held5 c zl kn), .int .i64 a] w fun e w' => e = .returned (.agg #[.int .i64 a, .int .i64 (lfP c p a), .int .i64 (lfP c m a)]) ∧ Blw w w' := by
  have hb0 : Blw w ((w.alloc (.cells (held5 c zl kn) 136)).alloc (.cells #[.int .i64 0, .int .i64 0, .int .i64 0] 129)) := ((Blw.refl _).alloc _).alloc _
  have rA : Row ((w.alloc (.cells (held5 c zl kn) 136)).alloc (.cells #[.int .i64 0, .int .i64 0, .int .i64 0] 129)) w.heap.size 5 (row5f c (.slice (some ⟨zl, 0, none⟩) kn kn)) := (row5 w (.int .i64 (c 0)) (.int .i64 (c 1)) (.int .i64 (c 2)) (.int .i64 (c 3)) (.slice (some ⟨zl, 0, none⟩) kn kn) 136).blw ((Blw.refl _).alloc (.cells #[.int .i64 0, .int .i64 0, .int .i64 0] 129))
  have rT := box3s (w.alloc (.cells (held5 c zl kn) 136)) (.int .i64 0) (.int .i64 0) (.int .i64 0) 129
  rw [World.size_alloc] at rT
  have HT : Hid (Row ((w.alloc (.cells (held5 c zl kn) 136)).alloc (.cells #[.int .i64 0, .int .i64 0, .int .i64 0] 129)) (w.heap.size + 1) 3 (fun i => if i = 0 then .int .i64 0 else if i = 1 then .int .i64 0 else .int .i64 0)) := rT
  have HL : Hid (Row ((w.alloc (.cells (held5 c zl kn) 136)).alloc (.cells #[.int .i64 0, .int .i64 0, .int .i64 0] 129)) zl (kn * 8) (lc p m)) := h.blw hb0
  have HB : Hid (Blw w ((w.alloc (.cells (held5 c zl kn) 136)).alloc (.cells #[.int .i64 0, .int .i64 0, .int .i64 0] 129))) := hb0
  obtain ⟨g0, g1, g2, g3, g4⟩ := get5 rA
  clear h rA rT hb0
  go_enter Try.func157, Try.ntmps157
  go_wp2_with fail
  clear g0 g1 g2 g3 g4
  refine (leafAt_any c zl kn p m a _ hk ht ha HL.out).mono ?_
  rintro e w1 ⟨rfl, hb1⟩
  replace HB : Hid (Blw w w1) := HB.out.trans hb1
  have hb3 : Blw w1 (w1.alloc (.cells #[.int .i64 (lfP c p a), .int .i64 (lfP c m a)] 189)) := (Blw.refl _).alloc _
  have rT : Row (w1.alloc (.cells #[.int .i64 (lfP c p a), .int .i64 (lfP c m a)] 189)) (w.heap.size + 1) 3 (fun i => if i = 0 then .int .i64 0 else if i = 1 then .int .i64 0 else .int .i64 0) := (HT.out.blw hb1).blw hb3
  have hsz : w.heap.size ≤ w.heap.size + 1 := Nat.le_succ _
  have HN : Hid (Blw w ((((w1.alloc (.cells #[.int .i64 (lfP c p a), .int .i64 (lfP c m a)] 189)).setCell ⟨w.heap.size + 1, 0, none⟩ (.int .i64 a)).setCell ⟨w.heap.size + 1, 1, none⟩ (.int .i64 (lfP c p a))).setCell ⟨w.heap.size + 1, 2, none⟩ (.int .i64 (lfP c m a)))) := set3_blw (HB.out.trans hb3) hsz _ _ _
  clear hb1 hb3 HL HT HB ht
  obtain ⟨t0, t1, t2⟩ := get3s rT
  have f0 := rT.frozen 0
  have f1 := rT.frozen 1
  have f2 := rT.frozen 2
  clear rT
  go_wp2
  exact bodyPost_ret (v := .agg #[.int .i64 a, .int .i64 (lfP c p a), .int .i64 (lfP c m a)]) (by simp [results, Try.results157, go_sem, t0, t1, t2]) rfl ⟨rfl, HN.out⟩
end Go.Proofs.Ytbpdopcdhnemfaa
/- A table in a walker's box that is changed: the program's. -/
namespace Go.Proofs.Ytbpdopcdhnemfaa
open Go.RowKit
set_option linter.unusedSimpArgs false
set_option linter.unusedVariables false
/-- A table in a box at zt of four cells; none of its blocks is of E. -/
structure TW (x2 x3 : Value) (E : Nat → Prop) (wr : World) (zt : Nat) (b : BV) (B : BD) : Prop where
  box : Row wr zt 4 (fun i => if i = 0 then .slice b.a1 B.n b.c1 else if i = 1 then .slice b.a2 B.D.n b.c2 else if i = 2 then x2 else x3)
  at_ : BookOwn (fun x => ¬ E x ∧ x < wr.heap.size ∧ x ≠ zt) wr b B
theorem TW.blw {x2 x3 : Value} {E : Nat → Prop} {zt : Nat} {wr w' : World} {b : BV} {B : BD} (h : TW x2 x3 E wr zt b B) (hb : Blw wr w') : TW x2 x3 E w' zt b B :=
  ⟨h.box.blw hb, (h.at_.blw hb).mono (fun x hx => ⟨hx.1, Nat.lt_of_lt_of_le hx.2.1 hb.size, hx.2.2⟩)⟩
theorem row4_set01 {w : World} {z : Nat} {u v x2 x3 a b : Value} (h : Row w z 4 (fun i => if i = 0 then u else if i = 1 then v else if i = 2 then x2 else x3)) : Row ((w.setCell ⟨z, 0, none⟩ a).setCell ⟨z, 1, none⟩ b) z 4 (fun i => if i = 0 then a else if i = 1 then b else if i = 2 then x2 else x3) :=
  ((h.set 0 _).set 1 _).congr (fun i hi => by
    match i, hi with
    | 0, _ => rfl
    | 1, _ => rfl
    | 2, _ => rfl
    | 3, _ => rfl)
theorem cw_end {x2 x3 : Value} {E : Nat → Prop} {zt zb : Nat} {w W : World} {b b3 : BV} {B R : BD} (hE : ∀ x, E x → x < w.heap.size) (ht : TW x2 x3 E W zt b B) (hz : Row W zb 2 (fun i => if i = 0 then .slice none 0 0 else .slice none 0 0)) (hb : w.heap.size < zb ∧ zt ≠ zb) (ho : BookOwn (fun x => w.heap.size < x ∧ x < W.heap.size ∧ x ≠ zb) W b3 R) (hm : Mod (fun x => x = zt) w W) (hzt : zt < w.heap.size) (hno : BookOwn (fun x => (¬ E x ∧ x < W.heap.size ∧ x ≠ zt) ∧ x ≠ zb) W b B) :
    let W2 := (W.setCell ⟨zb, 0, none⟩ (.slice b3.a1 R.n b3.c1)).setCell ⟨zb, 1, none⟩ (.slice b3.a2 R.D.n b3.c2)
    let W3 := (W2.setCell ⟨zt, 0, none⟩ (.slice b3.a1 R.n b3.c1)).setCell ⟨zt, 1, none⟩ (.slice b3.a2 R.D.n b3.c2)
    TW x2 x3 E W2 zt b B ∧ Row W2 zb 2 (fun i => if i = 0 then .slice b3.a1 R.n b3.c1 else .slice b3.a2 R.D.n b3.c2) ∧ True ∧ Mod (fun x => x = zt) w W2 ∧ (TW x2 x3 E W3 zt b3 R ∧ Mod (fun x => x = zt) w W3) := by
  intro W2 W3
  have m2 : Mod (fun x => x = zb) W W2 := set2_mod (X := fun x => x = zb) W rfl _ _
  have m3 : Mod (fun x => x = zt) W2 W3 := set2_mod (X := fun x => x = zt) W2 rfl _ _
  have s2 := m2.size
  have s3 := m3.size
  have hM2 : Mod (fun x => x = zt) w W2 := hm.newer' m2 (fun i hi => by omega)
  refine ⟨⟨ht.box.mod m2 hb.2, (hno.mod m2 (fun x hx e => hx.2 e)).mono (fun x hx => ⟨hx.1.1, by omega, hx.1.2.2⟩)⟩, row2_set hz, trivial, hM2, ⟨row4_set01 (ht.box.mod m2 hb.2), ?_⟩, hM2.trans m3⟩
  exact ((ho.mod m2 (fun x hx e => hx.2.2 e)).mod m3 (fun x hx e => by omega)).mono (fun x hx => ⟨fun e => by have := hE x e; omega, by omega, by omega⟩)
set_option maxRecDepth 10000 in
set_option maxHeartbeats 6400000 in
theorem changeW_any (x2 x3 : Value) (E : Nat → Prop) (zt : Nat) (b : BV) (B : BD) (k a g y : Int) (w : World) (hk : k = 2 ∨ k = 3 ∨ k = 4) (hE : ∀ x, E x → x < w.heap.size) (h : TW x2 x3 E w zt b B) :
    Calls Try.prog 148 #[.pointer (some ⟨zt, 0, none⟩), .agg #[.int .i64 k, .int .i64 a, .int .i64 g, .int .i64 y]] w fun e w' => ∃ b' R r, e = .returned (.bool r) ∧ ctO B k a g y R r ∧ TW x2 x3 E w' zt b' R ∧ Mod (fun x => x = zt) w w' := by
  have hA : Blw w (w.alloc (.cells #[.int .i64 k, .int .i64 a, .int .i64 g, .int .i64 y] 42)) := (Blw.refl _).alloc _
  have HT : Hid (TW x2 x3 E (w.alloc (.cells #[.int .i64 k, .int .i64 a, .int .i64 g, .int .i64 y] 42)) zt b B) := h.blw hA
  have HS : Hid (Row (w.alloc (.cells #[.int .i64 k, .int .i64 a, .int .i64 g, .int .i64 y] 42)) w.heap.size 4 (fun i => if i = 0 then .int .i64 k else if i = 1 then .int .i64 a else if i = 2 then .int .i64 g else .int .i64 y)) := box4 w _ _ _ _ 42
  have HM : Hid (Mod (fun x => x = zt) w (w.alloc (.cells #[.int .i64 k, .int .i64 a, .int .i64 g, .int .i64 y] 42))) := hA.mod _
  have hzt := h.box.lt
  clear h hA
  go_enter Try.func148, Try.ntmps148
  go_upto_region 1 with fail
  replace HT : Hid (TW x2 x3 E (w.alloc (.cells #[.int .i64 k, .int .i64 a, .int .i64 g, .int .i64 y] 42)).drew zt b B) := HT.out.blw (Blw.refl _).drew
  replace HS : Hid (Row (w.alloc (.cells #[.int .i64 k, .int .i64 a, .int .i64 g, .int .i64 y] 42)).drew w.heap.size 4 (fun i => if i = 0 then .int .i64 k else if i = 1 then .int .i64 a else if i = 2 then .int .i64 g else .int .i64 y)) := HS.out.blw (Blw.refl _).drew
  replace HM : Hid (Mod (fun x => x = zt) w (w.alloc (.cells #[.int .i64 k, .int .i64 a, .int .i64 g, .int .i64 y] 42)).drew) := HM.out.trans ((Blw.refl _).drew.mod _)
  have HSZ : Hid (w.heap.size + 1 = (w.alloc (.cells #[.int .i64 k, .int .i64 a, .int .i64 g, .int .i64 y] 42)).drew.heap.size) := by show _ = _; simp
  generalize w.alloc (.cells #[.int .i64 k, .int .i64 a, .int .i64 g, .int .i64 y] 42) = wp at *
  have P0 : ∀ w', (Row w' zt 4 (fun i => if i = 0 then .slice b.a1 B.n b.c1 else if i = 1 then .slice b.a2 B.D.n b.c2 else if i = 2 then x2 else x3) ∧ Row w' w.heap.size 4 (fun i => if i = 0 then .int .i64 k else if i = 1 then .int .i64 a else if i = 2 then .int .i64 g else .int .i64 y)) → w'.cell? ⟨zt, 0, none⟩ = some (.slice b.a1 B.n b.c1) ∧ w'.cell? ⟨zt, 1, none⟩ = some (.slice b.a2 B.D.n b.c2) := fun w' hh => ⟨(get4 hh.1).1, (get4 hh.1).2.1⟩
  have P1 : ∀ w', (Row w' zt 4 (fun i => if i = 0 then .slice b.a1 B.n b.c1 else if i = 1 then .slice b.a2 B.D.n b.c2 else if i = 2 then x2 else x3) ∧ Row w' w.heap.size 4 (fun i => if i = 0 then .int .i64 k else if i = 1 then .int .i64 a else if i = 2 then .int .i64 g else .int .i64 y)) → w'.cell? ⟨w.heap.size, 0, none⟩ = some (.int .i64 k) ∧ w'.cell? ⟨w.heap.size, 1, none⟩ = some (.int .i64 a) ∧ w'.cell? ⟨w.heap.size, 2, none⟩ = some (.int .i64 g) ∧ w'.cell? ⟨w.heap.size, 3, none⟩ = some (.int .i64 y) := fun w' hh => get4 hh.2
  refine wp_region_noPanic ?_
  refine wp_region_held_drew (S := fun w' => Row w' zt 4 (fun i => if i = 0 then .slice b.a1 B.n b.c1 else if i = 1 then .slice b.a2 B.D.n b.c2 else if i = 2 then x2 else x3) ∧ Row w' w.heap.size 4 (fun i => if i = 0 then .int .i64 k else if i = 1 then .int .i64 a else if i = 2 then .int .i64 g else .int .i64 y)) (by kernel_rfl) (And.intro HT.out.box HS.out) (fun hB => ?_)
  clear hB
  generalize wp.drew = wd at *
  refine wpAnyH_take (i := 0) (oi := { dst := some 8, op := Op.move (Operand.tmp 0), type := 120, pos := _, after := #[], guard := none }) (v := (.pointer (some ⟨zt, 0, none⟩))) rfl (by kernel_rfl) (by kernel_rfl) (by kernel_rfl) (fun _ _ _ h => h) (Or.inl ⟨by rfl, fun w' hS => by (try dsimp only at hS); go_simp⟩) (And.intro HT.out.box HS.out) ?_
  simp only [Act.put, List.setIfInBounds_toArray, List.set_cons_zero, List.set_cons_succ]
  refine wpAnyH_take (i := 3) (oi := { dst := some 11, op := Op.load 42 (Operand.tmp 3), type := 42, pos := _, after := #[], guard := none }) (v := (.agg #[.int .i64 k, .int .i64 a, .int .i64 g, .int .i64 y])) rfl (by kernel_rfl) (by kernel_rfl) (by kernel_rfl) (fun _ _ _ h => h) (Or.inl ⟨by rfl, fun w' hS => by (try dsimp only at hS); go_simp⟩) (And.intro HT.out.box HS.out) ?_
  simp only [Act.put, List.setIfInBounds_toArray, List.set_cons_zero, List.set_cons_succ]
  refine wpAnyH_take (i := 1) (oi := { dst := some 9, op := Op.nilCheck (Operand.tmp 8), type := 0, pos := _, after := #[{ on := 0, ground := Ground.data }], guard := none }) (v := (.pointer (some ⟨zt, 0, none⟩))) rfl (by kernel_rfl) (by kernel_rfl) (by kernel_rfl) (fun _ _ _ h => h) (Or.inl ⟨by rfl, fun w' hS => by (try dsimp only at hS); go_simp⟩) (And.intro HT.out.box HS.out) ?_
  simp only [Act.put, List.setIfInBounds_toArray, List.set_cons_zero, List.set_cons_succ]
  refine wpAnyH_take (i := 2) (oi := { dst := some 10, op := Op.load 29 (Operand.tmp 9), type := 29, pos := _, after := #[{ on := 1, ground := Ground.data }], guard := none }) (v := (.agg #[.slice b.a1 B.n b.c1, .slice b.a2 B.D.n b.c2])) rfl (by kernel_rfl) (by kernel_rfl) (by kernel_rfl) (fun _ _ _ h => h) (Or.inl ⟨by rfl, fun w' hS => by (try dsimp only at hS); go_simp⟩) (And.intro HT.out.box HS.out) ?_
  simp only [Act.put, List.setIfInBounds_toArray, List.set_cons_zero, List.set_cons_succ]
  refine wpAnyH_ready (rs := [4, 8]) (by kernel_rfl) (by simp) ?_
  refine AllReadyH.cons (o := { dst := some 12, op := Op.call { callee := Callee.value (Operand.func 187), args := #[Operand.tmp 10, Operand.tmp 11], argTypes := #[29, 42] }, type := 111, pos := _, after := #[{ on := 2, ground := Ground.data }, { on := 3, ground := Ground.data }], guard := none }) rfl (fun K hK => ?_) (AllReadyH.cons (o := { dst := some 5, op := Op.alloc 29, type := 0, pos := _, after := #[], guard := none }) rfl (fun K hK => ?_) AllReadyH.nil)
  · go_simp
    refine (implChg_any b B k a g y _ _ (fun x hx => hx.2.1) hk HT.out.at_.at).mono ?_
    rintro e wn ⟨b3, R, r3, rfl, ho3, hs3, own3, hbk⟩
    have HO : Hid (chgO B k a g y R r3) := ho3
    have hsz := hbk.size
    have hzw := HSZ.out
    have HOW : Hid (BookOwn (fun x => w.heap.size < x ∧ x < wn.heap.size) wn b3 R) := own3.mono (fun x hx => ⟨by omega, hx.2⟩)
    replace HT : Hid (TW x2 x3 E wn zt b B) := HT.out.blw hbk
    replace HS : Hid (Row wn w.heap.size 4 (fun i => if i = 0 then .int .i64 k else if i = 1 then .int .i64 a else if i = 2 then .int .i64 g else .int .i64 y)) := HS.out.blw hbk
    replace HM : Hid (Mod (fun x => x = zt) w wn) := HM.out.trans (hbk.mod _)
    clear ho3 hs3 own3 hbk hsz hzw
    refine hK.out _ _ (And.intro HT.out.box HS.out) (fun hB => ?_)
    clear hK K hB
    try simp only [Act.put, List.setIfInBounds_toArray, List.set_cons_zero, List.set_cons_succ]
    refine wpAnyH_take (i := 5) (oi := { dst := some 7, op := Op.move (Operand.tmp 12), type := 111, pos := _, after := #[{ on := 4, ground := Ground.data }], guard := none }) (v := (.tuple #[b3.val R, .bool r3])) rfl (by kernel_rfl) (by kernel_rfl) (by kernel_rfl) (fun _ _ _ h => h) (Or.inl ⟨by rfl, fun w' hS => by (try dsimp only at hS); go_simp⟩) (And.intro HT.out.box HS.out) ?_
    simp only [Act.put, List.setIfInBounds_toArray, List.set_cons_zero, List.set_cons_succ]
    refine wpAnyH_take (i := 6) (oi := { dst := some 13, op := Op.extract (Operand.tmp 7) 0, type := 29, pos := _, after := #[{ on := 5, ground := Ground.data }], guard := none }) (v := (.agg #[.slice b3.a1 R.n b3.c1, .slice b3.a2 R.D.n b3.c2])) rfl (by kernel_rfl) (by kernel_rfl) (by kernel_rfl) (fun _ _ _ h => h) (Or.inl ⟨by rfl, fun w' hS => by (try dsimp only at hS); go_simp⟩) (And.intro HT.out.box HS.out) ?_
    simp only [Act.put, List.setIfInBounds_toArray, List.set_cons_zero, List.set_cons_succ]
    refine wpAnyH_take (i := 7) (oi := { dst := some 14, op := Op.extract (Operand.tmp 7) 1, type := 4, pos := _, after := #[{ on := 5, ground := Ground.data }, { on := 9, ground := Ground.gcOnly Departure.lateStores }], guard := none }) (v := (.bool r3)) rfl (by kernel_rfl) (by kernel_rfl) (by kernel_rfl) (fun _ _ _ h => h) (Or.inl ⟨by rfl, fun w' hS => by (try dsimp only at hS); go_simp⟩) (And.intro HT.out.box HS.out) ?_
    simp only [Act.put, List.setIfInBounds_toArray, List.set_cons_zero, List.set_cons_succ]
    refine wpAnyH_ready (rs := [8]) (by kernel_rfl) (by simp) ?_
    refine AllReadyH.cons (o := { dst := some 5, op := Op.alloc 29, type := 0, pos := _, after := #[], guard := none }) rfl (fun K hK => ?_) AllReadyH.nil
    go_simp
    have HZ : Hid (Row (wn.alloc (.cells #[.slice none 0 0, .slice none 0 0] 29)) wn.heap.size 2 (fun i => if i = 0 then .slice none 0 0 else .slice none 0 0)) := box2 wn _ _ 29
    have HZB : Hid (w.heap.size < wn.heap.size ∧ zt ≠ wn.heap.size) := by have := HT.out.box.lt; have := HS.out.lt; show _ ∧ _; omega
    have HNO : Hid (BookOwn (fun x => (¬ E x ∧ x < (wn.alloc (.cells #[.slice none 0 0, .slice none 0 0] 29)).heap.size ∧ x ≠ zt) ∧ x ≠ wn.heap.size) (wn.alloc (.cells #[.slice none 0 0, .slice none 0 0] 29)) b B) := (HT.out.at_.blw ((Blw.refl _).alloc _)).mono (fun x hx => ⟨⟨hx.1, by rw [World.size_alloc]; omega, hx.2.2⟩, by omega⟩)
    replace HOW : Hid (BookOwn (fun x => w.heap.size < x ∧ x < (wn.alloc (.cells #[.slice none 0 0, .slice none 0 0] 29)).heap.size ∧ x ≠ wn.heap.size) (wn.alloc (.cells #[.slice none 0 0, .slice none 0 0] 29)) b3 R) := (HOW.out.blw ((Blw.refl _).alloc _)).mono (fun x hx => ⟨hx.1, by rw [World.size_alloc]; omega, by omega⟩)
    replace HT : Hid (TW x2 x3 E (wn.alloc (.cells #[.slice none 0 0, .slice none 0 0] 29)) zt b B) := HT.out.blw ((Blw.refl _).alloc _)
    replace HS : Hid (Row (wn.alloc (.cells #[.slice none 0 0, .slice none 0 0] 29)) w.heap.size 4 (fun i => if i = 0 then .int .i64 k else if i = 1 then .int .i64 a else if i = 2 then .int .i64 g else .int .i64 y)) := HS.out.blw ((Blw.refl _).alloc _)
    replace HM : Hid (Mod (fun x => x = zt) w (wn.alloc (.cells #[.slice none 0 0, .slice none 0 0] 29))) := HM.out.trans (((Blw.refl _).alloc _).mod _)
    refine hK.out _ _ (And.intro HT.out.box HS.out) (fun hB => ?_)
    clear hK K hB
    try simp only [Act.put, List.setIfInBounds_toArray, List.set_cons_zero, List.set_cons_succ]
    generalize wn.alloc (.cells #[.slice none 0 0, .slice none 0 0] 29) = wA at *
    generalize wn.heap.size = zb at *
    refine wpAnyH_ready (rs := [9]) (by kernel_rfl) (by simp) ?_
    refine AllReadyH.cons (o := { dst := none, op := Op.store 29 (Operand.tmp 5) (Operand.tmp 13), type := 0, pos := _, after := #[{ on := 8, ground := Ground.data }, { on := 6, ground := Ground.data }, { on := 4, ground := Ground.chain }, { on := 0, ground := Ground.phase }, { on := 1, ground := Ground.phase }, { on := 2, ground := Ground.phase }, { on := 3, ground := Ground.phase }, { on := 4, ground := Ground.phase }, { on := 5, ground := Ground.phase }, { on := 6, ground := Ground.phase }, { on := 7, ground := Ground.textOnly Departure.lateStores }, { on := 8, ground := Ground.phase }], guard := none }) rfl (fun K hK => ?_) AllReadyH.nil
    obtain ⟨z0, z1⟩ := get2 HZ.out
    have fz0 := HZ.out.frozen 0
    have fz1 := HZ.out.frozen 1
    obtain ⟨ft, fz, fa, fm, fend⟩ := cw_end hE HT.out HZ.out HZB.out HOW.out HM.out hzt HNO.out
    have hm2 := set2_mod (X := fun x => x = zb) wA rfl (.slice b3.a1 R.n b3.c1) (.slice b3.a2 R.D.n b3.c2)
    have hSt := And.intro ft.box (HS.out.mod hm2 (by have := HZB.out; omega))
    have FT : Hid (TW x2 x3 E _ zt b B) := ft
    have FZ : Hid (Row _ zb 2 (fun i => if i = 0 then .slice b3.a1 R.n b3.c1 else .slice b3.a2 R.D.n b3.c2)) := fz
    have FM : Hid (Mod (fun x => x = zt) w _) := fm
    have FE : Hid (TW x2 x3 E _ zt b3 R ∧ Mod (fun x => x = zt) w _) := fend
    clear ft fz fa fm fend hm2
    go_simp
    refine hK.out _ _ hSt (fun hB => ?_)
    clear hK K hB
    try simp only [Act.put, List.setIfInBounds_toArray, List.set_cons_zero, List.set_cons_succ]
    clear z0 z1 fz0 fz1
    refine wpAnyH_take (i := 10) (oi := { dst := some 6, op := Op.assign (Operand.tmp 14), type := 4, pos := _, after := #[{ on := 7, ground := Ground.data }, { on := 9, ground := Ground.chain }, { on := 0, ground := Ground.phase }, { on := 1, ground := Ground.phase }, { on := 2, ground := Ground.phase }, { on := 3, ground := Ground.phase }, { on := 4, ground := Ground.phase }, { on := 5, ground := Ground.phase }, { on := 6, ground := Ground.phase }, { on := 7, ground := Ground.phase }, { on := 8, ground := Ground.phase }, { on := 9, ground := Ground.phase }], guard := none }) (v := (.bool r3)) rfl (by kernel_rfl) (by kernel_rfl) (by kernel_rfl) (fun _ _ _ h => h) (Or.inl ⟨by rfl, fun w' hS => by (try dsimp only at hS); go_simp⟩) hSt ?_
    simp only [Act.put, List.setIfInBounds_toArray, List.set_cons_zero, List.set_cons_succ]
    refine wpAnyH_done (by kernel_rfl) ?_ _
    refine NoPanic.normal ?_
    clear hSt P0 P1 HT HS HM HZ HZB HOW HSZ HNO
    generalize ((wA.setCell ⟨zb, 0, none⟩ (.slice b3.a1 R.n b3.c1)).setCell ⟨zb, 1, none⟩ (.slice b3.a2 R.D.n b3.c2)) = W2 at *
    cases r3
    · have FIN : Hid (∃ b' R' r', Ending.returned (.bool false) = .returned (.bool r') ∧ ctO B k a g y R' r' ∧ TW x2 x3 E W2 zt b' R' ∧ Mod (fun x => x = zt) w W2) := ⟨b, B, false, rfl, ⟨R, HO.out, Or.inr ⟨rfl, rfl⟩⟩, FT.out, FM.out⟩
      clear HO FZ FT FM FE
      go_wp2
      go_ret
      exact FIN.out
    · obtain ⟨q0, q1⟩ := get2 FZ.out
      obtain ⟨t0, t1, -, -⟩ := get4 FT.out.box
      have f0 := FT.out.box.frozen 0
      have f1 := FT.out.box.frozen 1
      have FIN : Hid (∃ b' R' r', Ending.returned (.bool true) = .returned (.bool r') ∧ ctO B k a g y R' r' ∧ TW x2 x3 E ((W2.setCell ⟨zt, 0, none⟩ (.slice b3.a1 R.n b3.c1)).setCell ⟨zt, 1, none⟩ (.slice b3.a2 R.D.n b3.c2)) zt b' R' ∧ Mod (fun x => x = zt) w ((W2.setCell ⟨zt, 0, none⟩ (.slice b3.a1 R.n b3.c1)).setCell ⟨zt, 1, none⟩ (.slice b3.a2 R.D.n b3.c2))) := ⟨b3, R, true, rfl, ⟨R, HO.out, Or.inl ⟨rfl, rfl⟩⟩, FE.out.1, FE.out.2⟩
      clear HO FZ FT FM FE
      go_wp2
      refine bodyPost_ret (v := .bool true) (by simp [results, Try.results148, go_sem]) rfl FIN.out
  · go_simp
    have HZ : Hid (Row (wd.alloc (.cells #[.slice none 0 0, .slice none 0 0] 29)) wd.heap.size 2 (fun i => if i = 0 then .slice none 0 0 else .slice none 0 0)) := box2 wd _ _ 29
    have HZB : Hid (w.heap.size < wd.heap.size ∧ zt ≠ wd.heap.size) := by have := HT.out.box.lt; have := HS.out.lt; show _ ∧ _; omega
    have HNO : Hid (BookOwn (fun x => (¬ E x ∧ x < (wd.alloc (.cells #[.slice none 0 0, .slice none 0 0] 29)).heap.size ∧ x ≠ zt) ∧ x ≠ wd.heap.size) (wd.alloc (.cells #[.slice none 0 0, .slice none 0 0] 29)) b B) := (HT.out.at_.blw ((Blw.refl _).alloc _)).mono (fun x hx => ⟨⟨hx.1, by rw [World.size_alloc]; omega, hx.2.2⟩, by omega⟩)
    replace HSZ : Hid (w.heap.size + 1 ≤ (wd.alloc (.cells #[.slice none 0 0, .slice none 0 0] 29)).heap.size) := by have := HSZ.out; show _ ≤ _; simp; omega
    replace HT : Hid (TW x2 x3 E (wd.alloc (.cells #[.slice none 0 0, .slice none 0 0] 29)) zt b B) := HT.out.blw ((Blw.refl _).alloc _)
    replace HS : Hid (Row (wd.alloc (.cells #[.slice none 0 0, .slice none 0 0] 29)) w.heap.size 4 (fun i => if i = 0 then .int .i64 k else if i = 1 then .int .i64 a else if i = 2 then .int .i64 g else .int .i64 y)) := HS.out.blw ((Blw.refl _).alloc _)
    replace HM : Hid (Mod (fun x => x = zt) w (wd.alloc (.cells #[.slice none 0 0, .slice none 0 0] 29))) := HM.out.trans (((Blw.refl _).alloc _).mod _)
    refine hK.out _ _ (And.intro HT.out.box HS.out) (fun hB => ?_)
    clear hK K hB
    try simp only [Act.put, List.setIfInBounds_toArray, List.set_cons_zero, List.set_cons_succ]
    generalize wd.alloc (.cells #[.slice none 0 0, .slice none 0 0] 29) = wA at *
    generalize wd.heap.size = zb at *
    refine wpAnyH_ready (rs := [4]) (by kernel_rfl) (by simp) ?_
    refine AllReadyH.cons (o := { dst := some 12, op := Op.call { callee := Callee.value (Operand.func 187), args := #[Operand.tmp 10, Operand.tmp 11], argTypes := #[29, 42] }, type := 111, pos := _, after := #[{ on := 2, ground := Ground.data }, { on := 3, ground := Ground.data }], guard := none }) rfl (fun K hK => ?_) AllReadyH.nil
    go_simp
    refine (implChg_any b B k a g y _ _ (fun x hx => hx.2.1) hk HT.out.at_.at).mono ?_
    rintro e wn ⟨b3, R, r3, rfl, ho3, hs3, own3, hbk⟩
    have HO : Hid (chgO B k a g y R r3) := ho3
    have hsz := hbk.size
    have hzw := HSZ.out
    have hzz := HZ.out.lt
    replace HNO : Hid (BookOwn (fun x => (¬ E x ∧ x < wn.heap.size ∧ x ≠ zt) ∧ x ≠ zb) wn b B) := (HNO.out.blw hbk).mono (fun x hx => ⟨⟨hx.1.1, by omega, hx.1.2.2⟩, hx.2⟩)
    replace HZ : Hid (Row wn zb 2 (fun i => if i = 0 then .slice none 0 0 else .slice none 0 0)) := HZ.out.blw hbk
    have HOW : Hid (BookOwn (fun x => w.heap.size < x ∧ x < wn.heap.size ∧ x ≠ zb) wn b3 R) := own3.mono (fun x hx => ⟨by have := HZB.out; omega, hx.2, by omega⟩)
    replace HT : Hid (TW x2 x3 E wn zt b B) := HT.out.blw hbk
    replace HS : Hid (Row wn w.heap.size 4 (fun i => if i = 0 then .int .i64 k else if i = 1 then .int .i64 a else if i = 2 then .int .i64 g else .int .i64 y)) := HS.out.blw hbk
    replace HM : Hid (Mod (fun x => x = zt) w wn) := HM.out.trans (hbk.mod _)
    clear ho3 hs3 own3 hbk hsz hzw hzz
    refine hK.out _ _ (And.intro HT.out.box HS.out) (fun hB => ?_)
    clear hK K hB
    try simp only [Act.put, List.setIfInBounds_toArray, List.set_cons_zero, List.set_cons_succ]
    refine wpAnyH_take (i := 5) (oi := { dst := some 7, op := Op.move (Operand.tmp 12), type := 111, pos := _, after := #[{ on := 4, ground := Ground.data }], guard := none }) (v := (.tuple #[b3.val R, .bool r3])) rfl (by kernel_rfl) (by kernel_rfl) (by kernel_rfl) (fun _ _ _ h => h) (Or.inl ⟨by rfl, fun w' hS => by (try dsimp only at hS); go_simp⟩) (And.intro HT.out.box HS.out) ?_
    simp only [Act.put, List.setIfInBounds_toArray, List.set_cons_zero, List.set_cons_succ]
    refine wpAnyH_take (i := 6) (oi := { dst := some 13, op := Op.extract (Operand.tmp 7) 0, type := 29, pos := _, after := #[{ on := 5, ground := Ground.data }], guard := none }) (v := (.agg #[.slice b3.a1 R.n b3.c1, .slice b3.a2 R.D.n b3.c2])) rfl (by kernel_rfl) (by kernel_rfl) (by kernel_rfl) (fun _ _ _ h => h) (Or.inl ⟨by rfl, fun w' hS => by (try dsimp only at hS); go_simp⟩) (And.intro HT.out.box HS.out) ?_
    simp only [Act.put, List.setIfInBounds_toArray, List.set_cons_zero, List.set_cons_succ]
    refine wpAnyH_take (i := 7) (oi := { dst := some 14, op := Op.extract (Operand.tmp 7) 1, type := 4, pos := _, after := #[{ on := 5, ground := Ground.data }, { on := 9, ground := Ground.gcOnly Departure.lateStores }], guard := none }) (v := (.bool r3)) rfl (by kernel_rfl) (by kernel_rfl) (by kernel_rfl) (fun _ _ _ h => h) (Or.inl ⟨by rfl, fun w' hS => by (try dsimp only at hS); go_simp⟩) (And.intro HT.out.box HS.out) ?_
    simp only [Act.put, List.setIfInBounds_toArray, List.set_cons_zero, List.set_cons_succ]
    refine wpAnyH_ready (rs := [9]) (by kernel_rfl) (by simp) ?_
    refine AllReadyH.cons (o := { dst := none, op := Op.store 29 (Operand.tmp 5) (Operand.tmp 13), type := 0, pos := _, after := #[{ on := 8, ground := Ground.data }, { on := 6, ground := Ground.data }, { on := 4, ground := Ground.chain }, { on := 0, ground := Ground.phase }, { on := 1, ground := Ground.phase }, { on := 2, ground := Ground.phase }, { on := 3, ground := Ground.phase }, { on := 4, ground := Ground.phase }, { on := 5, ground := Ground.phase }, { on := 6, ground := Ground.phase }, { on := 7, ground := Ground.textOnly Departure.lateStores }, { on := 8, ground := Ground.phase }], guard := none }) rfl (fun K hK => ?_) AllReadyH.nil
    obtain ⟨z0, z1⟩ := get2 HZ.out
    have fz0 := HZ.out.frozen 0
    have fz1 := HZ.out.frozen 1
    obtain ⟨ft, fz, fa, fm, fend⟩ := cw_end hE HT.out HZ.out HZB.out HOW.out HM.out hzt HNO.out
    have hm2 := set2_mod (X := fun x => x = zb) wn rfl (.slice b3.a1 R.n b3.c1) (.slice b3.a2 R.D.n b3.c2)
    have hSt := And.intro ft.box (HS.out.mod hm2 (by have := HZB.out; omega))
    have FT : Hid (TW x2 x3 E _ zt b B) := ft
    have FZ : Hid (Row _ zb 2 (fun i => if i = 0 then .slice b3.a1 R.n b3.c1 else .slice b3.a2 R.D.n b3.c2)) := fz
    have FM : Hid (Mod (fun x => x = zt) w _) := fm
    have FE : Hid (TW x2 x3 E _ zt b3 R ∧ Mod (fun x => x = zt) w _) := fend
    clear ft fz fa fm fend hm2
    go_simp
    refine hK.out _ _ hSt (fun hB => ?_)
    clear hK K hB
    try simp only [Act.put, List.setIfInBounds_toArray, List.set_cons_zero, List.set_cons_succ]
    clear z0 z1 fz0 fz1
    refine wpAnyH_take (i := 10) (oi := { dst := some 6, op := Op.assign (Operand.tmp 14), type := 4, pos := _, after := #[{ on := 7, ground := Ground.data }, { on := 9, ground := Ground.chain }, { on := 0, ground := Ground.phase }, { on := 1, ground := Ground.phase }, { on := 2, ground := Ground.phase }, { on := 3, ground := Ground.phase }, { on := 4, ground := Ground.phase }, { on := 5, ground := Ground.phase }, { on := 6, ground := Ground.phase }, { on := 7, ground := Ground.phase }, { on := 8, ground := Ground.phase }, { on := 9, ground := Ground.phase }], guard := none }) (v := (.bool r3)) rfl (by kernel_rfl) (by kernel_rfl) (by kernel_rfl) (fun _ _ _ h => h) (Or.inl ⟨by rfl, fun w' hS => by (try dsimp only at hS); go_simp⟩) hSt ?_
    simp only [Act.put, List.setIfInBounds_toArray, List.set_cons_zero, List.set_cons_succ]
    refine wpAnyH_done (by kernel_rfl) ?_ _
    refine NoPanic.normal ?_
    clear hSt P0 P1 HT HS HM HZ HZB HOW HSZ HNO
    generalize ((wn.setCell ⟨zb, 0, none⟩ (.slice b3.a1 R.n b3.c1)).setCell ⟨zb, 1, none⟩ (.slice b3.a2 R.D.n b3.c2)) = W2 at *
    cases r3
    · have FIN : Hid (∃ b' R' r', Ending.returned (.bool false) = .returned (.bool r') ∧ ctO B k a g y R' r' ∧ TW x2 x3 E W2 zt b' R' ∧ Mod (fun x => x = zt) w W2) := ⟨b, B, false, rfl, ⟨R, HO.out, Or.inr ⟨rfl, rfl⟩⟩, FT.out, FM.out⟩
      clear HO FZ FT FM FE
      go_wp2
      go_ret
      exact FIN.out
    · obtain ⟨q0, q1⟩ := get2 FZ.out
      obtain ⟨t0, t1, -, -⟩ := get4 FT.out.box
      have f0 := FT.out.box.frozen 0
      have f1 := FT.out.box.frozen 1
      have FIN : Hid (∃ b' R' r', Ending.returned (.bool true) = .returned (.bool r') ∧ ctO B k a g y R' r' ∧ TW x2 x3 E ((W2.setCell ⟨zt, 0, none⟩ (.slice b3.a1 R.n b3.c1)).setCell ⟨zt, 1, none⟩ (.slice b3.a2 R.D.n b3.c2)) zt b' R' ∧ Mod (fun x => x = zt) w ((W2.setCell ⟨zt, 0, none⟩ (.slice b3.a1 R.n b3.c1)).setCell ⟨zt, 1, none⟩ (.slice b3.a2 R.D.n b3.c2))) := ⟨b3, R, true, rfl, ⟨R, HO.out, Or.inl ⟨rfl, rfl⟩⟩, FE.out.1, FE.out.2⟩
      clear HO FZ FT FM FE
      go_wp2
      refine bodyPost_ret (v := .bool true) (by simp [results, Try.results148, go_sem]) rfl FIN.out
end Go.Proofs.Ytbpdopcdhnemfaa
/- A walker in its box that looks a place up: the program's. -/
namespace Go.Proofs.Ytbpdopcdhnemfaa
open Go.RowKit
set_option linter.unusedSimpArgs false
set_option linter.unusedVariables false

/-- A walker in a box at zw; none of its blocks is of E. -/
structure WK (E : Nat → Prop) (wr : World) (zw : Nat) (v : KV) (D : KD) : Prop where
  box : Row wr zw 4 (kb v D)
  tab : BookOwn (fun x => (¬ E x ∧ x < wr.heap.size ∧ x ≠ zw) ∧ ¬ (0 < D.n ∧ v.a = some ⟨x, 0, none⟩)) wr v.b D.B
  own : KOwn 3 (fun x => (¬ E x ∧ x < wr.heap.size ∧ x ≠ zw) ∧ (0 < D.n ∧ v.a = some ⟨x, 0, none⟩)) wr v.a D.n D.F
  room : Room v.a D.n v.q
  cap : v.q ≤ 9223372036854775807
theorem up3 {E : Nat → Prop} {a b zw : Nat} (h : a ≤ b) {p : Prop} {x : Nat} (hx : (¬ E x ∧ x < a ∧ x ≠ zw) ∧ p) : (¬ E x ∧ x < b ∧ x ≠ zw) ∧ p := ⟨⟨hx.1.1, Nat.lt_of_lt_of_le hx.1.2.1 h, hx.1.2.2⟩, hx.2⟩
theorem WK.mod {E Q : Nat → Prop} {wr w' : World} {zw : Nat} {v : KV} {D : KD} (h : WK E wr zw v D) (hm : Mod Q wr w') (hz : ¬ Q zw) (hq : ∀ x, Q x → E x ∨ wr.heap.size ≤ x) : WK E w' zw v D :=
  ⟨h.box.mod hm hz, (h.tab.mod hm (fun x hx hh => (hq x hh).elim hx.1.1 (fun e => by have := hx.1.2.1; omega))).mono (fun x hx => up3 hm.size hx), (h.own.mod hm (fun x hx hh => (hq x hh).elim hx.1.1 (fun e => by have := hx.1.2.1; omega))).mono (fun x hx => up3 hm.size hx), h.room, h.cap⟩
theorem WK.blw {E : Nat → Prop} {wr w' : World} {zw : Nat} {v : KV} {D : KD} (h : WK E wr zw v D) (hb : Blw wr w') : WK E w' zw v D := h.mod (hb.mod (fun _ => False)) id (fun _ e => e.elim)
theorem KOwn.at_block {X : Nat → Prop} {w : World} {ao : Option Addr} {n : Nat} {F : Nat → Nat → Int} (h : KOwn 3 X w ao n F) : KOwn 3 (fun x => X x ∧ (0 < n ∧ ao = some ⟨x, 0, none⟩)) w ao n F :=
  ⟨h.1, fun h0 => by
    obtain ⟨b, hx, e, r⟩ := h.2 h0
    exact ⟨b, ⟨hx, by omega, e⟩, e, r⟩⟩
theorem WK.put {E : Nat → Prop} {w w' : World} {zw n : Nat} {v : KV} {D : KD} {a : Option Addr} {q : Nat} {F : Nat → Nat → Int} {h : Int} (hK : WK E w zw v D) (hE : ∀ x, E x → x < w.heap.size) (r : Row w' zw 4 (kb ⟨v.b, a, q⟩ ⟨D.B, n, F, h⟩)) (ko : KOwn 3 (fun b => ((¬ E b ∧ b < w.heap.size ∧ b ≠ zw) ∧ (0 < D.n ∧ v.a = some ⟨b, 0, none⟩)) ∨ (w.heap.size ≤ b ∧ b < w'.heap.size)) w' a n F) (rm : Room a n q) (cp : q ≤ 9223372036854775807) (m : Mod (fun x => x = zw) w w') : WK E w' zw ⟨v.b, a, q⟩ ⟨D.B, n, F, h⟩ := by
  have hz := hK.box.lt
  have hs := m.size
  refine ⟨r, (hK.tab.mod m (fun x hx e => hx.1.2.2 e)).mono (fun x hx => ⟨⟨hx.1.1, by have := hx.1.2.1; omega, hx.1.2.2⟩, ?_⟩), ko.at_block.mono (fun x hx => ?_), rm, cp⟩
  · rintro ⟨h0, e⟩
    replace h0 : 0 < n := h0
    obtain ⟨b, hb, e2, -⟩ := ko.2 (by omega)
    have e3 : b = x := by
      replace e : a = some ⟨x, 0, none⟩ := e
      rw [e2] at e; cases e; rfl
    subst e3
    rcases hb with g | g
    · exact hx.2 g.2
    · have := hx.1.2.1; omega
  · refine ⟨?_, hx.2⟩
    rcases hx.1 with g | g
    · exact ⟨g.1.1, by have := g.1.2.1; omega, g.1.2.2⟩
    · exact ⟨fun e => by have := hE x e; omega, by omega, by omega⟩
/-- The hits are put. -/
theorem WK.hits {E : Nat → Prop} {w : World} {zw : Nat} {v : KV} {D : KD} (hK : WK E w zw v D) (x : Int) : WK E (w.setCell ⟨zw, 3, none⟩ (.int .i64 x)) zw v ⟨D.B, D.n, D.F, x⟩ ∧ Mod (fun y => y = zw) w (w.setCell ⟨zw, 3, none⟩ (.int .i64 x)) := by
  have m : Mod (fun y => y = zw) w (w.setCell ⟨zw, 3, none⟩ (.int .i64 x)) := Mod.setCell (X := fun y => y = zw) _ (p := ⟨zw, 3, none⟩) rfl _
  have hs := m.size
  exact ⟨⟨(hK.box.set 3 _).congr (fun i hi => by
    match i, hi with
    | 0, _ => rfl
    | 1, _ => rfl
    | 2, _ => rfl
    | 3, _ => rfl), (hK.tab.mod m (fun x hx e => hx.1.2.2 e)).mono (fun x hx => up3 hs hx), (hK.own.mod m (fun x hx e => hx.1.2.2 e)).mono (fun x hx => up3 hs hx), hK.room, hK.cap⟩, m⟩
theorem WK.same {E : Nat → Prop} {w : World} {zw : Nat} {v : KV} {D : KD} (hK : WK E w zw v D) {F : Nat → Nat → Int} (e : ∀ i c, i < D.n → c < 3 → D.F i c = F i c) : WK E w zw v ⟨D.B, D.n, F, D.h⟩ :=
  ⟨hK.box, hK.tab, hK.own.congr (by omega) e, hK.room, hK.cap⟩
set_option maxRecDepth 10000 in
set_option maxHeartbeats 3200000 in
theorem walkW_yes (E : Nat → Prop) (zw k a : Nat) (v : KV) (D : KD) (y : Int) (w : World) (hG : WG D) (ha : a < 16) (hE : ∀ x, E x → x < w.heap.size) (hk : k < D.n) (hat : AtK D (a : Int) k) (h : WK E w zw v D) :
    Calls Try.prog 147 #[.pointer (some ⟨zw, 0, none⟩), .int .i64 a, .int .i64 y] w fun e w' => ∃ v' x, e = .returned (.int .i64 x) ∧ ((hasMay (D.F k 2) y ∧ x = 1 + D.F k 1) ∨ (¬ hasMay (D.F k 2) y ∧ x = 0)) ∧ WK E w' zw v' ⟨D.B, D.n, consK (D.F k 0) (D.F k 1) (D.F k 2) (dropK k D.F), min (D.h + 1) 1000⟩ ∧ Mod (fun x => x = zw) w w' := by
  obtain ⟨e0, e1, e2, e3⟩ := hG.known hat hk
  have hn := hG.n4
  have hh0 := hG.h0
  have hpg : 0 ≤ D.F k 1 ∧ D.F k 1 ≤ 15 := by
    have := lf_ok hG.g ha
    rw [Int.toNat_natCast] at e1
    rw [e1]; unfold leafOK at this; omega
  have HK : Hid (WK E w zw v D) := h
  have HAT : Hid (∀ j, j < k → D.F j 0 ≠ (a : Int)) := fun j hj e => by have := (hat.2 j (by omega)).1 e; omega
  have HE : Hid (∀ x, E x → x < w.heap.size) := hE
  clear hG hat h hE e1 e2 e3
  go_enter Try.func147, Try.ntmps147
  go_wp2_with fail
  refine (take_yes zw k a v D _ _ (fun b hb => hb.1.2.2) (fun b hb => hb.1.2.1) hk e0 HAT.out (by omega) HK.out.room HK.out.cap HK.out.box HK.out.own).mono ?_
  rintro e w1 ⟨rfl, a1, c1, r1, k1, rm1, cp1, m1⟩
  have hA : Blw w1 (w1.alloc (.cells #[.int .i64 (D.F k 0), .int .i64 (D.F k 1), .int .i64 (D.F k 2)] 129)) := (Blw.refl _).alloc _
  have HK1 : Hid (WK E (w1.alloc (.cells #[.int .i64 (D.F k 0), .int .i64 (D.F k 1), .int .i64 (D.F k 2)] 129)) zw ⟨v.b, a1, c1⟩ ⟨D.B, D.n - 1, dropK k D.F, D.h⟩) := (HK.out.put HE.out r1 k1 rm1 cp1 m1).blw hA
  have HS : Hid (Row (w1.alloc (.cells #[.int .i64 (D.F k 0), .int .i64 (D.F k 1), .int .i64 (D.F k 2)] 129)) w1.heap.size 3 (fun i => if i = 0 then .int .i64 (D.F k 0) else if i = 1 then .int .i64 (D.F k 1) else .int .i64 (D.F k 2))) := box3s w1 _ _ _ 129
  have HM : Hid (Mod (fun x => x = zw) w (w1.alloc (.cells #[.int .i64 (D.F k 0), .int .i64 (D.F k 1), .int .i64 (D.F k 2)] 129))) := m1.trans (hA.mod _)
  have HZ : Hid (zw < w1.heap.size) := r1.lt
  clear r1 k1 rm1 cp1 m1 hA HK HAT e0
  obtain ⟨-, -, -, q3⟩ := get4 HK1.out.box
  have f3 := HK1.out.box.frozen 3
  have hw1 : IntKind.i64.wrap (D.h + 1) = D.h + 1 := by rw [IntKind.wrap_i64]; omega
  by_cases hc : D.h + 1 ≤ 1000
  · go_upto_region 7 with fail
    obtain ⟨k2, m2⟩ := HK1.out.hits (D.h + 1)
    have HK2 : Hid (WK E ((w1.alloc (.cells #[.int .i64 (D.F k 0), .int .i64 (D.F k 1), .int .i64 (D.F k 2)] 129)).setCell ⟨zw, 3, none⟩ (.int .i64 (D.h + 1))) zw ⟨v.b, a1, c1⟩ ⟨D.B, D.n - 1, dropK k D.F, D.h + 1⟩) := k2
    have HS2 : Hid (Row ((w1.alloc (.cells #[.int .i64 (D.F k 0), .int .i64 (D.F k 1), .int .i64 (D.F k 2)] 129)).setCell ⟨zw, 3, none⟩ (.int .i64 (D.h + 1))) w1.heap.size 3 (fun i => if i = 0 then .int .i64 (D.F k 0) else if i = 1 then .int .i64 (D.F k 1) else .int .i64 (D.F k 2))) := HS.out.mod m2 (by have := HZ.out; omega)
    have HM2 : Hid (Mod (fun x => x = zw) w ((w1.alloc (.cells #[.int .i64 (D.F k 0), .int .i64 (D.F k 1), .int .i64 (D.F k 2)] 129)).setCell ⟨zw, 3, none⟩ (.int .i64 (D.h + 1)))) := HM.out.trans m2
    have HH : Hid (min (D.h + 1) 1000 = D.h + 1) := by show min _ _ = _; omega
    clear k2 m2
    clear q3 f3 hw1 hc HK1 HS HM hh0
    generalize ((w1.alloc (.cells #[.int .i64 (D.F k 0), .int .i64 (D.F k 1), .int .i64 (D.F k 2)] 129)).setCell ⟨zw, 3, none⟩ (.int .i64 (D.h + 1))) = W2 at *
    generalize w1.heap.size = zs at *
    obtain ⟨s0, s1, s2⟩ := get3s HS2.out
    go_wp2_with fail
    clear s0 s1 s2
    refine (keep_any zw D.n (D.F k 0) (D.F k 1) (D.F k 2) ⟨v.b, a1, c1⟩ ⟨D.B, D.n - 1, dropK k D.F, D.h + 1⟩ _ _ (by show D.n - 1 ≤ 4; omega) (by show (D.n : Int) = min ((1 + (D.n - 1) : Nat) : Int) 4; omega) HK2.out.room HK2.out.box HK2.out.own).mono ?_
    rintro e w3 ⟨⟨u, rfl⟩, a3, c3, r3, k3, rm3, cp3, m3⟩
    have HK3 : Hid (WK E w3 zw ⟨v.b, a3, c3⟩ ⟨D.B, D.n, consK (D.F k 0) (D.F k 1) (D.F k 2) (dropK k D.F), min (D.h + 1) 1000⟩) := by rw [HH.out]; exact HK2.out.put (fun x hx => Nat.lt_of_lt_of_le (HE.out x hx) HM2.out.size) r3 (k3.mono (fun x hx => Or.inr hx)) rm3 cp3 m3
    have HS3 : Hid (Row w3 zs 3 (fun i => if i = 0 then .int .i64 (D.F k 0) else if i = 1 then .int .i64 (D.F k 1) else .int .i64 (D.F k 2))) := HS2.out.mod m3 (by have := HZ.out; omega)
    have HM3 : Hid (Mod (fun x => x = zw) w w3) := HM2.out.trans m3
    clear r3 k3 rm3 cp3 m3 HK2 HS2 HM2 HH
    obtain ⟨s0, s1, s2⟩ := get3s HS3.out
    by_cases hm : hasMay (D.F k 2) y
    · have HMY : Hid (hasMay (D.F k 2) y) := hm
      have d1 : (bits .and .i64 (D.F k 2) y == y) = true := by rw [show bits .and .i64 (D.F k 2) y = y from hm]; simp
      clear hm
      go_wp2_with fail
      clear s0 s1 s2 d1
      refine (answerOf_any (D.F k 1) true _ hpg).mono ?_
      rintro e w4 ⟨rfl, rfl⟩
      clear HS3 HZ
      go_wp2
      exact bodyPost_ret (v := .int .i64 (1 + D.F k 1)) (by simp [results, Try.results147, go_sem]) rfl ⟨_, _, rfl, Or.inl ⟨HMY.out, rfl⟩, HK3.out, HM3.out⟩
    · have HMY : Hid (¬ hasMay (D.F k 2) y) := hm
      have d1 : (bits .and .i64 (D.F k 2) y == y) = false := by simp; exact hm
      clear hm
      go_wp2_with fail
      clear s0 s1 s2 d1
      refine (answerOf_any (D.F k 1) false _ hpg).mono ?_
      rintro e w4 ⟨rfl, rfl⟩
      clear HS3 HZ
      go_wp2
      exact bodyPost_ret (v := .int .i64 0) (by simp [results, Try.results147, go_sem]) rfl ⟨_, _, rfl, Or.inr ⟨HMY.out, rfl⟩, HK3.out, HM3.out⟩
  · go_upto_region 7 with fail
    obtain ⟨k2, m2⟩ := HK1.out.hits (1000)
    have HK2 : Hid (WK E ((w1.alloc (.cells #[.int .i64 (D.F k 0), .int .i64 (D.F k 1), .int .i64 (D.F k 2)] 129)).setCell ⟨zw, 3, none⟩ (.int .i64 (1000))) zw ⟨v.b, a1, c1⟩ ⟨D.B, D.n - 1, dropK k D.F, 1000⟩) := k2
    have HS2 : Hid (Row ((w1.alloc (.cells #[.int .i64 (D.F k 0), .int .i64 (D.F k 1), .int .i64 (D.F k 2)] 129)).setCell ⟨zw, 3, none⟩ (.int .i64 (1000))) w1.heap.size 3 (fun i => if i = 0 then .int .i64 (D.F k 0) else if i = 1 then .int .i64 (D.F k 1) else .int .i64 (D.F k 2))) := HS.out.mod m2 (by have := HZ.out; omega)
    have HM2 : Hid (Mod (fun x => x = zw) w ((w1.alloc (.cells #[.int .i64 (D.F k 0), .int .i64 (D.F k 1), .int .i64 (D.F k 2)] 129)).setCell ⟨zw, 3, none⟩ (.int .i64 (1000)))) := HM.out.trans m2
    have HH : Hid (min (D.h + 1) 1000 = 1000) := by show min _ _ = _; omega
    clear k2 m2
    clear q3 f3 hw1 hc HK1 HS HM hh0
    generalize ((w1.alloc (.cells #[.int .i64 (D.F k 0), .int .i64 (D.F k 1), .int .i64 (D.F k 2)] 129)).setCell ⟨zw, 3, none⟩ (.int .i64 (1000))) = W2 at *
    generalize w1.heap.size = zs at *
    obtain ⟨s0, s1, s2⟩ := get3s HS2.out
    go_wp2_with fail
    clear s0 s1 s2
    refine (keep_any zw D.n (D.F k 0) (D.F k 1) (D.F k 2) ⟨v.b, a1, c1⟩ ⟨D.B, D.n - 1, dropK k D.F, 1000⟩ _ _ (by show D.n - 1 ≤ 4; omega) (by show (D.n : Int) = min ((1 + (D.n - 1) : Nat) : Int) 4; omega) HK2.out.room HK2.out.box HK2.out.own).mono ?_
    rintro e w3 ⟨⟨u, rfl⟩, a3, c3, r3, k3, rm3, cp3, m3⟩
    have HK3 : Hid (WK E w3 zw ⟨v.b, a3, c3⟩ ⟨D.B, D.n, consK (D.F k 0) (D.F k 1) (D.F k 2) (dropK k D.F), min (D.h + 1) 1000⟩) := by rw [HH.out]; exact HK2.out.put (fun x hx => Nat.lt_of_lt_of_le (HE.out x hx) HM2.out.size) r3 (k3.mono (fun x hx => Or.inr hx)) rm3 cp3 m3
    have HS3 : Hid (Row w3 zs 3 (fun i => if i = 0 then .int .i64 (D.F k 0) else if i = 1 then .int .i64 (D.F k 1) else .int .i64 (D.F k 2))) := HS2.out.mod m3 (by have := HZ.out; omega)
    have HM3 : Hid (Mod (fun x => x = zw) w w3) := HM2.out.trans m3
    clear r3 k3 rm3 cp3 m3 HK2 HS2 HM2 HH
    obtain ⟨s0, s1, s2⟩ := get3s HS3.out
    by_cases hm : hasMay (D.F k 2) y
    · have HMY : Hid (hasMay (D.F k 2) y) := hm
      have d1 : (bits .and .i64 (D.F k 2) y == y) = true := by rw [show bits .and .i64 (D.F k 2) y = y from hm]; simp
      clear hm
      go_wp2_with fail
      clear s0 s1 s2 d1
      refine (answerOf_any (D.F k 1) true _ hpg).mono ?_
      rintro e w4 ⟨rfl, rfl⟩
      clear HS3 HZ
      go_wp2
      exact bodyPost_ret (v := .int .i64 (1 + D.F k 1)) (by simp [results, Try.results147, go_sem]) rfl ⟨_, _, rfl, Or.inl ⟨HMY.out, rfl⟩, HK3.out, HM3.out⟩
    · have HMY : Hid (¬ hasMay (D.F k 2) y) := hm
      have d1 : (bits .and .i64 (D.F k 2) y == y) = false := by simp; exact hm
      clear hm
      go_wp2_with fail
      clear s0 s1 s2 d1
      refine (answerOf_any (D.F k 1) false _ hpg).mono ?_
      rintro e w4 ⟨rfl, rfl⟩
      clear HS3 HZ
      go_wp2
      exact bodyPost_ret (v := .int .i64 0) (by simp [results, Try.results147, go_sem]) rfl ⟨_, _, rfl, Or.inr ⟨HMY.out, rfl⟩, HK3.out, HM3.out⟩
end Go.Proofs.Ytbpdopcdhnemfaa
/- A walker in its box that looks a place up that it has no short way to: the program's. -/
namespace Go.Proofs.Ytbpdopcdhnemfaa
open Go.RowKit
set_option linter.unusedSimpArgs false
set_option linter.unusedVariables false

theorem row3_set {w : World} {z : Nat} {u v x a b c : Value} (h : Row w z 3 (fun i => if i = 0 then u else if i = 1 then v else x)) : Row (((w.setCell ⟨z, 0, none⟩ a).setCell ⟨z, 1, none⟩ b).setCell ⟨z, 2, none⟩ c) z 3 (fun i => if i = 0 then a else if i = 1 then b else c) :=
  (((h.set 0 _).set 1 _).set 2 _).congr (fun i hi => by
    match i, hi with
    | 0, _ => rfl
    | 1, _ => rfl
    | 2, _ => rfl)
set_option maxRecDepth 10000 in
set_option maxHeartbeats 3200000 in
theorem walkW_no (E : Nat → Prop) (zw a : Nat) (v : KV) (D : KD) (y : Int) (w : World) (sp sm : Int) (hsp : sp = (lfP D.B.c D.B.D.p a)) (hsm : sm = (lfP D.B.c D.B.D.m a)) (hG : WG D) (ha : a < 16) (hE : ∀ x, E x → x < w.heap.size) (hat : AtK D (a : Int) D.n) (h : WK E w zw v D) :
    Calls Try.prog 147 #[.pointer (some ⟨zw, 0, none⟩), .int .i64 a, .int .i64 y] w fun e w' => ∃ v' x, e = .returned (.int .i64 x) ∧ ((hasMay sm y ∧ x = 1 + sp) ∨ (¬ hasMay sm y ∧ x = 0)) ∧ ((sm = 0 ∧ WK E w' zw v' D) ∨ (¬ sm = 0 ∧ ∃ k : Nat, k = min (1 + D.n) 4 ∧ WK E w' zw v' ⟨D.B, k, consK a sp sm D.F, D.h⟩)) ∧ Mod (fun x => x = zw) w w' := by
  have hn := hG.n4
  have hpg : 0 ≤ sp ∧ sp ≤ 15 := by
    have := lf_ok hG.g ha
    rw [hsp]; unfold leafOK at this; omega
  have HG : Hid (D.B.Good) := hG.g
  have HK : Hid (WK E w zw v D) := h
  have HK0 : Hid (WK E w zw v D) := h
  have HAT : Hid (∀ j, j < D.n → D.F j 0 ≠ (a : Int)) := fun j hj e => by have := (hat.2 j hj).1 e; omega
  have HE : Hid (∀ x, E x → x < w.heap.size) := hE
  have HSP : Hid ((lfP D.B.c D.B.D.p a) = sp ∧ (lfP D.B.c D.B.D.m a) = sm) := ⟨hsp.symm, hsm.symm⟩
  clear hG hat h hE hsp hsm
  go_enter Try.func147, Try.ntmps147
  go_wp2_with fail
  refine (take_no zw a v D _ _ HAT.out HK.out.box HK.out.own).mono ?_
  rintro e w1 ⟨rfl, hb1⟩
  have hA : Blw w1 (w1.alloc (.cells #[.int .i64 0, .int .i64 0, .int .i64 0] 129)) := (Blw.refl _).alloc _
  replace HK : Hid (WK E (w1.alloc (.cells #[.int .i64 0, .int .i64 0, .int .i64 0] 129)) zw v D) := HK.out.blw (hb1.trans hA)
  have HS : Hid (Row (w1.alloc (.cells #[.int .i64 0, .int .i64 0, .int .i64 0] 129)) w1.heap.size 3 (fun i => if i = 0 then .int .i64 0 else if i = 1 then .int .i64 0 else .int .i64 0)) := box3s w1 _ _ _ 129
  have HB : Hid (Blw w (w1.alloc (.cells #[.int .i64 0, .int .i64 0, .int .i64 0] 129))) := hb1.trans hA
  have HZ : Hid (w.heap.size ≤ w1.heap.size) := hb1.size
  clear hb1 hA HAT
  obtain ⟨q0, q1, -, -⟩ := get4 HK.out.box
  go_wp2_with fail
  clear q0 q1
  generalize (w1.alloc (.cells #[.int .i64 0, .int .i64 0, .int .i64 0] 129)) = W1 at *
  generalize w1.heap.size = zs at *
  refine (hold_any v.b D.B _ _ HK.out.tab.at (fun x hx => hx.1.2.1)).mono ?_
  rintro e w2 ⟨⟨zl, -, rfl, hrl, -⟩ | ⟨hng, -⟩, hb2⟩
  case inr => exact absurd HG.out hng
  have hA : Blw w2 (w2.alloc (.cells (held5 D.B.c zl D.B.D.n) 136)) := (Blw.refl _).alloc _
  have HR5 : Hid (Row (w2.alloc (.cells (held5 D.B.c zl D.B.D.n) 136)) w2.heap.size 5 (row5f D.B.c (.slice (some ⟨zl, 0, none⟩) D.B.D.n D.B.D.n))) := row5 w2 (.int .i64 (D.B.c 0)) (.int .i64 (D.B.c 1)) (.int .i64 (D.B.c 2)) (.int .i64 (D.B.c 3)) (.slice (some ⟨zl, 0, none⟩) D.B.D.n D.B.D.n) 136
  have HRL : Hid (Row (w2.alloc (.cells (held5 D.B.c zl D.B.D.n) 136)) zl (D.B.D.n * 8) (lc D.B.D.p D.B.D.m)) := hrl.blw hA
  replace HK : Hid (WK E (w2.alloc (.cells (held5 D.B.c zl D.B.D.n) 136)) zw v D) := HK.out.blw (hb2.trans hA)
  replace HS : Hid (Row (w2.alloc (.cells (held5 D.B.c zl D.B.D.n) 136)) zs 3 (fun i => if i = 0 then .int .i64 0 else if i = 1 then .int .i64 0 else .int .i64 0)) := HS.out.blw (hb2.trans hA)
  replace HB : Hid (Blw w (w2.alloc (.cells (held5 D.B.c zl D.B.D.n) 136))) := HB.out.trans (hb2.trans hA)
  clear hb2 hA hrl
  obtain ⟨p0, p1, p2, p3, p4⟩ := get5 HR5.out
  go_wp2_with fail
  clear p0 p1 p2 p3 p4 HR5
  refine (shortTo_any D.B.c zl D.B.D.n D.B.D.p D.B.D.m a _ HG.out.k.2 (fun i hi => HG.out.top i (by rw [HG.out.n]; exact hi)) ha HRL.out).mono ?_
  rw [HSP.out.1, HSP.out.2]
  rintro e w3 ⟨rfl, hb3⟩
  replace HK : Hid (WK E w3 zw v D) := HK.out.blw hb3
  replace HS : Hid (Row w3 zs 3 (fun i => if i = 0 then .int .i64 0 else if i = 1 then .int .i64 0 else .int .i64 0)) := HS.out.blw hb3
  replace HB : Hid (Blw w w3) := HB.out.trans hb3
  clear hb3 HRL HG HSP
  obtain ⟨t0, t1, t2⟩ := get3s HS.out
  have f0 := HS.out.frozen 0
  have f1 := HS.out.frozen 1
  have f2 := HS.out.frozen 2
  have HB4 : Hid (Blw w (((w3.setCell ⟨zs, 0, none⟩ (.int .i64 a)).setCell ⟨zs, 1, none⟩ (.int .i64 sp)).setCell ⟨zs, 2, none⟩ (.int .i64 sm))) := set3_blw HB.out HZ.out _ _ _
  have HK4 : Hid (WK E (((w3.setCell ⟨zs, 0, none⟩ (.int .i64 a)).setCell ⟨zs, 1, none⟩ (.int .i64 sp)).setCell ⟨zs, 2, none⟩ (.int .i64 sm)) zw v D) := HK0.out.blw HB4.out
  have HS4 : Hid (Row (((w3.setCell ⟨zs, 0, none⟩ (.int .i64 a)).setCell ⟨zs, 1, none⟩ (.int .i64 sp)).setCell ⟨zs, 2, none⟩ (.int .i64 sm)) zs 3 (fun i => if i = 0 then .int .i64 a else if i = 1 then .int .i64 sp else .int .i64 sm)) := row3_set HS.out
  clear HK HS HB
  by_cases h0 : sm = 0
  · have HSM : Hid (sm = 0) := h0
    have d0 : (sm != 0) = false := by simp; exact h0
    clear h0
    go_upto_region 8 with fail
    clear t0 t1 t2 f0 f1 f2 d0
    generalize (((w3.setCell ⟨zs, 0, none⟩ (.int .i64 a)).setCell ⟨zs, 1, none⟩ (.int .i64 sp)).setCell ⟨zs, 2, none⟩ (.int .i64 sm)) = W4 at *
    have HM : Hid (Mod (fun x => x = zw) w W4) := HB4.out.mod _
    have HS : Hid (Row W4 zs 3 (fun i => if i = 0 then .int .i64 a else if i = 1 then .int .i64 sp else .int .i64 sm)) := HS4.out
    obtain ⟨s0, s1, s2⟩ := get3s HS.out
    by_cases hm : hasMay sm y
    · have HMY : Hid (hasMay sm y) := hm
      have d1 : (bits .and .i64 sm y == y) = true := by rw [show bits .and .i64 sm y = y from hm]; simp
      clear hm
      go_wp2_with fail
      clear s0 s1 s2 d1
      refine (answerOf_any sp true _ hpg).mono ?_
      rintro e w6 ⟨rfl, rfl⟩
      clear HS
      go_wp2
      exact bodyPost_ret (v := .int .i64 (1 + sp)) (by simp [results, Try.results147, go_sem]) rfl ⟨_, _, rfl, Or.inl ⟨HMY.out, rfl⟩, Or.inl ⟨HSM.out, HK4.out⟩, HM.out⟩
    · have HMY : Hid (¬ hasMay sm y) := hm
      have d1 : (bits .and .i64 sm y == y) = false := by simp; exact hm
      clear hm
      go_wp2_with fail
      clear s0 s1 s2 d1
      refine (answerOf_any sp false _ hpg).mono ?_
      rintro e w6 ⟨rfl, rfl⟩
      clear HS
      go_wp2
      exact bodyPost_ret (v := .int .i64 0) (by simp [results, Try.results147, go_sem]) rfl ⟨_, _, rfl, Or.inr ⟨HMY.out, rfl⟩, Or.inl ⟨HSM.out, HK4.out⟩, HM.out⟩
  · have HSM : Hid (¬ sm = 0) := h0
    have d0 : (sm != 0) = true := by simp; exact h0
    clear h0
    go_upto_region 7 with fail
    clear t0 t1 t2 f0 f1 f2 d0
    generalize (((w3.setCell ⟨zs, 0, none⟩ (.int .i64 a)).setCell ⟨zs, 1, none⟩ (.int .i64 sp)).setCell ⟨zs, 2, none⟩ (.int .i64 sm)) = W4 at *
    have HM4 : Hid (Mod (fun x => x = zw) w W4) := HB4.out.mod _
    obtain ⟨s0, s1, s2⟩ := get3s HS4.out
    go_wp2_with fail
    clear s0 s1 s2
    obtain ⟨k, hk⟩ : ∃ k : Nat, k = min (1 + D.n) 4 := ⟨_, rfl⟩
    refine (keep_any zw k a sp sm v D _ _ hn (by omega) HK4.out.room HK4.out.box HK4.out.own).mono ?_
    rintro e w5 ⟨⟨u, rfl⟩, a3, c3, r3, k3, rm3, cp3, m3⟩
    have HK5 : Hid (∃ k : Nat, k = min (1 + D.n) 4 ∧ WK E w5 zw ⟨v.b, a3, c3⟩ ⟨D.B, k, consK a sp sm D.F, D.h⟩) := ⟨k, hk, HK4.out.put (fun x hx => Nat.lt_of_lt_of_le (HE.out x hx) HM4.out.size) r3 (k3.mono (fun x hx => Or.inr hx)) rm3 cp3 m3⟩
    have HS : Hid (Row w5 zs 3 (fun i => if i = 0 then .int .i64 a else if i = 1 then .int .i64 sp else .int .i64 sm)) := HS4.out.mod m3 (by have := HK0.out.box.lt; have := HZ.out; omega)
    have HM : Hid (Mod (fun x => x = zw) w w5) := HM4.out.trans m3
    clear r3 k3 rm3 cp3 m3 HK4 HS4 HM4 HB4 hk
    obtain ⟨s0, s1, s2⟩ := get3s HS.out
    by_cases hm : hasMay sm y
    · have HMY : Hid (hasMay sm y) := hm
      have d1 : (bits .and .i64 sm y == y) = true := by rw [show bits .and .i64 sm y = y from hm]; simp
      clear hm
      go_wp2_with fail
      clear s0 s1 s2 d1
      refine (answerOf_any sp true _ hpg).mono ?_
      rintro e w6 ⟨rfl, rfl⟩
      clear HS
      go_wp2
      exact bodyPost_ret (v := .int .i64 (1 + sp)) (by simp [results, Try.results147, go_sem]) rfl ⟨_, _, rfl, Or.inl ⟨HMY.out, rfl⟩, Or.inr ⟨HSM.out, HK5.out⟩, HM.out⟩
    · have HMY : Hid (¬ hasMay sm y) := hm
      have d1 : (bits .and .i64 sm y == y) = false := by simp; exact hm
      clear hm
      go_wp2_with fail
      clear s0 s1 s2 d1
      refine (answerOf_any sp false _ hpg).mono ?_
      rintro e w6 ⟨rfl, rfl⟩
      clear HS
      go_wp2
      exact bodyPost_ret (v := .int .i64 0) (by simp [results, Try.results147, go_sem]) rfl ⟨_, _, rfl, Or.inr ⟨HMY.out, rfl⟩, Or.inr ⟨HSM.out, HK5.out⟩, HM.out⟩
end Go.Proofs.Ytbpdopcdhnemfaa
/- The laws' functions on lists of Ws. -/
namespace Go.Proofs.Ytbpdopcdhnemfaa
open Go.RowKit
set_option linter.unusedSimpArgs false
set_option linter.unusedVariables false
theorem infoWs : (Try.prog.info? 42).map (fun i => (i.zero, i.size, i.bytes)) = some (some (.agg #[.int .i64 0, .int .i64 0, .int .i64 0, .int .i64 0]), 4, 32) := by kernel_rfl
theorem mkWs (n : Nat) (hn : n ≤ 1048576) (w : World) : (Instr.makeSlice 23 (.int .i64 n) (.int .i64 n)).run Try.prog w = .ok (.slice (some ⟨w.heap.size, 0, none⟩) n n) (w.alloc (.cells (madeCells #[.int .i64 0, .int .i64 0, .int .i64 0, .int .i64 0] (n * 4)) 42)) := by
  obtain ⟨i0, hi, hz0, hz1, hz2⟩ := info_parts infoWs
  have h := run_make (P := Try.prog) w 23 42 i0 (.agg #[.int .i64 0, .int .i64 0, .int .i64 0, .int .i64 0]) Try.underlying23 hi hz0 .i64 .i64 (n : Int) (n : Int) (by omega) (Int.le_refl _) (by rw [hz2]; omega) (by omega)
  simpa [hz1, Value.cells] using h
set_option maxHeartbeats 400000 in
theorem szWs_any (ao : Option Addr) (c n : Nat) (left : Int) (w : World) (hn : n ≤ 9223372036854775807) (h0 : 0 ≤ left) (h1 : left ≤ 1048576) :
    Calls Try.prog 58 #[.slice ao n c, .int .i64 left] w fun e w' => ∃ r : Int, e = .returned (.int .i64 r) ∧ Left left n r ∧ Blw w w' := by
  by_cases h : left - n < 0
  · go_enter Try.func58, Try.ntmps58
    go_wp2
    go_ret
    exact ⟨_, rfl, Or.inl rfl, Blw.refl _⟩
  · go_enter Try.func58, Try.ntmps58
    go_wp2
    go_ret
    exact ⟨_, rfl, Or.inr ⟨by omega, by omega⟩, Blw.refl _⟩
set_option maxHeartbeats 800000 in
theorem toWs1_any (x0 x1 x2 x3 : Int) (w : World) : Calls Try.prog 132 #[.agg #[.int .i64 x0, .int .i64 x1, .int .i64 x2, .int .i64 x3]] w fun e w' => e = .returned (.agg #[.int .i64 x0, .int .i64 x1, .int .i64 x2, .int .i64 x3]) ∧ Blw w w' := by
  go_enter Try.func132, Try.ntmps132
  go_wp2
  refine bodyPost_ret (v := (.agg #[.int .i64 x0, .int .i64 x1, .int .i64 x2, .int .i64 x3])) (by simp [results, Try.results132, go_sem]) rfl ⟨rfl, ?_⟩
  exact (((Blw.refl _).alloc _).alloc _).alloc _
set_option maxHeartbeats 1600000 in
theorem toWs_any (ao : Option Addr) (c n : Nat) (F : Nat → Nat → Int) (Y : Nat → Prop) (w : World) (hn : n ≤ 1048576) (h : KAt 4 Y w ao n F) :
    Calls Try.prog 59 #[.slice ao n c] w fun e w' => e = .returned (.slice (some ⟨w.heap.size, 0, none⟩) n n) ∧ Row w' w.heap.size (n * 4) (kc 4 F) ∧ Blw w w' := by
  have H : Hid (KAt 4 Y w ao n F) := h
  clear h
  have hmk := mkWs n hn
  go_enter Try.func59, Try.ntmps59
  go_wp2
  clear hmk
  go_loopw [4] (fun i wr => ∃ j : Nat, j ≤ n ∧ i = .int .i64 j ∧ Row wr w.heap.size (n * 4) (kc 4 (upK F (fun _ _ => 0) j)) ∧ Blw w wr) (fun i _ => n - (intOf i).toNat)
  case atStart => exact ⟨0, Nat.zero_le _, rfl, (Row.madeK w #[.int .i64 0, .int .i64 0, .int .i64 0, .int .i64 0] (.int .i64 0) (fun i hi => by
    match i, hi with
    | 0, _ => rfl
    | 1, _ => rfl
    | 2, _ => rfl
    | 3, _ => rfl
    ) (by decide) (n * 4) 42).congr (fun i _ => by rw [upK_zero]; rfl), (Blw.refl _).alloc _⟩
  case round =>
    obtain ⟨j, hj, rfl, hr, hb⟩ := hrel
    have HR : Hid (Row wr w.heap.size (n * 4) (kc 4 (upK F (fun _ _ => 0) j))) := hr
    have HB : Hid (Blw w wr) := hb
    clear hr hb
    by_cases hlt : j < n
    · obtain ⟨b, o, rfl, -, g⟩ := (H.out.blw HB.out).2 j hlt
      have g0 := g 0 (by omega)
      have g1 := g 1 (by omega)
      have g2 := g 2 (by omega)
      have g3 := g 3 (by omega)
      have hlt' : (j : Int) < n := by omega
      clear g H
      rw [Nat.add_zero] at g0
      go_wp2_with fail
      refine (toWs1_any _ _ _ _ _).mono ?_
      rintro e w1 ⟨rfl, hb1⟩
      clear g0 g1 g2 g3
      have HR1 : Hid (Row w1 w.heap.size (n * 4) (kc 4 (upK F (fun _ _ => 0) j))) := HR.out.blw hb1
      have HB1 : Hid (Blw w w1) := HB.out.trans hb1
      clear HR HB hb1
      have p0 := k_get HR1.out hlt (c := 0) (by omega)
      have f0 := HR1.out.frozen (j * 4)
      have p1 := k_get HR1.out hlt (c := 1) (by omega)
      have f1 := HR1.out.frozen (j * 4 + 1)
      have p2 := k_get HR1.out hlt (c := 2) (by omega)
      have f2 := HR1.out.frozen (j * 4 + 2)
      have p3 := k_get HR1.out hlt (c := 3) (by omega)
      have f3 := HR1.out.frozen (j * 4 + 3)
      rw [Nat.add_zero] at p0
      have HS : Hid (Row ((((w1.setCell ⟨w.heap.size, j * 4, none⟩ (.int .i64 (F j 0))).setCell ⟨w.heap.size, j * 4 + 1, none⟩ (.int .i64 (F j 1))).setCell ⟨w.heap.size, j * 4 + 2, none⟩ (.int .i64 (F j 2))).setCell ⟨w.heap.size, j * 4 + 3, none⟩ (.int .i64 (F j 3))) w.heap.size (n * 4) (kc 4 (upK F (fun _ _ => 0) (j + 1)))) := by
        have hq := (setK (setK (setK (setK HR1.out j (c := 0) (by omega) (F j 0)) j (c := 1) (by omega) (F j 1)) j (c := 2) (by omega) (F j 2)) j (c := 3) (by omega) (F j 3))
        rw [Nat.add_zero] at hq
        refine hq.congr (fun t ht => ?_)
        have ht2 : t % 4 < 4 := Nat.mod_lt _ (by omega)
        unfold kc updF upK
        by_cases e : t / 4 = j
        · simp only [e, true_and, Nat.lt_succ_self, if_true]
          rcases (show t % 4 = 0 ∨ t % 4 = 1 ∨ t % 4 = 2 ∨ t % 4 = 3 by omega) with e2 | e2 | e2 | e2 <;> simp [e2]
        · have e3 : (t / 4 < j + 1) = (t / 4 < j) := by simp; omega
          simp [e, e3]
      have HBF : Hid (Blw w ((((w1.setCell ⟨w.heap.size, j * 4, none⟩ (.int .i64 (F j 0))).setCell ⟨w.heap.size, j * 4 + 1, none⟩ (.int .i64 (F j 1))).setCell ⟨w.heap.size, j * 4 + 2, none⟩ (.int .i64 (F j 2))).setCell ⟨w.heap.size, j * 4 + 3, none⟩ (.int .i64 (F j 3)))) := ((((HB1.out.setCell (Nat.le_refl _) _).setCell (Nat.le_refl _) _).setCell (Nat.le_refl _) _).setCell (Nat.le_refl _) _)
      clear HR1 HB1
      go_wp2
      go_roundw
      case rel => exact ⟨j + 1, by omega, by go_num, HS.out, HBF.out⟩
      case measure => simp [intOf]; omega
    · go_wp2
      go_ret
      obtain rfl : j = n := by omega
      refine ⟨rfl, HR.out.congr fun i hi => ?_, HB.out⟩
      have : i / 4 < j := Nat.div_lt_of_lt_mul (by rw [Nat.mul_comm]; exact hi)
      simp [kc, upK, this]
set_option maxHeartbeats 800000 in
theorem eqWs1_same (x0 x1 x2 x3 : Int) (w : World) : Calls Try.prog 135 #[.agg #[.int .i64 x0, .int .i64 x1, .int .i64 x2, .int .i64 x3], .agg #[.int .i64 x0, .int .i64 x1, .int .i64 x2, .int .i64 x3]] w fun e w' => e = .returned (.bool true) ∧ Blw w w' := by
  have h0 : (x0 != x0) = false := by simp
  have h1 : (x1 != x1) = false := by simp
  have h2 : (x2 != x2) = false := by simp
  have h3 : (x3 != x3) = false := by simp
  go_enter Try.func135, Try.ntmps135
  go_wp2
  go_ret
  exact ⟨rfl, ((Blw.refl _).alloc _).alloc _⟩
set_option maxHeartbeats 1600000 in
theorem eqWs_same (a1 a2 : Option Addr) (c1 c2 n : Nat) (F : Nat → Nat → Int) {X Y : Nat → Prop} (w : World) (h1 : KAt 4 X w a1 n F) (h2 : KAt 4 Y w a2 n F) :
    Calls Try.prog 62 #[.slice a1 n c1, .slice a2 n c2] w fun e w' => e = .returned (.bool true) ∧ Blw w w' := by
  have H1 : Hid (KAt 4 X w a1 n F) := h1
  have H2 : Hid (KAt 4 Y w a2 n F) := h2
  have hn := h1.1
  clear h1 h2
  have hne : ((n : Int) != (n : Int)) = false := by simp
  go_enter Try.func62, Try.ntmps62
  go_wp2_with fail
  go_loopw [5] (fun i wr => ∃ k : Nat, k ≤ n ∧ i = .int .i64 k ∧ Blw w wr) (fun i _ => n - (intOf i).toNat)
  case atStart => exact ⟨0, Nat.zero_le _, rfl, Blw.refl _⟩
  case round =>
    obtain ⟨k, hk, rfl, hb⟩ := hrel
    by_cases hlt : k < n
    · have hlt' : (k : Int) < n := by omega
      obtain ⟨b1, o1, rfl, -, g1⟩ := (H1.out.blw hb).2 k hlt
      obtain ⟨b2, o2, rfl, -, g2⟩ := (H2.out.blw hb).2 k hlt
      generalize hFk : F k = Fk at *
      have P0 : ∀ w', Blw wr w' → w'.cell? ⟨b1, o1 + k * 4, none⟩ = some (.int .i64 (Fk 0)) := fun w' hh => hh.cell (g1 0 (by omega))
      have Q0 : ∀ w', Blw wr w' → w'.cell? ⟨b2, o2 + k * 4, none⟩ = some (.int .i64 (Fk 0)) := fun w' hh => hh.cell (g2 0 (by omega))
      have P1 : ∀ w', Blw wr w' → w'.cell? ⟨b1, o1 + k * 4 + 1, none⟩ = some (.int .i64 (Fk 1)) := fun w' hh => hh.cell (g1 1 (by omega))
      have Q1 : ∀ w', Blw wr w' → w'.cell? ⟨b2, o2 + k * 4 + 1, none⟩ = some (.int .i64 (Fk 1)) := fun w' hh => hh.cell (g2 1 (by omega))
      have P2 : ∀ w', Blw wr w' → w'.cell? ⟨b1, o1 + k * 4 + 2, none⟩ = some (.int .i64 (Fk 2)) := fun w' hh => hh.cell (g1 2 (by omega))
      have Q2 : ∀ w', Blw wr w' → w'.cell? ⟨b2, o2 + k * 4 + 2, none⟩ = some (.int .i64 (Fk 2)) := fun w' hh => hh.cell (g2 2 (by omega))
      have P3 : ∀ w', Blw wr w' → w'.cell? ⟨b1, o1 + k * 4 + 3, none⟩ = some (.int .i64 (Fk 3)) := fun w' hh => hh.cell (g1 3 (by omega))
      have Q3 : ∀ w', Blw wr w' → w'.cell? ⟨b2, o2 + k * 4 + 3, none⟩ = some (.int .i64 (Fk 3)) := fun w' hh => hh.cell (g2 3 (by omega))
      have HB : Hid (Blw w wr) := hb
      clear g1 g2 H1 H2 hb hFk
      go_wp2_with fail
      go_region_held3 (fun w' => Blw wr w') ((first | exact (Blw.refl _).drew | assumption | exact Blw.trans (by assumption) (by assumption))) (first
        | (go_at_call 135; refine (eqWs1_same (Fk 0) (Fk 1) (Fk 2) (Fk 3) _).mono ?_; rintro e w7 ⟨rfl, hb7⟩))
      all_goals go_wp2
      all_goals go_roundw
      all_goals first | exact ⟨k + 1, by omega, by go_num, HB.out.trans (by assumption)⟩ | (simp [intOf]; omega)
    · obtain rfl : k = n := by omega
      go_wp2
      go_ret
      exact ⟨rfl, hb⟩
set_option maxHeartbeats 3200000 in
theorem markWs_any (ao : Option Addr) (c n : Nat) (F : Nat → Nat → Int) (X : Nat → Prop) (k : Int) (w : World) (h1 : 0 ≤ k) (h2 : k + 4 * n ≤ 9223372036854775807) (h : KOwn 4 X w ao n F) :
    Calls Try.prog 63 #[.slice ao n c, .int .i64 k] w fun e w' => e = .returned (.int .i64 (k + 4 * n)) ∧ KOwn 4 X w' ao n (mkK 4 k) ∧ Mod X w w' := by
  have H : Hid (KOwn 4 X w ao n F) := h
  have hn := h.1
  clear h
  go_enter Try.func63, Try.ntmps63
  go_wp2_with fail
  go_loopw [1, 5] (fun kv iv wr => ∃ i : Nat, i ≤ n ∧ iv = .int .i64 i ∧ kv = .int .i64 (k + 4 * i) ∧ KOwn 4 X wr ao n (upK (mkK 4 k) F i) ∧ Mod X w wr) (fun _ i _ => n - (intOf i).toNat)
  case atStart => exact ⟨0, Nat.zero_le _, rfl, by simp, by rw [upK_zero]; exact H.out, Mod.refl _ _⟩
  case round =>
    obtain ⟨i, hi, rfl, rfl, S, hm⟩ := hrel
    clear H
    by_cases hlt : i < n
    · have hlt' : (i : Int) < n := by omega
      obtain ⟨b, hx, rfl, r⟩ := S.2 (by omega)
      have p0 := k_get r hlt (c := 0) (by omega)
      have f0 := r.frozen (i * 4)
      have p1 := k_get r hlt (c := 1) (by omega)
      have f1 := r.frozen (i * 4 + 1)
      have p2 := k_get r hlt (c := 2) (by omega)
      have f2 := r.frozen (i * 4 + 2)
      have p3 := k_get r hlt (c := 3) (by omega)
      have f3 := r.frozen (i * 4 + 3)
      rw [Nat.add_zero] at p0
      have HR : Hid (Row ((((wr.setCell ⟨b, i * 4, none⟩ (.int .i64 (k + 4 * i))).setCell ⟨b, i * 4 + 1, none⟩ (.int .i64 (k + 4 * i + 1))).setCell ⟨b, i * 4 + 2, none⟩ (.int .i64 (k + 4 * i + 1 + 1))).setCell ⟨b, i * 4 + 3, none⟩ (.int .i64 (k + 4 * i + 1 + 1 + 1))) b (n * 4) (kc 4 (upK (mkK 4 k) F (i + 1)))) := by
        have hq := (setK (setK (setK (setK r i (c := 0) (by omega) (k + 4 * i)) i (c := 1) (by omega) (k + 4 * i + 1)) i (c := 2) (by omega) (k + 4 * i + 1 + 1)) i (c := 3) (by omega) (k + 4 * i + 1 + 1 + 1))
        rw [Nat.add_zero] at hq
        refine hq.congr (fun t ht => ?_)
        have ht2 : t % 4 < 4 := Nat.mod_lt _ (by omega)
        unfold kc updF upK mkK
        by_cases e : t / 4 = i
        · simp only [e, true_and, Nat.lt_succ_self, if_true]
          rcases (show t % 4 = 0 ∨ t % 4 = 1 ∨ t % 4 = 2 ∨ t % 4 = 3 by omega) with e2 | e2 | e2 | e2 <;> simp [e2] <;> omega
        · have e3 : (t / 4 < i + 1) = (t / 4 < i) := by simp; omega
          simp [e, e3]
      have HM : Hid (Mod X w ((((wr.setCell ⟨b, i * 4, none⟩ (.int .i64 (k + 4 * i))).setCell ⟨b, i * 4 + 1, none⟩ (.int .i64 (k + 4 * i + 1))).setCell ⟨b, i * 4 + 2, none⟩ (.int .i64 (k + 4 * i + 1 + 1))).setCell ⟨b, i * 4 + 3, none⟩ (.int .i64 (k + 4 * i + 1 + 1 + 1)))) := ((((hm.trans (Mod.setCell _ (p := ⟨b, i * 4, none⟩) hx _)).trans (Mod.setCell _ (p := ⟨b, i * 4 + 1, none⟩) hx _)).trans (Mod.setCell _ (p := ⟨b, i * 4 + 2, none⟩) hx _)).trans (Mod.setCell _ (p := ⟨b, i * 4 + 3, none⟩) hx _))
      clear S hm r
      have ee : k + 4 * (i : Int) + 1 + 1 + 1 + 1 = k + 4 * ((i + 1 : Nat) : Int) := by omega
      go_wp2
      go_roundw
      case rel => exact ⟨i + 1, by omega, by go_num, by congr 1 <;> omega, ⟨hn, fun _ => ⟨b, hx, rfl, HR.out⟩⟩, HM.out⟩
      case measure => simp [intOf]; omega
    · obtain rfl : i = n := by omega
      go_wp2
      go_ret
      exact ⟨rfl, upK_all (by omega) S, hm⟩
end Go.Proofs.Ytbpdopcdhnemfaa
/- New tables: the model's. -/
namespace Go.Proofs.Ytbpdopcdhnemfaa
open Go.RowKit
set_option linter.unusedSimpArgs false
set_option linter.unusedVariables false
theorem mkU4 (w : World) : (Instr.makeSlice 186 (.int .i64 4) (.int .i64 4)).run Try.prog w = .ok (.slice (some ⟨w.heap.size, 0, none⟩) 4 4) (w.alloc (.cells (madeCells #[.int .i64 0, .int .i64 0] 8) 189)) := mkUndos 4 (by omega) w
theorem uc_zero : uc (fun _ => 0) (fun _ => 0) = fun _ => Value.int .i64 0 := by
  funext i
  unfold uc
  split <;> rfl
theorem row_m1 (w : World) (t : TypeId) : Row (w.alloc (.cells #[.int .i64 (-1), .int .i64 (-1), .int .i64 (-1), .int .i64 (-1)] t)) w.heap.size 4 (fun _ => .int .i64 (-1)) :=
  ⟨_, t, heap_alloc_new _ _, by simp, fun i hi => by
    match i, hi with
    | 0, _ => rfl
    | 1, _ => rfl
    | 2, _ => rfl
    | 3, _ => rfl⟩
set_option maxRecDepth 10000 in
set_option maxHeartbeats 3200000 in
theorem specNew_any (k : Int) (w : World) : Calls Try.prog 84 #[.int .i64 k] w (GivesB (resT (cntOK k) (newB k)) w) := by
  have hb0 : Blw w (w.alloc (.cells #[.slice none 0 0, .slice none 0 0] 29)) := (Blw.refl _).alloc _
  have r0 := box2 w (.slice none 0 0) (.slice none 0 0) 29
  have hsz : (w.alloc (.cells #[.slice none 0 0, .slice none 0 0] 29)).heap.size = w.heap.size + 1 := by simp
  go_enter Try.func84, Try.ntmps84
  go_wp2_with fail
  revert hb0 r0 hsz
  generalize w.alloc (.cells #[.slice none 0 0, .slice none 0 0] 29) = w0
  intro hb0 r0 hsz
  refine (l1In_any k 1 4 _).mono ?_
  rintro e w0 ⟨r, rfl, hr, rfl⟩
  have HT : Hid (r = true ↔ cntOK k) := hr
  clear hr
  obtain ⟨t0, t1⟩ := get2 r0
  have f0 := r0.frozen 0
  have f1 := r0.frozen 1
  cases r
  · have HN : Hid (¬ cntOK k) := fun g => by have := HT.out.2 g; simp at this
    clear HT r0
    go_wp2
    exact bodyPost_ret (v := .tuple #[BV.zero.val BD.zero, .bool false]) (by simp [results, Try.results84, go_sem, t0, t1]) rfl (zero_givesT (z := w.heap.size) (Nat.le_refl _) (Or.inr ⟨HN.out, rfl, rfl⟩) hb0)
  have hc : cntOK k := HT.out.1 (by first | rfl | trivial)
  clear HT t0 t1 f0 f1
  obtain ⟨kn, hk, hk1, hk4⟩ : ∃ kn : Nat, k = kn ∧ 1 ≤ kn ∧ kn ≤ 4 := ⟨k.toNat, by unfold cntOK at hc; omega, by unfold cntOK at hc; omega, by unfold cntOK at hc; omega⟩
  subst hk
  have HC : Hid (cntOK (kn : Int)) := hc
  have hA1 : Blw w0 (w0.alloc (.cells #[.int .i64 (-1), .int .i64 (-1), .int .i64 (-1), .int .i64 (-1)] 3)) := (Blw.refl _).alloc _
  have hA2 : Blw (w0.alloc (.cells #[.int .i64 (-1), .int .i64 (-1), .int .i64 (-1), .int .i64 (-1)] 3)) ((w0.alloc (.cells #[.int .i64 (-1), .int .i64 (-1), .int .i64 (-1), .int .i64 (-1)] 3)).alloc (.cells #[.slice (some ⟨w0.heap.size, 0, none⟩) 4 4, .slice none 0 0] 29)) := (Blw.refl _).alloc _
  have hR4 := (row_m1 w0 3).blw hA2
  have hBX := box2 (w0.alloc (.cells #[.int .i64 (-1), .int .i64 (-1), .int .i64 (-1), .int .i64 (-1)] 3)) (.slice (some ⟨w0.heap.size, 0, none⟩) 4 4) (.slice none 0 0) 29
  rw [World.size_alloc] at hBX
  have hB := hb0.trans (hA1.trans hA2)
  have hR := r0.blw (hA1.trans hA2)
  have HZ : Hid (w0.heap.size = w.heap.size + 1) := hsz
  clear hc hb0 r0 hA1 hA2 hsz
  go_wp2_with fail
  revert hR4 hBX hB hR
  generalize ((w0.alloc (.cells #[.int .i64 (-1), .int .i64 (-1), .int .i64 (-1), .int .i64 (-1)] 3)).alloc (.cells #[.slice (some ⟨w0.heap.size, 0, none⟩) 4 4, .slice none 0 0] 29)) = W
  intro hR4 hBX hB hR
  go_loopw [0] (fun i wr => ∃ j : Nat, j ≤ kn ∧ i = .int .i64 ((kn : Int) - j) ∧ ∃ v A C ZB Z, Row wr (w0.heap.size + 1) 2 (fun i => if i = 0 then .slice (some ⟨w0.heap.size, 0, none⟩) 4 4 else v) ∧ Tl (w0.heap.size + 1 + 1) wr v j A C zz zz ZB Z ∧ Row wr w0.heap.size 4 (fun _ => .int .i64 (-1)) ∧ Row wr w.heap.size 2 (fun i => if i = 0 then .slice none 0 0 else .slice none 0 0) ∧ Blw w wr) (fun i _ => (intOf i).toNat)
  case atStart => exact ⟨0, Nat.zero_le _, by go_num, _, _, _, _, _, hBX, Tl.nil _ _ _ _, hR4, hR, hB⟩
  case round =>
    clear hR4 hBX hB hR
    obtain ⟨j, hj, rfl, v, A, C, ZB, Z, hbx, htl, hr4, hr, hb⟩ := hrel
    have HR4 : Hid (Row wr w0.heap.size 4 (fun _ => .int .i64 (-1))) := hr4
    have HR : Hid (Row wr w.heap.size 2 (fun i => if i = 0 then .slice none 0 0 else .slice none 0 0)) := hr
    have HB : Hid (Blw w wr) := hb
    have HTL : Hid (Tl (w0.heap.size + 1 + 1) wr v j A C zz zz ZB Z) := htl
    have HBX : Hid (Row wr (w0.heap.size + 1) 2 (fun i => if i = 0 then .slice (some ⟨w0.heap.size, 0, none⟩) 4 4 else v)) := hbx
    clear hr4 hr hb htl hbx
    by_cases hlt : j < kn
    · have hlt' : (kn : Int) - j > 0 := by omega
      go_upto_region 6 with fail
      replace HR4 : Hid (Row wr.drew w0.heap.size 4 (fun _ => .int .i64 (-1))) := HR4.out.blw (Blw.refl _).drew
      replace HR : Hid (Row wr.drew w.heap.size 2 (fun i => if i = 0 then .slice none 0 0 else .slice none 0 0)) := HR.out.blw (Blw.refl _).drew
      replace HB : Hid (Blw w wr.drew) := HB.out.drew
      replace HTL : Hid (Tl (w0.heap.size + 1 + 1) wr.drew v j A C zz zz ZB Z) := HTL.out.go (Blw.refl _).drew
      replace HBX : Hid (Row wr.drew (w0.heap.size + 1) 2 (fun i => if i = 0 then .slice (some ⟨w0.heap.size, 0, none⟩) 4 4 else v)) := HBX.out.blw (Blw.refl _).drew
      have P1 : ∀ w', Row w' (w0.heap.size + 1) 2 (fun i => if i = 0 then .slice (some ⟨w0.heap.size, 0, none⟩) 4 4 else v) → w'.cell? ⟨w0.heap.size + 1, 1, none⟩ = some v := fun w' hh => (get2 hh).2
      have hmk := mkU4
      have pa := P1 _ HBX.out
      have pb := P1 _ (HBX.out.blw ((Blw.refl wr.drew).alloc (.cells (madeCells #[.int .i64 0, .int .i64 0] 8) 189)))
      have pc := P1 _ (HBX.out.blw (((Blw.refl wr.drew).alloc (.cells (madeCells #[.int .i64 0, .int .i64 0] 8) 189)).alloc (.cells #[.slice (some ⟨wr.drew.heap.size, 0, none⟩) 4 4] 186)))
      refine wp_region_noPanic ?_
      refine wp_region_held_drew (S := fun _ => True) (by kernel_rfl) trivial (fun hB => ?_)
      clear hB
      generalize wr.drew = wd at *
      refine wpAnyH_take (i := 0) (oi := { dst := some 15, op := Op.fieldAddr 29 (Operand.tmp 4) 1, type := 0, pos := _, after := #[], guard := none }) (v := (.pointer (some ⟨w0.heap.size + 1, 1, none⟩))) rfl (by kernel_rfl) (by kernel_rfl) (by kernel_rfl) (fun _ _ _ h => h) (Or.inl ⟨by rfl, fun w' hS => by (try dsimp only at hS); go_simp⟩) trivial ?_
      simp only [Act.put, List.setIfInBounds_toArray, List.set_cons_zero, List.set_cons_succ]
      refine wpAnyH_ready (rs := [1, 2]) (by kernel_rfl) (by simp) ?_
      refine AllReadyH.cons (o := { dst := some 16, op := Op.load 27 (Operand.tmp 15), type := 27, pos := _, after := #[{ on := 0, ground := Ground.data }], guard := none }) rfl (fun K hK => ?_) (AllReadyH.cons (o := { dst := some 17, op := Op.makeSlice 186 (Operand.const (Value.int IntKind.i64 4)) (Operand.const (Value.int IntKind.i64 4)), type := 186, pos := _, after := #[], guard := none }) rfl (fun K hK => ?_) AllReadyH.nil)
      · go_simp
        refine hK.out _ _ trivial (fun hB => ?_)
        clear hK K hB
        try simp only [Act.put, List.setIfInBounds_toArray, List.set_cons_zero, List.set_cons_succ]
        refine wpAnyH_ready (rs := [2]) (by kernel_rfl) (by simp) ?_
        refine AllReadyH.cons (o := { dst := some 17, op := Op.makeSlice 186 (Operand.const (Value.int IntKind.i64 4)) (Operand.const (Value.int IntKind.i64 4)), type := 186, pos := _, after := #[], guard := none }) rfl (fun K hK => ?_) AllReadyH.nil
        go_simp
        refine hK.out _ _ trivial (fun hB => ?_)
        clear hK K hB
        try simp only [Act.put, List.setIfInBounds_toArray, List.set_cons_zero, List.set_cons_succ]
        refine wpAnyH_ready (rs := [3]) (by kernel_rfl) (by simp) ?_
        refine AllReadyH.cons (o := { dst := some 18, op := Op.buildSlice 27 1 #[(0, Operand.tmp 17)], type := 27, pos := _, after := #[{ on := 2, ground := Ground.data }], guard := none }) rfl (fun K hK => ?_) AllReadyH.nil
        go_simp
        refine hK.out _ _ trivial (fun hB => ?_)
        clear hK K hB
        try simp only [Act.put, List.setIfInBounds_toArray, List.set_cons_zero, List.set_cons_succ]
        refine wpAnyH_ready (rs := [4]) (by kernel_rfl) (by simp) ?_
        refine AllReadyH.cons (o := { dst := some 19, op := Op.call { callee := Callee.builtin Builtin.append, args := #[Operand.tmp 16, Operand.tmp 18], argTypes := #[27, 27] }, type := 27, pos := _, after := #[{ on := 1, ground := Ground.data }, { on := 3, ground := Ground.data }], guard := none }) rfl (fun K hK => ?_) AllReadyH.nil
        refine step_app (.tmp 16) (.tmp 18) 27 (by rfl) ?_
        obtain ⟨ao', cap', w2, ZB', hrun, htl2, hM⟩ := Tl.push (w1 := wd.alloc (.cells (madeCells #[.int .i64 0, .int .i64 0] 8) 189)) (s0 := wd.heap.size) (ao := some ⟨wd.heap.size, 0, none⟩) (cap := 4) HTL.out ((Blw.refl _).alloc _) (by have := HBX.out.lt; omega) (Nat.le_refl _) (by simp) ⟨by omega, fun _ => ⟨wd.heap.size, ⟨Nat.le_refl _, by simp⟩, rfl, (Row.made2 wd (.int .i64 0) 8 189).congr (fun i hi => by simp [uc])⟩⟩ (by omega)
        rw [World.size_alloc] at hrun
        refine ⟨_, _, hrun, ?_⟩
        have hbA : Blw wd (wd.alloc (.cells (madeCells #[.int .i64 0, .int .i64 0] 8) 189)) := (Blw.refl _).alloc _
        have hM2 := (hbA.mod ZB).trans hM
        have hzb : ∀ x, ZB x → w0.heap.size + 1 + 1 ≤ x := fun x hx => (HTL.out.zb x hx).1
        have r4' := HR4.out.mod hM2 (fun h => by have := hzb _ h; omega)
        have r0' := HR.out.mod hM2 (fun h => by have := hzb _ h; have := HZ.out; omega)
        have b' := Mod.blw HB.out hM2 (fun i hi => by have := hzb _ hi; have := HZ.out; omega)
        have hS3 := HBX.out.mod hM2 (fun h => by have := hzb _ h; omega)
        have ms : Mod (fun x => x = w0.heap.size + 1) w2 (w2.setCell ⟨w0.heap.size + 1, 1, none⟩ (.slice ao' (j + 1) cap')) := Mod.setCell (X := fun x => x = w0.heap.size + 1) _ (p := ⟨w0.heap.size + 1, 1, none⟩) rfl _
        have f1 := hS3.frozen 1
        have p1 := (get2 hS3).2
        refine hK.out _ _ trivial (fun hB => ?_)
        clear hK K hB
        try simp only [Act.put, List.setIfInBounds_toArray, List.set_cons_zero, List.set_cons_succ]
        refine wpAnyH_take (i := 5) (oi := { dst := some 20, op := Op.fieldAddr 29 (Operand.tmp 4) 1, type := 0, pos := _, after := #[{ on := 0, ground := Ground.phase }, { on := 1, ground := Ground.phase }, { on := 2, ground := Ground.phase }, { on := 3, ground := Ground.phase }, { on := 4, ground := Ground.phase }], guard := none }) (v := (.pointer (some ⟨w0.heap.size + 1, 1, none⟩))) rfl (by kernel_rfl) (by kernel_rfl) (by kernel_rfl) (fun _ _ _ h => h) (Or.inl ⟨by rfl, fun w' hS => by (try dsimp only at hS); go_simp⟩) trivial ?_
        simp only [Act.put, List.setIfInBounds_toArray, List.set_cons_zero, List.set_cons_succ]
        refine wpAnyH_ready (rs := [6]) (by kernel_rfl) (by simp) ?_
        refine AllReadyH.cons (o := { dst := none, op := Op.store 27 (Operand.tmp 20) (Operand.tmp 19), type := 0, pos := _, after := #[{ on := 5, ground := Ground.data }, { on := 4, ground := Ground.data }, { on := 4, ground := Ground.chain }, { on := 0, ground := Ground.phase }, { on := 1, ground := Ground.phase }, { on := 2, ground := Ground.phase }, { on := 3, ground := Ground.phase }, { on := 4, ground := Ground.phase }], guard := none }) rfl (fun K hK => ?_) AllReadyH.nil
        go_simp
        refine hK.out _ _ trivial (fun hB => ?_)
        clear hK K hB
        try simp only [Act.put, List.setIfInBounds_toArray, List.set_cons_zero, List.set_cons_succ]
        refine wpAnyH_done (by kernel_rfl) ?_ _
        refine NoPanic.normal ?_
        have HN : Hid (∃ v A C ZB Z, Row (w2.setCell ⟨w0.heap.size + 1, 1, none⟩ (.slice ao' (j + 1) cap')) (w0.heap.size + 1) 2 (fun i => if i = 0 then .slice (some ⟨w0.heap.size, 0, none⟩) 4 4 else v) ∧ Tl (w0.heap.size + 1 + 1) (w2.setCell ⟨w0.heap.size + 1, 1, none⟩ (.slice ao' (j + 1) cap')) v (j + 1) A C zz zz ZB Z ∧ Row (w2.setCell ⟨w0.heap.size + 1, 1, none⟩ (.slice ao' (j + 1) cap')) w0.heap.size 4 (fun _ => .int .i64 (-1)) ∧ Row (w2.setCell ⟨w0.heap.size + 1, 1, none⟩ (.slice ao' (j + 1) cap')) w.heap.size 2 (fun i => if i = 0 then .slice none 0 0 else .slice none 0 0) ∧ Blw w (w2.setCell ⟨w0.heap.size + 1, 1, none⟩ (.slice ao' (j + 1) cap'))) :=
          ⟨_, _, _, _, _, set2_1 hS3 (.slice ao' (j + 1) cap'), htl2.mod ms (fun x hx => by omega), r4'.mod ms (by omega), r0'.mod ms (by have := HZ.out; omega), Mod.blw b' ms (fun i hi => by have := HZ.out; omega)⟩
        clear hS3 htl2 r4' r0' b' ms HR4 HR HB HTL HBX P1 hmk pa pb pc hM hM2 hbA hzb f1 p1 hrun
        have e1 : (kn : Int) - j - 1 = (kn : Int) - ((j + 1 : Nat) : Int) := by omega
        go_wp2
        go_roundw
        case rel => exact ⟨j + 1, by omega, by go_num, HN.out⟩
        case measure => simp [intOf]; omega
      · go_simp
        refine hK.out _ _ trivial (fun hB => ?_)
        clear hK K hB
        try simp only [Act.put, List.setIfInBounds_toArray, List.set_cons_zero, List.set_cons_succ]
        refine wpAnyH_ready (rs := [1, 3]) (by kernel_rfl) (by simp) ?_
        refine AllReadyH.cons (o := { dst := some 16, op := Op.load 27 (Operand.tmp 15), type := 27, pos := _, after := #[{ on := 0, ground := Ground.data }], guard := none }) rfl (fun K hK => ?_) (AllReadyH.cons (o := { dst := some 18, op := Op.buildSlice 27 1 #[(0, Operand.tmp 17)], type := 27, pos := _, after := #[{ on := 2, ground := Ground.data }], guard := none }) rfl (fun K hK => ?_) AllReadyH.nil)
        · go_simp
          refine hK.out _ _ trivial (fun hB => ?_)
          clear hK K hB
          try simp only [Act.put, List.setIfInBounds_toArray, List.set_cons_zero, List.set_cons_succ]
          refine wpAnyH_ready (rs := [3]) (by kernel_rfl) (by simp) ?_
          refine AllReadyH.cons (o := { dst := some 18, op := Op.buildSlice 27 1 #[(0, Operand.tmp 17)], type := 27, pos := _, after := #[{ on := 2, ground := Ground.data }], guard := none }) rfl (fun K hK => ?_) AllReadyH.nil
          go_simp
          refine hK.out _ _ trivial (fun hB => ?_)
          clear hK K hB
          try simp only [Act.put, List.setIfInBounds_toArray, List.set_cons_zero, List.set_cons_succ]
          refine wpAnyH_ready (rs := [4]) (by kernel_rfl) (by simp) ?_
          refine AllReadyH.cons (o := { dst := some 19, op := Op.call { callee := Callee.builtin Builtin.append, args := #[Operand.tmp 16, Operand.tmp 18], argTypes := #[27, 27] }, type := 27, pos := _, after := #[{ on := 1, ground := Ground.data }, { on := 3, ground := Ground.data }], guard := none }) rfl (fun K hK => ?_) AllReadyH.nil
          refine step_app (.tmp 16) (.tmp 18) 27 (by rfl) ?_
          obtain ⟨ao', cap', w2, ZB', hrun, htl2, hM⟩ := Tl.push (w1 := wd.alloc (.cells (madeCells #[.int .i64 0, .int .i64 0] 8) 189)) (s0 := wd.heap.size) (ao := some ⟨wd.heap.size, 0, none⟩) (cap := 4) HTL.out ((Blw.refl _).alloc _) (by have := HBX.out.lt; omega) (Nat.le_refl _) (by simp) ⟨by omega, fun _ => ⟨wd.heap.size, ⟨Nat.le_refl _, by simp⟩, rfl, (Row.made2 wd (.int .i64 0) 8 189).congr (fun i hi => by simp [uc])⟩⟩ (by omega)
          rw [World.size_alloc] at hrun
          refine ⟨_, _, hrun, ?_⟩
          have hbA : Blw wd (wd.alloc (.cells (madeCells #[.int .i64 0, .int .i64 0] 8) 189)) := (Blw.refl _).alloc _
          have hM2 := (hbA.mod ZB).trans hM
          have hzb : ∀ x, ZB x → w0.heap.size + 1 + 1 ≤ x := fun x hx => (HTL.out.zb x hx).1
          have r4' := HR4.out.mod hM2 (fun h => by have := hzb _ h; omega)
          have r0' := HR.out.mod hM2 (fun h => by have := hzb _ h; have := HZ.out; omega)
          have b' := Mod.blw HB.out hM2 (fun i hi => by have := hzb _ hi; have := HZ.out; omega)
          have hS3 := HBX.out.mod hM2 (fun h => by have := hzb _ h; omega)
          have ms : Mod (fun x => x = w0.heap.size + 1) w2 (w2.setCell ⟨w0.heap.size + 1, 1, none⟩ (.slice ao' (j + 1) cap')) := Mod.setCell (X := fun x => x = w0.heap.size + 1) _ (p := ⟨w0.heap.size + 1, 1, none⟩) rfl _
          have f1 := hS3.frozen 1
          have p1 := (get2 hS3).2
          refine hK.out _ _ trivial (fun hB => ?_)
          clear hK K hB
          try simp only [Act.put, List.setIfInBounds_toArray, List.set_cons_zero, List.set_cons_succ]
          refine wpAnyH_take (i := 5) (oi := { dst := some 20, op := Op.fieldAddr 29 (Operand.tmp 4) 1, type := 0, pos := _, after := #[{ on := 0, ground := Ground.phase }, { on := 1, ground := Ground.phase }, { on := 2, ground := Ground.phase }, { on := 3, ground := Ground.phase }, { on := 4, ground := Ground.phase }], guard := none }) (v := (.pointer (some ⟨w0.heap.size + 1, 1, none⟩))) rfl (by kernel_rfl) (by kernel_rfl) (by kernel_rfl) (fun _ _ _ h => h) (Or.inl ⟨by rfl, fun w' hS => by (try dsimp only at hS); go_simp⟩) trivial ?_
          simp only [Act.put, List.setIfInBounds_toArray, List.set_cons_zero, List.set_cons_succ]
          refine wpAnyH_ready (rs := [6]) (by kernel_rfl) (by simp) ?_
          refine AllReadyH.cons (o := { dst := none, op := Op.store 27 (Operand.tmp 20) (Operand.tmp 19), type := 0, pos := _, after := #[{ on := 5, ground := Ground.data }, { on := 4, ground := Ground.data }, { on := 4, ground := Ground.chain }, { on := 0, ground := Ground.phase }, { on := 1, ground := Ground.phase }, { on := 2, ground := Ground.phase }, { on := 3, ground := Ground.phase }, { on := 4, ground := Ground.phase }], guard := none }) rfl (fun K hK => ?_) AllReadyH.nil
          go_simp
          refine hK.out _ _ trivial (fun hB => ?_)
          clear hK K hB
          try simp only [Act.put, List.setIfInBounds_toArray, List.set_cons_zero, List.set_cons_succ]
          refine wpAnyH_done (by kernel_rfl) ?_ _
          refine NoPanic.normal ?_
          have HN : Hid (∃ v A C ZB Z, Row (w2.setCell ⟨w0.heap.size + 1, 1, none⟩ (.slice ao' (j + 1) cap')) (w0.heap.size + 1) 2 (fun i => if i = 0 then .slice (some ⟨w0.heap.size, 0, none⟩) 4 4 else v) ∧ Tl (w0.heap.size + 1 + 1) (w2.setCell ⟨w0.heap.size + 1, 1, none⟩ (.slice ao' (j + 1) cap')) v (j + 1) A C zz zz ZB Z ∧ Row (w2.setCell ⟨w0.heap.size + 1, 1, none⟩ (.slice ao' (j + 1) cap')) w0.heap.size 4 (fun _ => .int .i64 (-1)) ∧ Row (w2.setCell ⟨w0.heap.size + 1, 1, none⟩ (.slice ao' (j + 1) cap')) w.heap.size 2 (fun i => if i = 0 then .slice none 0 0 else .slice none 0 0) ∧ Blw w (w2.setCell ⟨w0.heap.size + 1, 1, none⟩ (.slice ao' (j + 1) cap'))) :=
            ⟨_, _, _, _, _, set2_1 hS3 (.slice ao' (j + 1) cap'), htl2.mod ms (fun x hx => by omega), r4'.mod ms (by omega), r0'.mod ms (by have := HZ.out; omega), Mod.blw b' ms (fun i hi => by have := HZ.out; omega)⟩
          clear hS3 htl2 r4' r0' b' ms HR4 HR HB HTL HBX P1 hmk pa pb pc hM hM2 hbA hzb f1 p1 hrun
          have e1 : (kn : Int) - j - 1 = (kn : Int) - ((j + 1 : Nat) : Int) := by omega
          go_wp2
          go_roundw
          case rel => exact ⟨j + 1, by omega, by go_num, HN.out⟩
          case measure => simp [intOf]; omega
        · go_simp
          refine hK.out _ _ trivial (fun hB => ?_)
          clear hK K hB
          try simp only [Act.put, List.setIfInBounds_toArray, List.set_cons_zero, List.set_cons_succ]
          refine wpAnyH_ready (rs := [1]) (by kernel_rfl) (by simp) ?_
          refine AllReadyH.cons (o := { dst := some 16, op := Op.load 27 (Operand.tmp 15), type := 27, pos := _, after := #[{ on := 0, ground := Ground.data }], guard := none }) rfl (fun K hK => ?_) AllReadyH.nil
          go_simp
          refine hK.out _ _ trivial (fun hB => ?_)
          clear hK K hB
          try simp only [Act.put, List.setIfInBounds_toArray, List.set_cons_zero, List.set_cons_succ]
          refine wpAnyH_ready (rs := [4]) (by kernel_rfl) (by simp) ?_
          refine AllReadyH.cons (o := { dst := some 19, op := Op.call { callee := Callee.builtin Builtin.append, args := #[Operand.tmp 16, Operand.tmp 18], argTypes := #[27, 27] }, type := 27, pos := _, after := #[{ on := 1, ground := Ground.data }, { on := 3, ground := Ground.data }], guard := none }) rfl (fun K hK => ?_) AllReadyH.nil
          refine step_app (.tmp 16) (.tmp 18) 27 (by rfl) ?_
          obtain ⟨ao', cap', w2, ZB', hrun, htl2, hM⟩ := Tl.push (w1 := wd.alloc (.cells (madeCells #[.int .i64 0, .int .i64 0] 8) 189)) (s0 := wd.heap.size) (ao := some ⟨wd.heap.size, 0, none⟩) (cap := 4) HTL.out ((Blw.refl _).alloc _) (by have := HBX.out.lt; omega) (Nat.le_refl _) (by simp) ⟨by omega, fun _ => ⟨wd.heap.size, ⟨Nat.le_refl _, by simp⟩, rfl, (Row.made2 wd (.int .i64 0) 8 189).congr (fun i hi => by simp [uc])⟩⟩ (by omega)
          rw [World.size_alloc] at hrun
          refine ⟨_, _, hrun, ?_⟩
          have hbA : Blw wd (wd.alloc (.cells (madeCells #[.int .i64 0, .int .i64 0] 8) 189)) := (Blw.refl _).alloc _
          have hM2 := (hbA.mod ZB).trans hM
          have hzb : ∀ x, ZB x → w0.heap.size + 1 + 1 ≤ x := fun x hx => (HTL.out.zb x hx).1
          have r4' := HR4.out.mod hM2 (fun h => by have := hzb _ h; omega)
          have r0' := HR.out.mod hM2 (fun h => by have := hzb _ h; have := HZ.out; omega)
          have b' := Mod.blw HB.out hM2 (fun i hi => by have := hzb _ hi; have := HZ.out; omega)
          have hS3 := HBX.out.mod hM2 (fun h => by have := hzb _ h; omega)
          have ms : Mod (fun x => x = w0.heap.size + 1) w2 (w2.setCell ⟨w0.heap.size + 1, 1, none⟩ (.slice ao' (j + 1) cap')) := Mod.setCell (X := fun x => x = w0.heap.size + 1) _ (p := ⟨w0.heap.size + 1, 1, none⟩) rfl _
          have f1 := hS3.frozen 1
          have p1 := (get2 hS3).2
          refine hK.out _ _ trivial (fun hB => ?_)
          clear hK K hB
          try simp only [Act.put, List.setIfInBounds_toArray, List.set_cons_zero, List.set_cons_succ]
          refine wpAnyH_take (i := 5) (oi := { dst := some 20, op := Op.fieldAddr 29 (Operand.tmp 4) 1, type := 0, pos := _, after := #[{ on := 0, ground := Ground.phase }, { on := 1, ground := Ground.phase }, { on := 2, ground := Ground.phase }, { on := 3, ground := Ground.phase }, { on := 4, ground := Ground.phase }], guard := none }) (v := (.pointer (some ⟨w0.heap.size + 1, 1, none⟩))) rfl (by kernel_rfl) (by kernel_rfl) (by kernel_rfl) (fun _ _ _ h => h) (Or.inl ⟨by rfl, fun w' hS => by (try dsimp only at hS); go_simp⟩) trivial ?_
          simp only [Act.put, List.setIfInBounds_toArray, List.set_cons_zero, List.set_cons_succ]
          refine wpAnyH_ready (rs := [6]) (by kernel_rfl) (by simp) ?_
          refine AllReadyH.cons (o := { dst := none, op := Op.store 27 (Operand.tmp 20) (Operand.tmp 19), type := 0, pos := _, after := #[{ on := 5, ground := Ground.data }, { on := 4, ground := Ground.data }, { on := 4, ground := Ground.chain }, { on := 0, ground := Ground.phase }, { on := 1, ground := Ground.phase }, { on := 2, ground := Ground.phase }, { on := 3, ground := Ground.phase }, { on := 4, ground := Ground.phase }], guard := none }) rfl (fun K hK => ?_) AllReadyH.nil
          go_simp
          refine hK.out _ _ trivial (fun hB => ?_)
          clear hK K hB
          try simp only [Act.put, List.setIfInBounds_toArray, List.set_cons_zero, List.set_cons_succ]
          refine wpAnyH_done (by kernel_rfl) ?_ _
          refine NoPanic.normal ?_
          have HN : Hid (∃ v A C ZB Z, Row (w2.setCell ⟨w0.heap.size + 1, 1, none⟩ (.slice ao' (j + 1) cap')) (w0.heap.size + 1) 2 (fun i => if i = 0 then .slice (some ⟨w0.heap.size, 0, none⟩) 4 4 else v) ∧ Tl (w0.heap.size + 1 + 1) (w2.setCell ⟨w0.heap.size + 1, 1, none⟩ (.slice ao' (j + 1) cap')) v (j + 1) A C zz zz ZB Z ∧ Row (w2.setCell ⟨w0.heap.size + 1, 1, none⟩ (.slice ao' (j + 1) cap')) w0.heap.size 4 (fun _ => .int .i64 (-1)) ∧ Row (w2.setCell ⟨w0.heap.size + 1, 1, none⟩ (.slice ao' (j + 1) cap')) w.heap.size 2 (fun i => if i = 0 then .slice none 0 0 else .slice none 0 0) ∧ Blw w (w2.setCell ⟨w0.heap.size + 1, 1, none⟩ (.slice ao' (j + 1) cap'))) :=
            ⟨_, _, _, _, _, set2_1 hS3 (.slice ao' (j + 1) cap'), htl2.mod ms (fun x hx => by omega), r4'.mod ms (by omega), r0'.mod ms (by have := HZ.out; omega), Mod.blw b' ms (fun i hi => by have := HZ.out; omega)⟩
          clear hS3 htl2 r4' r0' b' ms HR4 HR HB HTL HBX P1 hmk pa pb pc hM hM2 hbA hzb f1 p1 hrun
          have e1 : (kn : Int) - j - 1 = (kn : Int) - ((j + 1 : Nat) : Int) := by omega
          go_wp2
          go_roundw
          case rel => exact ⟨j + 1, by omega, by go_num, HN.out⟩
          case measure => simp [intOf]; omega
    · obtain rfl : j = kn := by omega
      obtain ⟨ao, cap, rfl, own⟩ := HTL.out.ps (by omega)
      have hz := HZ.out
      have FIN : Hid _ := fin_givesT (out := resT (cntOK (j : Int)) (newB (j : Int))) (w := w) (W := wr) (z := w.heap.size) (b := ⟨some ⟨w0.heap.size, 0, none⟩, ao, 4, cap⟩) (R := newB (j : Int)) (Nat.le_refl _) (Or.inl ⟨HC.out, rfl, rfl⟩) (tot4 (c := fun _ => -1) (p := zz) (m := zz) hk4) HB.out
        (⟨fun x => x = w0.heap.size, fun x => w0.heap.size + 1 + 1 ≤ x ∧ x < wr.heap.size, fun x hx => ⟨⟨by omega, by have := HR4.out.lt; omega⟩, by omega⟩, fun x hx => ⟨by omega, hx.2⟩, ⟨by show 4 ≤ _; omega, fun _ => ⟨_, rfl, rfl, HR4.out⟩⟩, own⟩ : BookOwn (fun x => w.heap.size < x ∧ x < wr.heap.size) wr ⟨some ⟨w0.heap.size, 0, none⟩, ao, 4, cap⟩ (newB (j : Int))) (fun x hx => ⟨by omega, by omega, hx.2⟩)
      obtain ⟨t0, t1⟩ := get2 HR.out
      obtain ⟨s0, s1⟩ := get2 HBX.out
      have f0 := HR.out.frozen 0
      have f1 := HR.out.frozen 1
      clear own HTL HR4 HR HB HBX hz
      go_wp2
      exact bodyPost_ret (v := .tuple #[(BV.mk (some ⟨w0.heap.size, 0, none⟩) ao 4 cap).val (newB (j : Int)), .bool true]) (by simp [results, Try.results84, go_sem, t0, t1]) rfl FIN.out
end Go.Proofs.Ytbpdopcdhnemfaa
