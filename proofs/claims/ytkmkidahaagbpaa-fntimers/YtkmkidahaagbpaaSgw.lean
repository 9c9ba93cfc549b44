/- Good wheels: the model's test. -/
import Derived.Test.YtkmkidahaagbpaaSa
namespace Go.Proofs.Ytkmkidahaagbpaa
open Go.RowKit
set_option linter.unusedSimpArgs false
set_option linter.unusedVariables false
theorem Sd_of_adj {l : List Tm} (h : ∀ i, i < l.length → 0 < i → (nth l (i - 1)).1 < (nth l i).1) : Sd l := by
  have key : ∀ d i, i + d < l.length → 0 < d → (nth l i).1 < (nth l (i + d)).1 := by
    intro d
    induction d with
    | zero => intro i _ h0; omega
    | succ d ih =>
      intro i hi _
      have h1 := h (i + (d + 1)) hi (by omega)
      rw [show i + (d + 1) - 1 = i + d by omega] at h1
      by_cases hd : d = 0
      · subst hd; exact h1
      · have := ih i (by omega) (by omega); omega
  refine List.pairwise_iff_getElem.2 (fun i j hi hj hij => ?_)
  have := key (j - i) i (by omega) (by omega)
  rw [show i + (j - i) = j by omega, nth_get hi, nth_get hj] at this
  exact this
theorem rowOf_near (now a : Int) {k : Nat} (hk : k < 8) : rowOf now a = k ↔ a / 8 = now / 8 ∧ a % 8 = k := by
  unfold rowOf
  split
  · rename_i h; constructor
    · intro e; exact ⟨h, by omega⟩
    · intro e; omega
  · rename_i h; constructor
    · intro e; omega
    · intro e; exact absurd e.1 h
theorem rowOf_far (now a : Int) {k : Nat} (hk : k < 8) : rowOf now a = 8 + k ↔ a / 8 ≠ now / 8 ∧ a / 8 % 8 = k := by
  unfold rowOf
  split
  · rename_i h; constructor
    · intro e; omega
    · intro e; exact absurd h e.1
  · rename_i h; constructor
    · intro e; exact ⟨h, by omega⟩
    · intro e; omega
theorem RowOk_near {now : Int} {k : Nat} (hk : k < 8) {l : List Tm} : RowOk now k true l ↔ Sd l ∧ ∀ t ∈ l, 1 ≤ t.1 ∧ t.1 ≤ 99 ∧ now < t.2 ∧ t.2 ≤ now + 63 ∧ rowOf now t.2 = k := by
  constructor
  · intro h
    refine ⟨Sd_of_adj (fun i hi h0 => (h i hi).2 h0), fun t ht => ?_⟩
    obtain ⟨i, hi, rfl⟩ := List.getElem_of_mem ht
    obtain ⟨⟨q1, q2, q3, q4⟩, _⟩ := h i hi
    rw [nth_get hi] at q1 q2 q3 q4
    rw [if_pos rfl] at q4
    exact ⟨q1.1, q1.2, by omega, q2.2, (rowOf_near now _ hk).2 ⟨q3.2 rfl, q4⟩⟩
  · rintro ⟨h1, h2⟩ i hi
    obtain ⟨q1, q2, q3, q4, q5⟩ := h2 _ (nth_mem hi)
    obtain ⟨r1, r2⟩ := (rowOf_near now _ hk).1 q5
    exact ⟨⟨⟨q1, q2⟩, ⟨by omega, q4⟩, ⟨fun _ => rfl, fun _ => r1⟩, by rw [if_pos rfl]; exact r2⟩, fun h0 => h1.lt (by omega) hi⟩
theorem RowOk_far {now : Int} {k : Nat} (hk : k < 8) {l : List Tm} : RowOk now k false l ↔ Sd l ∧ ∀ t ∈ l, 1 ≤ t.1 ∧ t.1 ≤ 99 ∧ now < t.2 ∧ t.2 ≤ now + 63 ∧ rowOf now t.2 = 8 + k := by
  constructor
  · intro h
    refine ⟨Sd_of_adj (fun i hi h0 => (h i hi).2 h0), fun t ht => ?_⟩
    obtain ⟨i, hi, rfl⟩ := List.getElem_of_mem ht
    obtain ⟨⟨q1, q2, q3, q4⟩, _⟩ := h i hi
    rw [nth_get hi] at q1 q2 q3 q4
    simp only [Bool.false_eq_true, if_false] at q4
    exact ⟨q1.1, q1.2, by omega, q2.2, (rowOf_far now _ hk).2 ⟨(fun e => by have := q3.1 e; cases this), q4⟩⟩
  · rintro ⟨h1, h2⟩ i hi
    obtain ⟨q1, q2, q3, q4, q5⟩ := h2 _ (nth_mem hi)
    obtain ⟨r1, r2⟩ := (rowOf_far now _ hk).1 q5
    exact ⟨⟨⟨q1, q2⟩, ⟨by omega, q4⟩, ⟨fun e => absurd e r1, (fun e => by cases e)⟩, by simp only [Bool.false_eq_true, if_false]; exact r2⟩, fun h0 => h1.lt (by omega) hi⟩
def Dist (L : List Tm) (n : Nat) : Prop := ∀ i j, i < j → j < n → (nth L i).1 ≠ (nth L j).1
theorem dist_iff (L : List Tm) : Dist L L.length ↔ (L.map Prod.fst).Nodup := by
  rw [List.Nodup, List.pairwise_iff_getElem]
  constructor
  · intro h i j hi hj hij
    have hi' : i < L.length := by simpa using hi
    have hj' : j < L.length := by simpa using hj
    have := h i j hij hj'
    rw [nth_get hi', nth_get hj'] at this
    simpa using this
  · intro h i j hij hj
    have := h i j (by simpa using Nat.lt_trans hij hj) (by simpa using hj) hij
    rw [nth_get hj, nth_get (Nat.lt_trans hij hj)]
    simpa using this
theorem good_iff (now : Int) (R : Rws) : GoodR now R ↔ (∀ k, k < 8 → RowOk now k true (R k) ∧ RowOk now k false (R (8 + k))) ∧ Dist (allS 8 R) (allS 8 R).length ∧ (allS 8 R).length ≤ 20 := by
  rw [dist_iff, ((allS_perm R).map _).nodup_iff, (allS_perm R).length_eq]
  constructor
  · intro h
    exact ⟨fun k hk => ⟨(RowOk_near hk).2 ⟨h.sd k (by omega), h.ok k (by omega)⟩, (RowOk_far hk).2 ⟨h.sd (8 + k) (by omega), h.ok (8 + k) (by omega)⟩⟩, h.nd, h.len⟩
  · rintro ⟨h1, h2, h3⟩
    refine ⟨fun k hk => ?_, fun k hk => ?_, h2, h3⟩
    · by_cases h8 : k < 8
      · exact ((RowOk_near h8).1 (h1 k h8).1).1
      · have := ((RowOk_far (show k - 8 < 8 by omega)).1 (h1 (k - 8) (by omega)).2).1
        rwa [show 8 + (k - 8) = k by omega] at this
    · by_cases h8 : k < 8
      · exact ((RowOk_near h8).1 (h1 k h8).1).2
      · have := ((RowOk_far (show k - 8 < 8 by omega)).1 (h1 (k - 8) (by omega)).2).2
        rwa [show 8 + (k - 8) = k by omega] at this
theorem bres_no {p : Prop} {w w' : World} (h : ¬ p) (hb : Blw w w') : BRes p w (.returned (.bool false)) w' := ⟨false, rfl, by simp [BOf, h], hb⟩
theorem allS_len (D : WD) (hn : D.N.n = 8) (hf : D.F.n = 8) (hS : D.small) : (allS 8 (rows16 D)).length ≤ 1048576 := by
  have h1 : ∀ n, n ≤ 8 → ((List.range n).flatMap (fun k => rlist D.N k)).length = Ytkmkidahaagbpaa.pre D.N.len n := fun n hn => by
    induction n with
    | zero => rfl
    | succ n ih => rw [List.range_succ, List.flatMap_append, List.length_append, ih (by omega)]; simp [rlist_len, Ytkmkidahaagbpaa.pre]
  have h2 : ∀ n, n ≤ 8 → ((List.range n).flatMap (fun k => rlist D.F k)).length = Ytkmkidahaagbpaa.pre D.F.len n := fun n hn => by
    induction n with
    | zero => rfl
    | succ n ih => rw [List.range_succ, List.flatMap_append, List.length_append, ih (by omega)]; simp [rlist_len, Ytkmkidahaagbpaa.pre]
  have h3 : allR (rows16 D) = (List.range 8).flatMap (fun k => rlist D.N k) ++ (List.range 8).flatMap (fun k => rlist D.F k) := by
    simp [allR, List.range_succ, List.flatMap_append, rows16]
  rw [(allS_perm _).length_eq, h3, List.length_append, h1 8 (by omega), h2 8 (by omega)]
  unfold WD.small PD.tot at hS
  rw [hn, hf] at hS
  omega
set_option maxRecDepth 10000 in
set_option maxHeartbeats 1600000 in
theorem specGood_early (v : WV) (D : WD) (w : World) (hN : D.N.n ≤ 9223372036854775807) (hF : D.F.n ≤ 9223372036854775807) (hno : ¬ ((0 ≤ D.now ∧ D.now ≤ 1000) ∧ D.N.n = 8 ∧ D.F.n = 8)) :
    Calls Try.prog 38 #[v.val D] w (BRes (GoodD D) w) := by
  have HNG : Hid (¬ GoodD D) := fun hg => hno ⟨hg.now, hg.n, hg.f⟩
  have hb0 : Blw w (w.alloc (.cells #[.int .i64 D.now, .slice v.a1 D.N.n v.c1, .slice v.a2 D.F.n v.c2] 25)) := (Blw.refl _).alloc _
  have r0 := box3 w (.int .i64 D.now) (.slice v.a1 D.N.n v.c1) (.slice v.a2 D.F.n v.c2) 25
  go_enter Try.func38, Try.ntmps38
  go_wp2_with fail
  have HB : Hid _ := hb0
  obtain ⟨p0, p1, p2⟩ := get3 r0
  clear hb0 r0
  generalize w.alloc (.cells #[.int .i64 D.now, .slice v.a1 D.N.n v.c1, .slice v.a2 D.F.n v.c2] 25) = W0 at *
  by_cases a0 : 0 ≤ D.now ∧ D.now ≤ 1000
  · have A0 : Hid (0 ≤ D.now ∧ D.now ≤ 1000) := a0
    by_cases a1 : D.N.n = 8
    · have a2 : ¬ D.F.n = 8 := fun h => hno ⟨a0, a1, h⟩
      have g1 : ((D.N.n : Int) != 8) = false := by simp; omega
      have g2 : ((D.F.n : Int) != 8) = true := by simp; omega
      clear hno a0 a1 a2
      go_wp2_with (first | (go_at_call 52; refine (l1In_yes _ _ _ _ A0.out.1 A0.out.2).mono ?_; rintro e w' ⟨rfl, hw⟩; replace hw := hw.symm; subst hw))
      go_ret
      exact bres_no HNG.out HB.out
    · have g1 : ((D.N.n : Int) != 8) = true := by simp; omega
      clear hno a0 a1
      go_wp2_with (first | (go_at_call 52; refine (l1In_yes _ _ _ _ A0.out.1 A0.out.2).mono ?_; rintro e w' ⟨rfl, hw⟩; replace hw := hw.symm; subst hw))
      go_ret
      exact bres_no HNG.out HB.out
  · have A0 : Hid (¬ (0 ≤ D.now ∧ D.now ≤ 1000)) := a0
    clear hno a0
    go_wp2_with (first | (go_at_call 52; refine (l1In_no _ _ _ _ A0.out).mono ?_; rintro e w' ⟨rfl, hw⟩; replace hw := hw.symm; subst hw))
    go_ret
    exact bres_no HNG.out HB.out
set_option maxRecDepth 10000 in
set_option maxHeartbeats 3200000 in
theorem specGood_go (v : WV) (D : WD) (Y : Nat → Prop) (w : World) (h : WAt Y w v D) (hS : D.small) (a0 : 0 ≤ D.now ∧ D.now ≤ 1000) (hn : D.N.n = 8) (hf : D.F.n = 8) :
    Calls Try.prog 38 #[v.val D] w (BRes (GoodD D) w) := by
  have hRW := h.rows hn hf
  have hLL := allS_len D hn hf hS
  have hGI := good_iff D.now (rows16 D)
  have hGD : GoodD D ↔ GoodR D.now (rows16 D) := ⟨fun h => h.g, fun h => ⟨a0, hn, hf, h⟩⟩
  have HGD : Hid _ := hGD.trans hGI
  obtain ⟨R, hR⟩ : ∃ R, rows16 D = R := ⟨_, rfl⟩
  rw [hR] at hRW hLL HGD
  obtain ⟨p, hp⟩ : ∃ p, p = GoodD D := ⟨_, rfl⟩
  rw [← hp] at HGD ⊢
  clear hp hR h hS hGI hGD
  obtain ⟨now, ⟨n1, l1, q1, m1⟩, ⟨n2, l2, q2, m2⟩⟩ := D
  dsimp only at a0 hn hf HGD
  subst hn hf
  obtain ⟨va1, va2, vc1, vc2⟩ := v
  obtain ⟨b1, o1, A1, k1, e1, -, hr1⟩ := hRW.n.fn (by omega)
  obtain ⟨b2, o2, A2, k2, e2, -, hr2⟩ := hRW.f.fn (by omega)
  dsimp only at e1 e2
  subst e1 e2
  have HRW : Hid (WRows Y w ⟨some ⟨b1, o1, none⟩, some ⟨b2, o2, none⟩, vc1, vc2⟩ ⟨now, ⟨8, l1, q1, m1⟩, ⟨8, l2, q2, m2⟩⟩ R) := hRW
  have HR1 : Hid (∀ i, i < 8 → w.cell? ⟨b1, o1 + i, none⟩ = some (.slice (A1 i) (R i).length (k1 i)) ∧ UndosAt Y w (A1 i) (R i).length (lf (R i)) (la (R i))) := hr1
  have HR2 : Hid (∀ i, i < 8 → w.cell? ⟨b2, o2 + i, none⟩ = some (.slice (A2 i) (R (8 + i)).length (k2 i)) ∧ UndosAt Y w (A2 i) (R (8 + i)).length (lf (R (8 + i))) (la (R (8 + i)))) := hr2
  have HLL : Hid ((allS 8 R).length ≤ 1048576) := hLL
  have A0 : Hid (0 ≤ now ∧ now ≤ 1000) := a0
  have HB0 : Hid (Blw w (w.alloc (.cells #[.int .i64 now, .slice (some ⟨b1, o1, none⟩) 8 vc1, .slice (some ⟨b2, o2, none⟩) 8 vc2] 25))) := (Blw.refl _).alloc _
  have HA : Hid (Row (w.alloc (.cells #[.int .i64 now, .slice (some ⟨b1, o1, none⟩) 8 vc1, .slice (some ⟨b2, o2, none⟩) 8 vc2] 25)) w.heap.size 3 (t3 (.int .i64 now) (.slice (some ⟨b1, o1, none⟩) 8 vc1) (.slice (some ⟨b2, o2, none⟩) 8 vc2))) := box3 w _ _ _ 25
  clear hr1 hr2 hRW hLL a0
  go_enter Try.func38, Try.ntmps38
  go_wp2_with fail
  generalize w.alloc (.cells #[.int .i64 now, .slice (some ⟨b1, o1, none⟩) 8 vc1, .slice (some ⟨b2, o2, none⟩) 8 vc2] 25) = W0 at *
  obtain ⟨p0, p1, p2⟩ := get3 HA.out
  go_wp2_with (first | (go_at_call 52; refine (l1In_yes _ _ _ _ A0.out.1 A0.out.2).mono ?_; rintro e w' ⟨rfl, hw⟩; replace hw := hw.symm; subst hw))
  go_loopw [26] (fun i wr => ∃ k : Nat, k ≤ 8 ∧ i = .int .i64 k ∧ Hid (Blw W0 wr ∧ ∀ j, j < k → RowOk now j true (R j) ∧ RowOk now j false (R (8 + j)))) (fun i _ => 8 - (intOf i).toNat)
  case atStart => exact ⟨0, by omega, rfl, ⟨Blw.refl _, fun j hj => absurd hj (Nat.not_lt_zero _)⟩⟩
  case round =>
    clear p0 p1 p2
    obtain ⟨k, hk, rfl, hI⟩ := hrel
    by_cases hlt : k < 8
    · have hlt' : (k : Int) < 8 := by omega
      have hS0 : Blw W0 wr.drew := hI.out.1.drew
      have c0 : ∀ w', Blw W0 w' → w'.cell? ⟨w.heap.size, 0, none⟩ = some (.int .i64 now) := fun w' hb => (get3 (HA.out.blw hb)).1
      have c1 : ∀ w', Blw W0 w' → w'.cell? ⟨w.heap.size, 1, none⟩ = some (.slice (some ⟨b1, o1, none⟩) 8 vc1) := fun w' hb => (get3 (HA.out.blw hb)).2.1
      have c2 : ∀ w', Blw W0 w' → w'.cell? ⟨w.heap.size, 2, none⟩ = some (.slice (some ⟨b2, o2, none⟩) 8 vc2) := fun w' hb => (get3 (HA.out.blw hb)).2.2
      have g1 : ∀ w', Blw W0 w' → w'.cell? ⟨b1, o1 + k, none⟩ = some (.slice (A1 k) (R k).length (k1 k)) := fun w' hb => (HB0.out.trans hb).cell (HR1.out k hlt).1
      have g2 : ∀ w', Blw W0 w' → w'.cell? ⟨b2, o2 + k, none⟩ = some (.slice (A2 k) (R (8 + k)).length (k2 k)) := fun w' hb => (HB0.out.trans hb).cell (HR2.out k hlt).1
      have hNN : ∀ w', Blw W0 w' → Calls Try.prog 71 #[.agg #[.int .i64 now, .slice (some ⟨b1, o1, none⟩) 8 vc1, .slice (some ⟨b2, o2, none⟩) 8 vc2], .int .i64 k, .slice (A1 k) (R k).length (k1 k), .bool true] w' (BRes (RowOk now k true (R k)) w') := fun w' hb =>
        l11Row_any ⟨some ⟨b1, o1, none⟩, some ⟨b2, o2, none⟩, vc1, vc2⟩ ⟨now, ⟨8, l1, q1, m1⟩, ⟨8, l2, q2, m2⟩⟩ k true (A1 k) (k1 k) (R k) Y w' hlt A0.out ((HR1.out k hlt).2.blw (HB0.out.trans hb))
      have hFF : ∀ w', Blw W0 w' → Calls Try.prog 71 #[.agg #[.int .i64 now, .slice (some ⟨b1, o1, none⟩) 8 vc1, .slice (some ⟨b2, o2, none⟩) 8 vc2], .int .i64 k, .slice (A2 k) (R (8 + k)).length (k2 k), .bool false] w' (BRes (RowOk now k false (R (8 + k))) w') := fun w' hb =>
        l11Row_any ⟨some ⟨b1, o1, none⟩, some ⟨b2, o2, none⟩, vc1, vc2⟩ ⟨now, ⟨8, l1, q1, m1⟩, ⟨8, l2, q2, m2⟩⟩ k false (A2 k) (k2 k) (R (8 + k)) Y w' hlt A0.out ((HR2.out k hlt).2.blw (HB0.out.trans hb))
      by_cases r1 : RowOk now k true (R k)
      · have HN : Hid (∀ w', Blw W0 w' → Calls Try.prog 71 #[.agg #[.int .i64 now, .slice (some ⟨b1, o1, none⟩) 8 vc1, .slice (some ⟨b2, o2, none⟩) 8 vc2], .int .i64 k, .slice (A1 k) (R k).length (k1 k), .bool true] w' fun e w'' => e = .returned (.bool true) ∧ Blw w' w'') := fun w' hb => (hNN w' hb).mono (by
          rintro e w'' ⟨b, rfl, hb1, hb2⟩
          obtain rfl : b = true := hb1.2 r1
          exact ⟨rfl, hb2⟩)
        by_cases r2 : RowOk now k false (R (8 + k))
        · have HF : Hid (∀ w', Blw W0 w' → Calls Try.prog 71 #[.agg #[.int .i64 now, .slice (some ⟨b1, o1, none⟩) 8 vc1, .slice (some ⟨b2, o2, none⟩) 8 vc2], .int .i64 k, .slice (A2 k) (R (8 + k)).length (k2 k), .bool false] w' fun e w'' => e = .returned (.bool true) ∧ Blw w' w'') := fun w' hb => (hFF w' hb).mono (by
            rintro e w'' ⟨b, rfl, hb1, hb2⟩
            obtain rfl : b = true := hb1.2 r2
            exact ⟨rfl, hb2⟩)
          have HI2 : Hid (∀ j, j < k + 1 → RowOk now j true (R j) ∧ RowOk now j false (R (8 + j))) := fun j hj => by
            by_cases e : j = k
            · subst e; exact ⟨r1, r2⟩
            · exact hI.out.2 j (by omega)
          clear hNN hFF r1 r2 hI
          go_wp2_with fail
          refine wp_region_noPanic ?_
          refine wp_region_held_drew (S := (Blw W0)) (by kernel_rfl) hS0 (fun hB => ?_)
          clear hB
          generalize wr.drew = wd at *
          refine wpAnyH_take (i := 0) (oi := { dst := some 29, op := Op.load 25 (Operand.tmp 1), type := 25, pos := _, after := #[], guard := none }) (v := (.agg #[.int .i64 now, .slice (some ⟨b1, o1, none⟩) 8 vc1, .slice (some ⟨b2, o2, none⟩) 8 vc2])) rfl (by kernel_rfl) (by kernel_rfl) (by kernel_rfl) (fun _ _ _ h => h) (Or.inl ⟨by rfl, fun w' hS => by (try dsimp only at hS); go_simp⟩) hS0 ?_
          simp only [Act.put, List.setIfInBounds_toArray, List.set_cons_zero, List.set_cons_succ]
          refine wpAnyH_take (i := 1) (oi := { dst := some 30, op := Op.move (Operand.tmp 3), type := 3, pos := _, after := #[], guard := none }) (v := (.int .i64 (k : Nat))) rfl (by kernel_rfl) (by kernel_rfl) (by kernel_rfl) (fun _ _ _ h => h) (Or.inl ⟨by rfl, fun w' hS => by (try dsimp only at hS); go_simp⟩) hS0 ?_
          simp only [Act.put, List.setIfInBounds_toArray, List.set_cons_zero, List.set_cons_succ]
          refine wpAnyH_take (i := 2) (oi := { dst := some 31, op := Op.fieldAddr 25 (Operand.tmp 1) 1, type := 0, pos := _, after := #[], guard := none }) (v := (.pointer (some ⟨w.heap.size, 1, none⟩))) rfl (by kernel_rfl) (by kernel_rfl) (by kernel_rfl) (fun _ _ _ h => h) (Or.inl ⟨by rfl, fun w' hS => by (try dsimp only at hS); go_simp⟩) hS0 ?_
          simp only [Act.put, List.setIfInBounds_toArray, List.set_cons_zero, List.set_cons_succ]
          refine wpAnyH_take (i := 4) (oi := { dst := some 33, op := Op.move (Operand.tmp 3), type := 3, pos := _, after := #[], guard := none }) (v := (.int .i64 (k : Nat))) rfl (by kernel_rfl) (by kernel_rfl) (by kernel_rfl) (fun _ _ _ h => h) (Or.inl ⟨by rfl, fun w' hS => by (try dsimp only at hS); go_simp⟩) hS0 ?_
          simp only [Act.put, List.setIfInBounds_toArray, List.set_cons_zero, List.set_cons_succ]
          refine wpAnyH_take (i := 3) (oi := { dst := some 32, op := Op.load 23 (Operand.tmp 31), type := 23, pos := _, after := #[{ on := 2, ground := Ground.data }], guard := none }) (v := (.slice (some ⟨b1, o1, none⟩) 8 vc1)) rfl (by kernel_rfl) (by kernel_rfl) (by kernel_rfl) (fun _ _ _ h => h) (Or.inl ⟨by rfl, fun w' hS => by (try dsimp only at hS); go_simp⟩) hS0 ?_
          simp only [Act.put, List.setIfInBounds_toArray, List.set_cons_zero, List.set_cons_succ]
          refine wpAnyH_take (i := 5) (oi := { dst := some 34, op := Op.indexAddr 23 (Operand.tmp 32) (Operand.tmp 33), type := 0, pos := _, after := #[{ on := 3, ground := Ground.data }, { on := 4, ground := Ground.data }], guard := none }) (v := (.pointer (some ⟨b1, o1 + k, none⟩))) rfl (by kernel_rfl) (by kernel_rfl) (by kernel_rfl) (fun _ _ _ h => h) (Or.inl ⟨by rfl, fun w' hS => by (try dsimp only at hS); go_simp⟩) hS0 ?_
          simp only [Act.put, List.setIfInBounds_toArray, List.set_cons_zero, List.set_cons_succ]
          refine wpAnyH_take (i := 6) (oi := { dst := some 35, op := Op.load 31 (Operand.tmp 34), type := 31, pos := _, after := #[{ on := 5, ground := Ground.data }], guard := none }) (v := (.slice (A1 k) (R k).length (k1 k))) rfl (by kernel_rfl) (by kernel_rfl) (by kernel_rfl) (fun _ _ _ h => h) (Or.inl ⟨by rfl, fun w' hS => by (try dsimp only at hS); go_simp⟩) hS0 ?_
          simp only [Act.put, List.setIfInBounds_toArray, List.set_cons_zero, List.set_cons_succ]
          refine wpAnyH_ready (rs := [7]) (by kernel_rfl) (by simp) ?_
          refine AllReadyH.cons (o := { dst := some 36, op := Op.call { callee := Callee.value (Operand.func 71), args := #[Operand.tmp 29, Operand.tmp 30, Operand.tmp 35, Operand.const (Value.bool true)], argTypes := #[25, 3, 31, 4] }, type := 4, pos := _, after := #[{ on := 0, ground := Ground.data }, { on := 1, ground := Ground.data }, { on := 6, ground := Ground.data }], guard := none }) rfl (fun K hK => ?_) AllReadyH.nil
          go_simp
          refine (HN.out _ hS0).mono ?_
          rintro e w8 ⟨rfl, hb8⟩
          refine hK.out _ _ (hS0.trans hb8) (fun hB => ?_)
          clear hK K hB
          try simp only [Act.put, List.setIfInBounds_toArray, List.set_cons_zero, List.set_cons_succ]
          refine wpAnyH_take (i := 8) (oi := { dst := some 37, op := Op.unOp UnOp.not 4 (Operand.tmp 36), type := 4, pos := _, after := #[{ on := 7, ground := Ground.data }], guard := none }) (v := (.bool false)) rfl (by kernel_rfl) (by kernel_rfl) (by kernel_rfl) (fun _ _ _ h => h) (Or.inl ⟨by rfl, fun w' hS => by (try dsimp only at hS); go_simp⟩) (hS0.trans hb8) ?_
          simp only [Act.put, List.setIfInBounds_toArray, List.set_cons_zero, List.set_cons_succ]
          refine wpAnyH_take (i := 9) (oi := { dst := some 38, op := Op.move (Operand.tmp 37), type := 4, pos := _, after := #[{ on := 8, ground := Ground.data }, { on := 7, ground := Ground.chain }], guard := none }) (v := (.bool false)) rfl (by kernel_rfl) (by kernel_rfl) (by kernel_rfl) (fun _ _ _ h => h) (Or.inl ⟨by rfl, fun w' hS => by (try dsimp only at hS); go_simp⟩) (hS0.trans hb8) ?_
          simp only [Act.put, List.setIfInBounds_toArray, List.set_cons_zero, List.set_cons_succ]
          refine wpAnyH_take (i := 10) (oi := { dst := some 39, op := Op.load 25 (Operand.tmp 1), type := 25, pos := _, after := #[{ on := 9, ground := Ground.guard }], guard := some (9, false) }) (v := (.agg #[.int .i64 now, .slice (some ⟨b1, o1, none⟩) 8 vc1, .slice (some ⟨b2, o2, none⟩) 8 vc2])) rfl (by kernel_rfl) (by kernel_rfl) (by kernel_rfl) (fun _ _ _ h => h) (Or.inl ⟨by rfl, fun w' hS => by (try dsimp only at hS); go_simp⟩) (hS0.trans hb8) ?_
          simp only [Act.put, List.setIfInBounds_toArray, List.set_cons_zero, List.set_cons_succ]
          refine wpAnyH_take (i := 11) (oi := { dst := some 40, op := Op.move (Operand.tmp 3), type := 3, pos := _, after := #[{ on := 9, ground := Ground.guard }], guard := some (9, false) }) (v := (.int .i64 (k : Nat))) rfl (by kernel_rfl) (by kernel_rfl) (by kernel_rfl) (fun _ _ _ h => h) (Or.inl ⟨by rfl, fun w' hS => by (try dsimp only at hS); go_simp⟩) (hS0.trans hb8) ?_
          simp only [Act.put, List.setIfInBounds_toArray, List.set_cons_zero, List.set_cons_succ]
          refine wpAnyH_take (i := 12) (oi := { dst := some 41, op := Op.fieldAddr 25 (Operand.tmp 1) 2, type := 0, pos := _, after := #[{ on := 9, ground := Ground.guard }], guard := some (9, false) }) (v := (.pointer (some ⟨w.heap.size, 2, none⟩))) rfl (by kernel_rfl) (by kernel_rfl) (by kernel_rfl) (fun _ _ _ h => h) (Or.inl ⟨by rfl, fun w' hS => by (try dsimp only at hS); go_simp⟩) (hS0.trans hb8) ?_
          simp only [Act.put, List.setIfInBounds_toArray, List.set_cons_zero, List.set_cons_succ]
          refine wpAnyH_take (i := 14) (oi := { dst := some 43, op := Op.move (Operand.tmp 3), type := 3, pos := _, after := #[{ on := 9, ground := Ground.guard }], guard := some (9, false) }) (v := (.int .i64 (k : Nat))) rfl (by kernel_rfl) (by kernel_rfl) (by kernel_rfl) (fun _ _ _ h => h) (Or.inl ⟨by rfl, fun w' hS => by (try dsimp only at hS); go_simp⟩) (hS0.trans hb8) ?_
          simp only [Act.put, List.setIfInBounds_toArray, List.set_cons_zero, List.set_cons_succ]
          refine wpAnyH_take (i := 13) (oi := { dst := some 42, op := Op.load 23 (Operand.tmp 41), type := 23, pos := _, after := #[{ on := 12, ground := Ground.data }, { on := 9, ground := Ground.guard }], guard := some (9, false) }) (v := (.slice (some ⟨b2, o2, none⟩) 8 vc2)) rfl (by kernel_rfl) (by kernel_rfl) (by kernel_rfl) (fun _ _ _ h => h) (Or.inl ⟨by rfl, fun w' hS => by (try dsimp only at hS); go_simp⟩) (hS0.trans hb8) ?_
          simp only [Act.put, List.setIfInBounds_toArray, List.set_cons_zero, List.set_cons_succ]
          refine wpAnyH_take (i := 15) (oi := { dst := some 44, op := Op.indexAddr 23 (Operand.tmp 42) (Operand.tmp 43), type := 0, pos := _, after := #[{ on := 13, ground := Ground.data }, { on := 14, ground := Ground.data }, { on := 9, ground := Ground.guard }], guard := some (9, false) }) (v := (.pointer (some ⟨b2, o2 + k, none⟩))) rfl (by kernel_rfl) (by kernel_rfl) (by kernel_rfl) (fun _ _ _ h => h) (Or.inl ⟨by rfl, fun w' hS => by (try dsimp only at hS); go_simp⟩) (hS0.trans hb8) ?_
          simp only [Act.put, List.setIfInBounds_toArray, List.set_cons_zero, List.set_cons_succ]
          refine wpAnyH_take (i := 16) (oi := { dst := some 45, op := Op.load 31 (Operand.tmp 44), type := 31, pos := _, after := #[{ on := 15, ground := Ground.data }, { on := 9, ground := Ground.guard }], guard := some (9, false) }) (v := (.slice (A2 k) (R (8 + k)).length (k2 k))) rfl (by kernel_rfl) (by kernel_rfl) (by kernel_rfl) (fun _ _ _ h => h) (Or.inl ⟨by rfl, fun w' hS => by (try dsimp only at hS); go_simp⟩) (hS0.trans hb8) ?_
          simp only [Act.put, List.setIfInBounds_toArray, List.set_cons_zero, List.set_cons_succ]
          refine wpAnyH_ready (rs := [17]) (by kernel_rfl) (by simp) ?_
          refine AllReadyH.cons (o := { dst := some 46, op := Op.call { callee := Callee.value (Operand.func 71), args := #[Operand.tmp 39, Operand.tmp 40, Operand.tmp 45, Operand.const (Value.bool false)], argTypes := #[25, 3, 31, 4] }, type := 4, pos := _, after := #[{ on := 10, ground := Ground.data }, { on := 11, ground := Ground.data }, { on := 16, ground := Ground.data }, { on := 9, ground := Ground.chain }, { on := 9, ground := Ground.guard }], guard := some (9, false) }) rfl (fun K hK => ?_) AllReadyH.nil
          go_simp
          refine (HF.out _ (hS0.trans hb8)).mono ?_
          rintro e w9 ⟨rfl, hb9⟩
          refine hK.out _ _ ((hS0.trans hb8).trans hb9) (fun hB => ?_)
          clear hK K hB
          try simp only [Act.put, List.setIfInBounds_toArray, List.set_cons_zero, List.set_cons_succ]
          refine wpAnyH_take (i := 18) (oi := { dst := some 47, op := Op.unOp UnOp.not 4 (Operand.tmp 46), type := 4, pos := _, after := #[{ on := 17, ground := Ground.data }, { on := 9, ground := Ground.guard }], guard := some (9, false) }) (v := (.bool false)) rfl (by kernel_rfl) (by kernel_rfl) (by kernel_rfl) (fun _ _ _ h => h) (Or.inl ⟨by rfl, fun w' hS => by (try dsimp only at hS); go_simp⟩) ((hS0.trans hb8).trans hb9) ?_
          simp only [Act.put, List.setIfInBounds_toArray, List.set_cons_zero, List.set_cons_succ]
          refine wpAnyH_take (i := 19) (oi := { dst := some 48, op := Op.pick (Operand.tmp 38) (Operand.const (Value.bool true)) (Operand.tmp 47), type := 4, pos := _, after := #[{ on := 9, ground := Ground.data }, { on := 18, ground := Ground.data }], guard := none }) (v := (.bool false)) rfl (by kernel_rfl) (by kernel_rfl) (by kernel_rfl) (fun _ _ _ h => h) (Or.inl ⟨by rfl, fun w' hS => by (try dsimp only at hS); go_simp⟩) ((hS0.trans hb8).trans hb9) ?_
          simp only [Act.put, List.setIfInBounds_toArray, List.set_cons_zero, List.set_cons_succ]
          refine wpAnyH_done (by kernel_rfl) ?_ _
          refine NoPanic.normal ?_
          go_wp2
          go_roundw
          case rel => exact ⟨k + 1, by omega, by go_num, ⟨(hS0.trans hb8).trans hb9, HI2.out⟩⟩
          case measure => simp [intOf]; omega
        · have HF : Hid (∀ w', Blw W0 w' → Calls Try.prog 71 #[.agg #[.int .i64 now, .slice (some ⟨b1, o1, none⟩) 8 vc1, .slice (some ⟨b2, o2, none⟩) 8 vc2], .int .i64 k, .slice (A2 k) (R (8 + k)).length (k2 k), .bool false] w' fun e w'' => e = .returned (.bool false) ∧ Blw w' w'') := fun w' hb => (hFF w' hb).mono (by
            rintro e w'' ⟨b, rfl, hb1, hb2⟩
            obtain rfl : b = false := by (cases b; rfl; exact absurd (hb1.1 rfl) r2)
            exact ⟨rfl, hb2⟩)
          have HBAD : Hid (¬ p) := fun hp => r2 ((HGD.out.1 hp).1 k hlt).2
          clear hNN hFF r1 r2 hI
          go_wp2_with fail
          refine wp_region_noPanic ?_
          refine wp_region_held_drew (S := (Blw W0)) (by kernel_rfl) hS0 (fun hB => ?_)
          clear hB
          generalize wr.drew = wd at *
          refine wpAnyH_take (i := 0) (oi := { dst := some 29, op := Op.load 25 (Operand.tmp 1), type := 25, pos := _, after := #[], guard := none }) (v := (.agg #[.int .i64 now, .slice (some ⟨b1, o1, none⟩) 8 vc1, .slice (some ⟨b2, o2, none⟩) 8 vc2])) rfl (by kernel_rfl) (by kernel_rfl) (by kernel_rfl) (fun _ _ _ h => h) (Or.inl ⟨by rfl, fun w' hS => by (try dsimp only at hS); go_simp⟩) hS0 ?_
          simp only [Act.put, List.setIfInBounds_toArray, List.set_cons_zero, List.set_cons_succ]
          refine wpAnyH_take (i := 1) (oi := { dst := some 30, op := Op.move (Operand.tmp 3), type := 3, pos := _, after := #[], guard := none }) (v := (.int .i64 (k : Nat))) rfl (by kernel_rfl) (by kernel_rfl) (by kernel_rfl) (fun _ _ _ h => h) (Or.inl ⟨by rfl, fun w' hS => by (try dsimp only at hS); go_simp⟩) hS0 ?_
          simp only [Act.put, List.setIfInBounds_toArray, List.set_cons_zero, List.set_cons_succ]
          refine wpAnyH_take (i := 2) (oi := { dst := some 31, op := Op.fieldAddr 25 (Operand.tmp 1) 1, type := 0, pos := _, after := #[], guard := none }) (v := (.pointer (some ⟨w.heap.size, 1, none⟩))) rfl (by kernel_rfl) (by kernel_rfl) (by kernel_rfl) (fun _ _ _ h => h) (Or.inl ⟨by rfl, fun w' hS => by (try dsimp only at hS); go_simp⟩) hS0 ?_
          simp only [Act.put, List.setIfInBounds_toArray, List.set_cons_zero, List.set_cons_succ]
          refine wpAnyH_take (i := 4) (oi := { dst := some 33, op := Op.move (Operand.tmp 3), type := 3, pos := _, after := #[], guard := none }) (v := (.int .i64 (k : Nat))) rfl (by kernel_rfl) (by kernel_rfl) (by kernel_rfl) (fun _ _ _ h => h) (Or.inl ⟨by rfl, fun w' hS => by (try dsimp only at hS); go_simp⟩) hS0 ?_
          simp only [Act.put, List.setIfInBounds_toArray, List.set_cons_zero, List.set_cons_succ]
          refine wpAnyH_take (i := 3) (oi := { dst := some 32, op := Op.load 23 (Operand.tmp 31), type := 23, pos := _, after := #[{ on := 2, ground := Ground.data }], guard := none }) (v := (.slice (some ⟨b1, o1, none⟩) 8 vc1)) rfl (by kernel_rfl) (by kernel_rfl) (by kernel_rfl) (fun _ _ _ h => h) (Or.inl ⟨by rfl, fun w' hS => by (try dsimp only at hS); go_simp⟩) hS0 ?_
          simp only [Act.put, List.setIfInBounds_toArray, List.set_cons_zero, List.set_cons_succ]
          refine wpAnyH_take (i := 5) (oi := { dst := some 34, op := Op.indexAddr 23 (Operand.tmp 32) (Operand.tmp 33), type := 0, pos := _, after := #[{ on := 3, ground := Ground.data }, { on := 4, ground := Ground.data }], guard := none }) (v := (.pointer (some ⟨b1, o1 + k, none⟩))) rfl (by kernel_rfl) (by kernel_rfl) (by kernel_rfl) (fun _ _ _ h => h) (Or.inl ⟨by rfl, fun w' hS => by (try dsimp only at hS); go_simp⟩) hS0 ?_
          simp only [Act.put, List.setIfInBounds_toArray, List.set_cons_zero, List.set_cons_succ]
          refine wpAnyH_take (i := 6) (oi := { dst := some 35, op := Op.load 31 (Operand.tmp 34), type := 31, pos := _, after := #[{ on := 5, ground := Ground.data }], guard := none }) (v := (.slice (A1 k) (R k).length (k1 k))) rfl (by kernel_rfl) (by kernel_rfl) (by kernel_rfl) (fun _ _ _ h => h) (Or.inl ⟨by rfl, fun w' hS => by (try dsimp only at hS); go_simp⟩) hS0 ?_
          simp only [Act.put, List.setIfInBounds_toArray, List.set_cons_zero, List.set_cons_succ]
          refine wpAnyH_ready (rs := [7]) (by kernel_rfl) (by simp) ?_
          refine AllReadyH.cons (o := { dst := some 36, op := Op.call { callee := Callee.value (Operand.func 71), args := #[Operand.tmp 29, Operand.tmp 30, Operand.tmp 35, Operand.const (Value.bool true)], argTypes := #[25, 3, 31, 4] }, type := 4, pos := _, after := #[{ on := 0, ground := Ground.data }, { on := 1, ground := Ground.data }, { on := 6, ground := Ground.data }], guard := none }) rfl (fun K hK => ?_) AllReadyH.nil
          go_simp
          refine (HN.out _ hS0).mono ?_
          rintro e w8 ⟨rfl, hb8⟩
          refine hK.out _ _ (hS0.trans hb8) (fun hB => ?_)
          clear hK K hB
          try simp only [Act.put, List.setIfInBounds_toArray, List.set_cons_zero, List.set_cons_succ]
          refine wpAnyH_take (i := 8) (oi := { dst := some 37, op := Op.unOp UnOp.not 4 (Operand.tmp 36), type := 4, pos := _, after := #[{ on := 7, ground := Ground.data }], guard := none }) (v := (.bool false)) rfl (by kernel_rfl) (by kernel_rfl) (by kernel_rfl) (fun _ _ _ h => h) (Or.inl ⟨by rfl, fun w' hS => by (try dsimp only at hS); go_simp⟩) (hS0.trans hb8) ?_
          simp only [Act.put, List.setIfInBounds_toArray, List.set_cons_zero, List.set_cons_succ]
          refine wpAnyH_take (i := 9) (oi := { dst := some 38, op := Op.move (Operand.tmp 37), type := 4, pos := _, after := #[{ on := 8, ground := Ground.data }, { on := 7, ground := Ground.chain }], guard := none }) (v := (.bool false)) rfl (by kernel_rfl) (by kernel_rfl) (by kernel_rfl) (fun _ _ _ h => h) (Or.inl ⟨by rfl, fun w' hS => by (try dsimp only at hS); go_simp⟩) (hS0.trans hb8) ?_
          simp only [Act.put, List.setIfInBounds_toArray, List.set_cons_zero, List.set_cons_succ]
          refine wpAnyH_take (i := 10) (oi := { dst := some 39, op := Op.load 25 (Operand.tmp 1), type := 25, pos := _, after := #[{ on := 9, ground := Ground.guard }], guard := some (9, false) }) (v := (.agg #[.int .i64 now, .slice (some ⟨b1, o1, none⟩) 8 vc1, .slice (some ⟨b2, o2, none⟩) 8 vc2])) rfl (by kernel_rfl) (by kernel_rfl) (by kernel_rfl) (fun _ _ _ h => h) (Or.inl ⟨by rfl, fun w' hS => by (try dsimp only at hS); go_simp⟩) (hS0.trans hb8) ?_
          simp only [Act.put, List.setIfInBounds_toArray, List.set_cons_zero, List.set_cons_succ]
          refine wpAnyH_take (i := 11) (oi := { dst := some 40, op := Op.move (Operand.tmp 3), type := 3, pos := _, after := #[{ on := 9, ground := Ground.guard }], guard := some (9, false) }) (v := (.int .i64 (k : Nat))) rfl (by kernel_rfl) (by kernel_rfl) (by kernel_rfl) (fun _ _ _ h => h) (Or.inl ⟨by rfl, fun w' hS => by (try dsimp only at hS); go_simp⟩) (hS0.trans hb8) ?_
          simp only [Act.put, List.setIfInBounds_toArray, List.set_cons_zero, List.set_cons_succ]
          refine wpAnyH_take (i := 12) (oi := { dst := some 41, op := Op.fieldAddr 25 (Operand.tmp 1) 2, type := 0, pos := _, after := #[{ on := 9, ground := Ground.guard }], guard := some (9, false) }) (v := (.pointer (some ⟨w.heap.size, 2, none⟩))) rfl (by kernel_rfl) (by kernel_rfl) (by kernel_rfl) (fun _ _ _ h => h) (Or.inl ⟨by rfl, fun w' hS => by (try dsimp only at hS); go_simp⟩) (hS0.trans hb8) ?_
          simp only [Act.put, List.setIfInBounds_toArray, List.set_cons_zero, List.set_cons_succ]
          refine wpAnyH_take (i := 14) (oi := { dst := some 43, op := Op.move (Operand.tmp 3), type := 3, pos := _, after := #[{ on := 9, ground := Ground.guard }], guard := some (9, false) }) (v := (.int .i64 (k : Nat))) rfl (by kernel_rfl) (by kernel_rfl) (by kernel_rfl) (fun _ _ _ h => h) (Or.inl ⟨by rfl, fun w' hS => by (try dsimp only at hS); go_simp⟩) (hS0.trans hb8) ?_
          simp only [Act.put, List.setIfInBounds_toArray, List.set_cons_zero, List.set_cons_succ]
          refine wpAnyH_take (i := 13) (oi := { dst := some 42, op := Op.load 23 (Operand.tmp 41), type := 23, pos := _, after := #[{ on := 12, ground := Ground.data }, { on := 9, ground := Ground.guard }], guard := some (9, false) }) (v := (.slice (some ⟨b2, o2, none⟩) 8 vc2)) rfl (by kernel_rfl) (by kernel_rfl) (by kernel_rfl) (fun _ _ _ h => h) (Or.inl ⟨by rfl, fun w' hS => by (try dsimp only at hS); go_simp⟩) (hS0.trans hb8) ?_
          simp only [Act.put, List.setIfInBounds_toArray, List.set_cons_zero, List.set_cons_succ]
          refine wpAnyH_take (i := 15) (oi := { dst := some 44, op := Op.indexAddr 23 (Operand.tmp 42) (Operand.tmp 43), type := 0, pos := _, after := #[{ on := 13, ground := Ground.data }, { on := 14, ground := Ground.data }, { on := 9, ground := Ground.guard }], guard := some (9, false) }) (v := (.pointer (some ⟨b2, o2 + k, none⟩))) rfl (by kernel_rfl) (by kernel_rfl) (by kernel_rfl) (fun _ _ _ h => h) (Or.inl ⟨by rfl, fun w' hS => by (try dsimp only at hS); go_simp⟩) (hS0.trans hb8) ?_
          simp only [Act.put, List.setIfInBounds_toArray, List.set_cons_zero, List.set_cons_succ]
          refine wpAnyH_take (i := 16) (oi := { dst := some 45, op := Op.load 31 (Operand.tmp 44), type := 31, pos := _, after := #[{ on := 15, ground := Ground.data }, { on := 9, ground := Ground.guard }], guard := some (9, false) }) (v := (.slice (A2 k) (R (8 + k)).length (k2 k))) rfl (by kernel_rfl) (by kernel_rfl) (by kernel_rfl) (fun _ _ _ h => h) (Or.inl ⟨by rfl, fun w' hS => by (try dsimp only at hS); go_simp⟩) (hS0.trans hb8) ?_
          simp only [Act.put, List.setIfInBounds_toArray, List.set_cons_zero, List.set_cons_succ]
          refine wpAnyH_ready (rs := [17]) (by kernel_rfl) (by simp) ?_
          refine AllReadyH.cons (o := { dst := some 46, op := Op.call { callee := Callee.value (Operand.func 71), args := #[Operand.tmp 39, Operand.tmp 40, Operand.tmp 45, Operand.const (Value.bool false)], argTypes := #[25, 3, 31, 4] }, type := 4, pos := _, after := #[{ on := 10, ground := Ground.data }, { on := 11, ground := Ground.data }, { on := 16, ground := Ground.data }, { on := 9, ground := Ground.chain }, { on := 9, ground := Ground.guard }], guard := some (9, false) }) rfl (fun K hK => ?_) AllReadyH.nil
          go_simp
          refine (HF.out _ (hS0.trans hb8)).mono ?_
          rintro e w9 ⟨rfl, hb9⟩
          refine hK.out _ _ ((hS0.trans hb8).trans hb9) (fun hB => ?_)
          clear hK K hB
          try simp only [Act.put, List.setIfInBounds_toArray, List.set_cons_zero, List.set_cons_succ]
          refine wpAnyH_take (i := 18) (oi := { dst := some 47, op := Op.unOp UnOp.not 4 (Operand.tmp 46), type := 4, pos := _, after := #[{ on := 17, ground := Ground.data }, { on := 9, ground := Ground.guard }], guard := some (9, false) }) (v := (.bool true)) rfl (by kernel_rfl) (by kernel_rfl) (by kernel_rfl) (fun _ _ _ h => h) (Or.inl ⟨by rfl, fun w' hS => by (try dsimp only at hS); go_simp⟩) ((hS0.trans hb8).trans hb9) ?_
          simp only [Act.put, List.setIfInBounds_toArray, List.set_cons_zero, List.set_cons_succ]
          refine wpAnyH_take (i := 19) (oi := { dst := some 48, op := Op.pick (Operand.tmp 38) (Operand.const (Value.bool true)) (Operand.tmp 47), type := 4, pos := _, after := #[{ on := 9, ground := Ground.data }, { on := 18, ground := Ground.data }], guard := none }) (v := (.bool true)) rfl (by kernel_rfl) (by kernel_rfl) (by kernel_rfl) (fun _ _ _ h => h) (Or.inl ⟨by rfl, fun w' hS => by (try dsimp only at hS); go_simp⟩) ((hS0.trans hb8).trans hb9) ?_
          simp only [Act.put, List.setIfInBounds_toArray, List.set_cons_zero, List.set_cons_succ]
          refine wpAnyH_done (by kernel_rfl) ?_ _
          refine NoPanic.normal ?_
          go_wp2
          go_ret
          exact bres_no HBAD.out (HB0.out.trans ((hS0.trans hb8).trans hb9))
      · have HN : Hid (∀ w', Blw W0 w' → Calls Try.prog 71 #[.agg #[.int .i64 now, .slice (some ⟨b1, o1, none⟩) 8 vc1, .slice (some ⟨b2, o2, none⟩) 8 vc2], .int .i64 k, .slice (A1 k) (R k).length (k1 k), .bool true] w' fun e w'' => e = .returned (.bool false) ∧ Blw w' w'') := fun w' hb => (hNN w' hb).mono (by
          rintro e w'' ⟨b, rfl, hb1, hb2⟩
          obtain rfl : b = false := by (cases b; rfl; exact absurd (hb1.1 rfl) r1)
          exact ⟨rfl, hb2⟩)
        have HBAD : Hid (¬ p) := fun hp => r1 ((HGD.out.1 hp).1 k hlt).1
        clear hNN hFF r1 hI
        go_wp2_with fail
        refine wp_region_noPanic ?_
        refine wp_region_held_drew (S := (Blw W0)) (by kernel_rfl) hS0 (fun hB => ?_)
        clear hB
        generalize wr.drew = wd at *
        refine wpAnyH_take (i := 0) (oi := { dst := some 29, op := Op.load 25 (Operand.tmp 1), type := 25, pos := _, after := #[], guard := none }) (v := (.agg #[.int .i64 now, .slice (some ⟨b1, o1, none⟩) 8 vc1, .slice (some ⟨b2, o2, none⟩) 8 vc2])) rfl (by kernel_rfl) (by kernel_rfl) (by kernel_rfl) (fun _ _ _ h => h) (Or.inl ⟨by rfl, fun w' hS => by (try dsimp only at hS); go_simp⟩) hS0 ?_
        simp only [Act.put, List.setIfInBounds_toArray, List.set_cons_zero, List.set_cons_succ]
        refine wpAnyH_take (i := 1) (oi := { dst := some 30, op := Op.move (Operand.tmp 3), type := 3, pos := _, after := #[], guard := none }) (v := (.int .i64 (k : Nat))) rfl (by kernel_rfl) (by kernel_rfl) (by kernel_rfl) (fun _ _ _ h => h) (Or.inl ⟨by rfl, fun w' hS => by (try dsimp only at hS); go_simp⟩) hS0 ?_
        simp only [Act.put, List.setIfInBounds_toArray, List.set_cons_zero, List.set_cons_succ]
        refine wpAnyH_take (i := 2) (oi := { dst := some 31, op := Op.fieldAddr 25 (Operand.tmp 1) 1, type := 0, pos := _, after := #[], guard := none }) (v := (.pointer (some ⟨w.heap.size, 1, none⟩))) rfl (by kernel_rfl) (by kernel_rfl) (by kernel_rfl) (fun _ _ _ h => h) (Or.inl ⟨by rfl, fun w' hS => by (try dsimp only at hS); go_simp⟩) hS0 ?_
        simp only [Act.put, List.setIfInBounds_toArray, List.set_cons_zero, List.set_cons_succ]
        refine wpAnyH_take (i := 4) (oi := { dst := some 33, op := Op.move (Operand.tmp 3), type := 3, pos := _, after := #[], guard := none }) (v := (.int .i64 (k : Nat))) rfl (by kernel_rfl) (by kernel_rfl) (by kernel_rfl) (fun _ _ _ h => h) (Or.inl ⟨by rfl, fun w' hS => by (try dsimp only at hS); go_simp⟩) hS0 ?_
        simp only [Act.put, List.setIfInBounds_toArray, List.set_cons_zero, List.set_cons_succ]
        refine wpAnyH_take (i := 3) (oi := { dst := some 32, op := Op.load 23 (Operand.tmp 31), type := 23, pos := _, after := #[{ on := 2, ground := Ground.data }], guard := none }) (v := (.slice (some ⟨b1, o1, none⟩) 8 vc1)) rfl (by kernel_rfl) (by kernel_rfl) (by kernel_rfl) (fun _ _ _ h => h) (Or.inl ⟨by rfl, fun w' hS => by (try dsimp only at hS); go_simp⟩) hS0 ?_
        simp only [Act.put, List.setIfInBounds_toArray, List.set_cons_zero, List.set_cons_succ]
        refine wpAnyH_take (i := 5) (oi := { dst := some 34, op := Op.indexAddr 23 (Operand.tmp 32) (Operand.tmp 33), type := 0, pos := _, after := #[{ on := 3, ground := Ground.data }, { on := 4, ground := Ground.data }], guard := none }) (v := (.pointer (some ⟨b1, o1 + k, none⟩))) rfl (by kernel_rfl) (by kernel_rfl) (by kernel_rfl) (fun _ _ _ h => h) (Or.inl ⟨by rfl, fun w' hS => by (try dsimp only at hS); go_simp⟩) hS0 ?_
        simp only [Act.put, List.setIfInBounds_toArray, List.set_cons_zero, List.set_cons_succ]
        refine wpAnyH_take (i := 6) (oi := { dst := some 35, op := Op.load 31 (Operand.tmp 34), type := 31, pos := _, after := #[{ on := 5, ground := Ground.data }], guard := none }) (v := (.slice (A1 k) (R k).length (k1 k))) rfl (by kernel_rfl) (by kernel_rfl) (by kernel_rfl) (fun _ _ _ h => h) (Or.inl ⟨by rfl, fun w' hS => by (try dsimp only at hS); go_simp⟩) hS0 ?_
        simp only [Act.put, List.setIfInBounds_toArray, List.set_cons_zero, List.set_cons_succ]
        refine wpAnyH_ready (rs := [7]) (by kernel_rfl) (by simp) ?_
        refine AllReadyH.cons (o := { dst := some 36, op := Op.call { callee := Callee.value (Operand.func 71), args := #[Operand.tmp 29, Operand.tmp 30, Operand.tmp 35, Operand.const (Value.bool true)], argTypes := #[25, 3, 31, 4] }, type := 4, pos := _, after := #[{ on := 0, ground := Ground.data }, { on := 1, ground := Ground.data }, { on := 6, ground := Ground.data }], guard := none }) rfl (fun K hK => ?_) AllReadyH.nil
        go_simp
        refine (HN.out _ hS0).mono ?_
        rintro e w8 ⟨rfl, hb8⟩
        refine hK.out _ _ (hS0.trans hb8) (fun hB => ?_)
        clear hK K hB
        try simp only [Act.put, List.setIfInBounds_toArray, List.set_cons_zero, List.set_cons_succ]
        refine wpAnyH_take (i := 8) (oi := { dst := some 37, op := Op.unOp UnOp.not 4 (Operand.tmp 36), type := 4, pos := _, after := #[{ on := 7, ground := Ground.data }], guard := none }) (v := (.bool true)) rfl (by kernel_rfl) (by kernel_rfl) (by kernel_rfl) (fun _ _ _ h => h) (Or.inl ⟨by rfl, fun w' hS => by (try dsimp only at hS); go_simp⟩) (hS0.trans hb8) ?_
        simp only [Act.put, List.setIfInBounds_toArray, List.set_cons_zero, List.set_cons_succ]
        refine wpAnyH_take (i := 9) (oi := { dst := some 38, op := Op.move (Operand.tmp 37), type := 4, pos := _, after := #[{ on := 8, ground := Ground.data }, { on := 7, ground := Ground.chain }], guard := none }) (v := (.bool true)) rfl (by kernel_rfl) (by kernel_rfl) (by kernel_rfl) (fun _ _ _ h => h) (Or.inl ⟨by rfl, fun w' hS => by (try dsimp only at hS); go_simp⟩) (hS0.trans hb8) ?_
        simp only [Act.put, List.setIfInBounds_toArray, List.set_cons_zero, List.set_cons_succ]
        refine wpAnyH_take (i := 10) (oi := { dst := some 39, op := Op.load 25 (Operand.tmp 1), type := 25, pos := _, after := #[{ on := 9, ground := Ground.guard }], guard := some (9, false) }) (v := undef) rfl (by kernel_rfl) (by kernel_rfl) (by kernel_rfl) (fun _ _ _ h => h) (Or.inr ⟨by rfl, rfl⟩) (hS0.trans hb8) ?_
        simp only [Act.put, List.setIfInBounds_toArray, List.set_cons_zero, List.set_cons_succ]
        refine wpAnyH_take (i := 11) (oi := { dst := some 40, op := Op.move (Operand.tmp 3), type := 3, pos := _, after := #[{ on := 9, ground := Ground.guard }], guard := some (9, false) }) (v := undef) rfl (by kernel_rfl) (by kernel_rfl) (by kernel_rfl) (fun _ _ _ h => h) (Or.inr ⟨by rfl, rfl⟩) (hS0.trans hb8) ?_
        simp only [Act.put, List.setIfInBounds_toArray, List.set_cons_zero, List.set_cons_succ]
        refine wpAnyH_take (i := 12) (oi := { dst := some 41, op := Op.fieldAddr 25 (Operand.tmp 1) 2, type := 0, pos := _, after := #[{ on := 9, ground := Ground.guard }], guard := some (9, false) }) (v := undef) rfl (by kernel_rfl) (by kernel_rfl) (by kernel_rfl) (fun _ _ _ h => h) (Or.inr ⟨by rfl, rfl⟩) (hS0.trans hb8) ?_
        simp only [Act.put, List.setIfInBounds_toArray, List.set_cons_zero, List.set_cons_succ]
        refine wpAnyH_take (i := 14) (oi := { dst := some 43, op := Op.move (Operand.tmp 3), type := 3, pos := _, after := #[{ on := 9, ground := Ground.guard }], guard := some (9, false) }) (v := undef) rfl (by kernel_rfl) (by kernel_rfl) (by kernel_rfl) (fun _ _ _ h => h) (Or.inr ⟨by rfl, rfl⟩) (hS0.trans hb8) ?_
        simp only [Act.put, List.setIfInBounds_toArray, List.set_cons_zero, List.set_cons_succ]
        refine wpAnyH_take (i := 13) (oi := { dst := some 42, op := Op.load 23 (Operand.tmp 41), type := 23, pos := _, after := #[{ on := 12, ground := Ground.data }, { on := 9, ground := Ground.guard }], guard := some (9, false) }) (v := undef) rfl (by kernel_rfl) (by kernel_rfl) (by kernel_rfl) (fun _ _ _ h => h) (Or.inr ⟨by rfl, rfl⟩) (hS0.trans hb8) ?_
        simp only [Act.put, List.setIfInBounds_toArray, List.set_cons_zero, List.set_cons_succ]
        refine wpAnyH_take (i := 15) (oi := { dst := some 44, op := Op.indexAddr 23 (Operand.tmp 42) (Operand.tmp 43), type := 0, pos := _, after := #[{ on := 13, ground := Ground.data }, { on := 14, ground := Ground.data }, { on := 9, ground := Ground.guard }], guard := some (9, false) }) (v := undef) rfl (by kernel_rfl) (by kernel_rfl) (by kernel_rfl) (fun _ _ _ h => h) (Or.inr ⟨by rfl, rfl⟩) (hS0.trans hb8) ?_
        simp only [Act.put, List.setIfInBounds_toArray, List.set_cons_zero, List.set_cons_succ]
        refine wpAnyH_take (i := 16) (oi := { dst := some 45, op := Op.load 31 (Operand.tmp 44), type := 31, pos := _, after := #[{ on := 15, ground := Ground.data }, { on := 9, ground := Ground.guard }], guard := some (9, false) }) (v := undef) rfl (by kernel_rfl) (by kernel_rfl) (by kernel_rfl) (fun _ _ _ h => h) (Or.inr ⟨by rfl, rfl⟩) (hS0.trans hb8) ?_
        simp only [Act.put, List.setIfInBounds_toArray, List.set_cons_zero, List.set_cons_succ]
        refine wpAnyH_take (i := 17) (oi := { dst := some 46, op := Op.call { callee := Callee.value (Operand.func 71), args := #[Operand.tmp 39, Operand.tmp 40, Operand.tmp 45, Operand.const (Value.bool false)], argTypes := #[25, 3, 31, 4] }, type := 4, pos := _, after := #[{ on := 10, ground := Ground.data }, { on := 11, ground := Ground.data }, { on := 16, ground := Ground.data }, { on := 9, ground := Ground.chain }, { on := 9, ground := Ground.guard }], guard := some (9, false) }) (v := undef) rfl (by kernel_rfl) (by kernel_rfl) (by kernel_rfl) (fun _ _ _ h => h) (Or.inr ⟨by rfl, rfl⟩) (hS0.trans hb8) ?_
        simp only [Act.put, List.setIfInBounds_toArray, List.set_cons_zero, List.set_cons_succ]
        refine wpAnyH_take (i := 18) (oi := { dst := some 47, op := Op.unOp UnOp.not 4 (Operand.tmp 46), type := 4, pos := _, after := #[{ on := 17, ground := Ground.data }, { on := 9, ground := Ground.guard }], guard := some (9, false) }) (v := undef) rfl (by kernel_rfl) (by kernel_rfl) (by kernel_rfl) (fun _ _ _ h => h) (Or.inr ⟨by rfl, rfl⟩) (hS0.trans hb8) ?_
        simp only [Act.put, List.setIfInBounds_toArray, List.set_cons_zero, List.set_cons_succ]
        refine wpAnyH_take (i := 19) (oi := { dst := some 48, op := Op.pick (Operand.tmp 38) (Operand.const (Value.bool true)) (Operand.tmp 47), type := 4, pos := _, after := #[{ on := 9, ground := Ground.data }, { on := 18, ground := Ground.data }], guard := none }) (v := (.bool true)) rfl (by kernel_rfl) (by kernel_rfl) (by kernel_rfl) (fun _ _ _ h => h) (Or.inl ⟨by rfl, fun w' hS => by (try dsimp only at hS); go_simp⟩) (hS0.trans hb8) ?_
        simp only [Act.put, List.setIfInBounds_toArray, List.set_cons_zero, List.set_cons_succ]
        refine wpAnyH_done (by kernel_rfl) ?_ _
        refine NoPanic.normal ?_
        go_wp2
        go_ret
        exact bres_no HBAD.out (HB0.out.trans (hS0.trans hb8))
    · obtain rfl : k = 8 := by omega
      obtain ⟨hbr, hrows⟩ := hI.out
      have HROWS : Hid (∀ j, j < 8 → RowOk now j true (R j) ∧ RowOk now j false (R (8 + j))) := hrows
      have HBR : Hid (Blw W0 wr) := hbr
      obtain ⟨c0, c1, c2⟩ := get3 (HA.out.blw hbr)
      have HALL : Hid (Calls Try.prog 58 #[.agg #[.int .i64 now, .slice (some ⟨b1, o1, none⟩) 8 vc1, .slice (some ⟨b2, o2, none⟩) 8 vc2]] wr fun e w' => ∃ a c, e = .returned (.slice a (allS 8 R).length c) ∧ Hid (LB (fun b => wr.heap.size ≤ b ∧ b < w'.heap.size) w' a c (allS 8 R) ∧ Blw wr w')) :=
        l11All_any ⟨some ⟨b1, o1, none⟩, some ⟨b2, o2, none⟩, vc1, vc2⟩ now ⟨8, l1, q1, m1⟩ ⟨8, l2, q2, m2⟩ R Y wr rfl rfl (HRW.out.blw (HB0.out.trans hbr)) HLL.out
      obtain ⟨L, hL⟩ : ∃ L, allS 8 R = L := ⟨_, rfl⟩
      rw [hL] at HALL HLL HGD
      have hLn : L.length ≤ 1048576 := HLL.out
      clear hI hrows hbr hL HR1 HR2 HRW
      go_wp2_with (first | (go_at_call 58; refine HALL.out.mono ?_; rintro e w2 ⟨a, c, rfl, hE⟩; clear c0 c1 c2 HALL) | fail)
      have HB2 : Hid (Blw W0 w2) := HBR.out.trans hE.out.2
      have HU : Hid (UndosAt (fun b => b < w2.heap.size) w2 a L.length (lf L) (la L)) := (LB.at hE.out.1 (by omega)).mono (fun b hb => hb.2)
      clear hE HBR HA
      go_loopw [4, 53] (fun s4 i w3 => ∃ (j : Nat) (ao : Option Addr) (cc : Nat), j ≤ L.length ∧ i = .int .i64 j ∧ s4 = .slice ao j cc ∧ Hid (BufI (fun b => w2.heap.size ≤ b) w3 (.slice ao j cc) j (lf L) ∧ Blw w2 w3 ∧ Dist L j)) (fun _ i _ => L.length - (intOf i).toNat)
      case atStart => exact ⟨0, none, 0, Nat.zero_le _, rfl, rfl, ⟨Buf.nil _ _ _ _ _, Blw.refl _, fun i j _ hj => absurd hj (Nat.not_lt_zero _)⟩⟩
      case round =>
        rename World => w3
        obtain ⟨j, ao, cc, hj, rfl, rfl, hE⟩ := hrel
        by_cases hjl : j < L.length
        · obtain ⟨hB, hb, hD⟩ := hE.out
          obtain ⟨bb, oo, rfl, -, g0, g1⟩ := (HU.out.blw hb).2 j hjl
          simp only [lf, la] at g0 g1
          have hba : Blw w3 (w3.alloc (.cells #[.int .i64 (nth L j).1, .int .i64 (nth L j).2] 39)) := (Blw.refl _).alloc _
          obtain ⟨q0, -⟩ := get2 (box2 w3 (.int .i64 (nth L j).1) (.int .i64 (nth L j).2) 39)
          have hBa : BufI (fun b => w2.heap.size ≤ b) (w3.alloc (.cells #[.int .i64 (nth L j).1, .int .i64 (nth L j).2] 39)) (.slice ao j cc) j (lf L) := Buf.blw hB hba
          have HIA : Hid (IntsAt (fun b => w2.heap.size ≤ b) (w3.alloc (.cells #[.int .i64 (nth L j).1, .int .i64 (nth L j).2] 39)) ao j (lf L)) := by
            obtain ⟨ao2, cap, e, ho⟩ := BufI.own hBa (by omega)
            simp only [Value.slice.injEq] at e
            obtain ⟨rfl, -, rfl⟩ := e
            exact ho.at
          have HBa : Hid (BufI (fun b => w2.heap.size ≤ b) (w3.alloc (.cells #[.int .i64 (nth L j).1, .int .i64 (nth L j).2] 39)) (.slice ao j cc) j (lf L) ∧ Blw w2 (w3.alloc (.cells #[.int .i64 (nth L j).1, .int .i64 (nth L j).2] 39))) := ⟨hBa, hb.trans hba⟩
          have HDI : Hid (Dist L j) := hD
          clear hB hb hD hE hba hBa
          go_upto_region 13 with fail
          clear g0 g1
          generalize w3.alloc (.cells #[.int .i64 (nth L j).1, .int .i64 (nth L j).2] 39) = W3 at *
          by_cases hh : hasLine j (lf L) (nth L j).1
          · have HH : Hid (hasLine j (lf L) (nth L j).1) := hh
            have HBAD : Hid (¬ p) := fun hp => by
              obtain ⟨t, ht, e⟩ := hh
              exact (HGD.out.1 hp).2.1 t j ht hjl e
            clear hh
            go_wp2_with (first | (go_at_call 72; refine (l1Has_any _ _ _ _ _ _ _ HIA.out).mono ?_; rintro e w' ⟨b, rfl, hb, hw⟩; replace hw := hw.symm; subst hw; obtain rfl : b = true := hb.2 HH.out))
            go_ret
            exact bres_no HBAD.out ((HB0.out.trans HB2.out).trans HBa.out.2)
          · have HH : Hid (¬ hasLine j (lf L) (nth L j).1) := hh
            have HD2 : Hid (Dist L (j + 1)) := fun i i' h1 h2 => by
              by_cases e : i' = j
              · subst e; exact fun e2 => hh ⟨i, h1, e2⟩
              · exact HDI.out i i' h1 (by omega)
            clear hh
            have hal : Blw W3 (W3.alloc (.cells #[.int .i64 (nth L j).1] 3)) := (Blw.refl _).alloc _
            obtain ⟨a9, c9, w9, hrun, hB9, hm9⟩ := BufI.append (Buf.blw HBa.out.1 hal) 1 (one_ints W3 (nth L j).1) (by omega) 28
            have hs9 := (HBa.out.2.trans hal).size
            have HF9 : Hid (BufI (fun b => w2.heap.size ≤ b) w9 (.slice a9 (j + 1) c9) (j + 1) (lf L) ∧ Blw w2 w9 ∧ Dist L (j + 1)) := by
              refine ⟨(hB9.mono (fun b hb => hb.1.elim id (fun e => by omega))).congr (fun i hi => ?_), Mod.blw (HBa.out.2.trans hal) hm9 (fun i e => HBa.out.1.2 i e), HD2.out⟩
              simp only [ic, icat]
              by_cases e : i < j
              · rw [if_pos e]
              · rw [if_neg e]
                obtain rfl : i = j := by omega
                rfl
            clear hB9 hm9 hal hs9
            go_wp2_with (first | (go_at_call 72; refine (l1Has_any _ _ _ _ _ _ _ HIA.out).mono ?_; rintro e w' ⟨b, rfl, hb, hw⟩; replace hw := hw.symm; subst hw; obtain rfl : b = false := (by cases b; rfl; exact absurd (hb.1 rfl) HH.out)) | (at_builtin; refine wpList_append_run rfl _ _ 28 rfl _ _ rfl rfl hrun ?_))
            go_roundw
            case rel => exact ⟨j + 1, a9, c9, by omega, by go_num, rfl, HF9.out⟩
            case measure => simp [intOf]; omega
        · obtain rfl : j = L.length := by omega
          have HD2 := hE.out.2.2
          have HFB : Hid (Blw w w3) := (HB0.out.trans HB2.out).trans hE.out.2.1
          have HPF : Hid (p ↔ L.length ≤ 20) := ⟨fun hp => (HGD.out.1 hp).2.2, fun hl => HGD.out.2 ⟨HROWS.out, HD2, hl⟩⟩
          clear hE HD2
          by_cases h20 : L.length ≤ 20
          · have hd : decide ((L.length : Int) ≤ 20) = true := decide_eq_true (by omega)
            go_wp2
            go_ret
            exact ⟨_, rfl, by simp only [BOf]; constructor <;> intro _ <;> first | exact HPF.out.2 h20 | simp | (simp; omega), HFB.out⟩
          · have hd : decide ((L.length : Int) ≤ 20) = false := decide_eq_false (by omega)
            have HNP : Hid (¬ p) := fun hp => h20 (HPF.out.1 hp)
            go_wp2
            go_ret
            exact ⟨_, rfl, by simp only [BOf]; constructor <;> intro hx <;> first | exact absurd hx HNP.out | (exfalso; simp at hx; done) | (exfalso; simp at hx; omega), HFB.out⟩
theorem specGood_any (v : WV) (D : WD) (Y : Nat → Prop) (w : World) (h : WAt Y w v D) (hS : D.small) : Calls Try.prog 38 #[v.val D] w (BRes (GoodD D) w) := by
  by_cases hc : (0 ≤ D.now ∧ D.now ≤ 1000) ∧ D.N.n = 8 ∧ D.F.n = 8
  · exact specGood_go v D Y w h hS hc.1 hc.2.1 hc.2.2
  · exact specGood_early v D w h.n.1 h.f.1 hc
end Go.Proofs.Ytkmkidahaagbpaa
