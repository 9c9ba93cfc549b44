/- Laid together, in this order: Smw, LawX. -/
import Derived.Test.YtkmkidahaagbpaaWhl
import Derived.Test.YtkmkidahaagbpaaRn
import Derived.Test.YtkmkidahaagbpaaSml
import Derived.Test.YtkmkidahaagbpaaDrwm
import Derived.Test.YtkmkidahaagbpaaJC
import Derived.Test.YtkmkidahaagbpaaTk1
/- What the drawn laws compare: numbers, timers, wheels. -/
namespace Go.Proofs.Ytkmkidahaagbpaa
open Go.RowKit
set_option linter.unusedSimpArgs false
set_option linter.unusedVariables false
set_option maxHeartbeats 1600000 in
theorem sameInts_same (a1 a2 : Option Addr) (c1 c2 : Nat) (n0 : Nat) (f : Nat → Int) {Y Z : Nat → Prop} (w : World) (h1 : IntsAt Y w a1 n0 f) (h2 : IntsAt Z w a2 n0 f) :
    Calls Try.prog 17 #[.slice a1 n0 c1, .slice a2 n0 c2] w fun e w' => e = .returned (.bool true) ∧ Blw w w' := by
  have H1 : Hid (IntsAt Y w a1 n0 f) := h1
  have H2 : Hid (IntsAt Z w a2 n0 f) := h2
  have hn := h1.1
  have hne : ((n0 : Int) != (n0 : Int)) = false := by simp
  clear h1 h2
  go_enter Try.func17, Try.ntmps17
  go_wp2_with fail
  go_loopw [13] (fun i wr => ∃ k : Nat, k ≤ n0 ∧ i = .int .i64 k ∧ Blw w wr) (fun i _ => n0 - (intOf i).toNat)
  case atStart => exact ⟨0, Nat.zero_le _, rfl, Blw.refl _⟩
  case round =>
    rename World => wr
    obtain ⟨k, hk, rfl, hb⟩ := hrel
    have HB : Hid (Blw w wr) := hb
    clear hb
    by_cases hlt : k < n0
    · have hlt' : (k : Int) < n0 := by omega
      obtain ⟨b, o, rfl, -, g1⟩ := (H1.out.blw HB.out).2 k hlt
      obtain ⟨b', o', rfl, -, g2⟩ := (H2.out.blw HB.out).2 k hlt
      have hfe : (f k != f k) = false := by simp
      go_upto_region 6 with fail
      go_quiet (fail)
      go_wp2
      go_roundw
      case rel => exact ⟨k + 1, by omega, by go_num, HB.out.drewN _⟩
      case measure => simp [intOf]; omega
    · obtain rfl : k = n0 := by omega
      go_wp2
      go_ret
      exact ⟨rfl, HB.out⟩
set_option maxHeartbeats 1600000 in
theorem sameTimers_same (a1 a2 : Option Addr) (c1 c2 n : Nat) (f g : Nat → Int) {X Y : Nat → Prop} (w : World) (h1 : UndosAt X w a1 n f g) (h2 : UndosAt Y w a2 n f g) :
    Calls Try.prog 19 #[.slice a1 n c1, .slice a2 n c2] w fun e w' => e = .returned (.bool true) ∧ Blw w w' := by
  have H1 : Hid (UndosAt X w a1 n f g) := h1
  have H2 : Hid (UndosAt Y w a2 n f g) := h2
  have hn := h1.1
  have hne : ((n : Int) != (n : Int)) = false := by simp
  clear h1 h2
  go_enter Try.func19, Try.ntmps19
  go_wp2_with fail
  go_loopw [13] (fun i wr => ∃ k : Nat, k ≤ n ∧ i = .int .i64 k ∧ Blw w wr) (fun i _ => n - (intOf i).toNat)
  case atStart => exact ⟨0, Nat.zero_le _, rfl, Blw.refl _⟩
  case round =>
    rename World => wr
    obtain ⟨k, hk, rfl, hb⟩ := hrel
    have HB : Hid (Blw w wr) := hb
    clear hb
    by_cases hlt : k < n
    · have hlt' : (k : Int) < n := by omega
      obtain ⟨b1, o1, rfl, -, r10, r11⟩ := (H1.out.blw HB.out).2 k hlt
      obtain ⟨b2, o2, rfl, -, r20, r21⟩ := (H2.out.blw HB.out).2 k hlt
      have hfe : (f k != f k) = false := by simp
      have hge : (g k != g k) = false := by simp
      go_upto_region 6 with fail
      go_quiet (fail)
      go_wp2
      go_roundw
      case rel => exact ⟨k + 1, by omega, by go_num, HB.out.drewN _⟩
      case measure => simp [intOf]; omega
    · obtain rfl : k = n := by omega
      go_wp2
      go_ret
      exact ⟨rfl, HB.out⟩
set_option maxHeartbeats 1600000 in
theorem hasNum_any (a : Option Addr) (c : Nat) (l : List Int) (x : Int) {Y : Nat → Prop} (w : World) (h : IntsAt Y w a l.length (gi l)) :
    Calls Try.prog 28 #[.slice a l.length c, .int .i64 x] w fun e w' => ∃ b, e = .returned (.bool b) ∧ BOf (x ∈ l) b ∧ Blw w w' := by
  have H1 : Hid (IntsAt Y w a l.length (gi l)) := h
  have hn := h.1
  clear h
  go_enter Try.func28, Try.ntmps28
  go_wp2_with fail
  go_loopw [9] (fun i wr => ∃ k : Nat, k ≤ l.length ∧ i = .int .i64 k ∧ Hid (Blw w wr ∧ ∀ j, j < k → gi l j ≠ x)) (fun i _ => l.length - (intOf i).toNat)
  case atStart => exact ⟨0, Nat.zero_le _, rfl, Blw.refl _, fun j hj => absurd hj (Nat.not_lt_zero _)⟩
  case round =>
    rename World => wr
    obtain ⟨k, hk, rfl, hE⟩ := hrel
    by_cases hlt : k < l.length
    · have hlt' : (k : Int) < l.length := by omega
      obtain ⟨b, o, rfl, -, g1⟩ := (H1.out.blw hE.out.1).2 k hlt
      by_cases hx : gi l k = x
      · have HM : Hid (x ∈ l) := by
          show _ ∈ _
          rw [← hx]
          simp [gi, List.getD_eq_getElem?_getD, List.getElem?_eq_getElem hlt]
        have hxe : (gi l k == x) = true := by simp [hx]
        go_wp2_with fail
        go_ret
        exact ⟨true, rfl, ⟨fun _ => HM.out, fun _ => rfl⟩, hE.out.1⟩
      · have hxe : (gi l k == x) = false := by simp [hx]
        have HN : Hid (∀ j, j < k + 1 → gi l j ≠ x) := fun j hj => by
          by_cases e : j = k
          · subst e; exact hx
          · exact hE.out.2 j (by omega)
        go_wp2_with fail
        go_roundw
        case rel => exact ⟨k + 1, by omega, by go_num, hE.out.1, HN.out⟩
        case measure => simp [intOf]; omega
    · obtain rfl : k = l.length := by omega
      have HN : Hid (¬ x ∈ l) := by
        intro hm
        obtain ⟨j, hj, e⟩ := List.getElem_of_mem hm
        exact hE.out.2 j hj (by simp [gi, List.getD_eq_getElem?_getD, List.getElem?_eq_getElem hj, e])
      go_wp2_with fail
      go_ret
      exact ⟨false, rfl, ⟨(fun h => by cases h), fun h => absurd h HN.out⟩, hE.out.1⟩
set_option maxRecDepth 10000 in
set_option maxHeartbeats 3200000 in
theorem sameWheel_same (v v' : WV) (D : WD) {X Y : Nat → Prop} (w : World) (h1 : WAt X w v D) (h2 : WAt Y w v' D) :
    Calls Try.prog 18 #[v.val D, v'.val D] w fun e w' => e = .returned (.bool true) ∧ Blw w w' := by
  obtain ⟨now, N, F⟩ := D
  have hnn := h1.n.1
  have hff := h1.f.1
  have hb0 : Blw w ((w.alloc (.cells #[.int .i64 now, .slice v.a1 N.n v.c1, .slice v.a2 F.n v.c2] 25)).alloc (.cells #[.int .i64 now, .slice v'.a1 N.n v'.c1, .slice v'.a2 F.n v'.c2] 25)) := ((Blw.refl _).alloc _).alloc _
  have rA := (box3 w (.int .i64 now) (.slice v.a1 N.n v.c1) (.slice v.a2 F.n v.c2) 25).blw ((Blw.refl _).alloc (.cells #[.int .i64 now, .slice v'.a1 N.n v'.c1, .slice v'.a2 F.n v'.c2] 25))
  have rB := box3 (w.alloc (.cells #[.int .i64 now, .slice v.a1 N.n v.c1, .slice v.a2 F.n v.c2] 25)) (.int .i64 now) (.slice v'.a1 N.n v'.c1) (.slice v'.a2 F.n v'.c2) 25
  rw [World.size_alloc] at rB
  obtain ⟨W0, hW0⟩ : ∃ W0, ((w.alloc (.cells #[.int .i64 now, .slice v.a1 N.n v.c1, .slice v.a2 F.n v.c2] 25)).alloc (.cells #[.int .i64 now, .slice v'.a1 N.n v'.c1, .slice v'.a2 F.n v'.c2] 25)) = W0 := ⟨_, rfl⟩
  rw [hW0] at hb0 rA rB
  have H1 : Hid (WAt X W0 v ⟨now, N, F⟩) := h1.blw hb0
  have H2 : Hid (WAt Y W0 v' ⟨now, N, F⟩) := h2.blw hb0
  have HB0 : Hid (Blw w W0) := hb0
  have HA : Hid (Row W0 w.heap.size 3 (t3 (.int .i64 now) (.slice v.a1 N.n v.c1) (.slice v.a2 F.n v.c2))) := rA
  have HA2 : Hid (Row W0 (w.heap.size + 1) 3 (t3 (.int .i64 now) (.slice v'.a1 N.n v'.c1) (.slice v'.a2 F.n v'.c2))) := rB
  clear h1 h2 hb0
  have hne : (now != now) = false := by simp
  have hne2 : ((N.n : Int) != (N.n : Int)) = false := by simp
  have hne3 : ((F.n : Int) != (F.n : Int)) = false := by simp
  obtain ⟨p0, p1, p2⟩ := get3 rA
  obtain ⟨q0, q1, q2⟩ := get3 rB
  clear rA rB
  go_enter Try.func18, Try.ntmps18
  go_upto_region 1 with fail
  try simp only [hW0]
  clear hW0
  go_wp2_with fail
  clear p0 p1 p2 q0 q1 q2
  go_loopw [33] (fun i wr => ∃ k : Nat, k ≤ N.n ∧ i = .int .i64 k ∧ Blw W0 wr) (fun i _ => N.n - (intOf i).toNat)
  case atStart => exact ⟨0, Nat.zero_le _, rfl, Blw.refl _⟩
  case round =>
    rename World => wr
    obtain ⟨k, hk, rfl, hb⟩ := hrel
    have HB : Hid (Blw W0 wr) := hb
    clear hb
    by_cases hlt : k < N.n
    · have hlt' : (k : Int) < N.n := by omega
      obtain ⟨b1, o1, a1, c1, e1, -, g1, u1⟩ := (H1.out.n.blw HB.out).2 k hlt
      obtain ⟨b2, o2, a2, c2, e2, -, g2, u2⟩ := (H2.out.n.blw HB.out).2 k hlt
      have G1 : ∀ w', Blw wr w' → w'.cell? ⟨b1, o1 + k, none⟩ = some (.slice a1 (N.len k) c1) := fun w' hh => hh.cell g1
      have G2 : ∀ w', Blw wr w' → w'.cell? ⟨b2, o2 + k, none⟩ = some (.slice a2 (N.len k) c2) := fun w' hh => hh.cell g2
      have A1 : ∀ w', Blw wr w' → w'.cell? ⟨w.heap.size, 1, none⟩ = some (.slice (some ⟨b1, o1, none⟩) N.n v.c1) := fun w' hh => by have h5 := (get3 ((HA.out.blw HB.out).blw hh)).2.1; rw [h5, e1]
      have A2 : ∀ w', Blw wr w' → w'.cell? ⟨w.heap.size + 1, 1, none⟩ = some (.slice (some ⟨b2, o2, none⟩) N.n v'.c1) := fun w' hh => by have h5 := (get3 ((HA2.out.blw HB.out).blw hh)).2.1; rw [h5, e2]
      have U1 : Hid (UndosAt _ wr a1 (N.len k) (N.p k) (N.m k)) := u1
      have U2 : Hid (UndosAt _ wr a2 (N.len k) (N.p k) (N.m k)) := u2
      have hrf : Blw wr wr := Blw.refl _
      clear g1 g2 u1 u2 e1 e2
      go_upto_region 6 with fail
      go_region_held3 (fun w' => Blw wr w') ((first | exact (Blw.refl _).drew | assumption | exact Blw.trans (by assumption) (by assumption))) (first
        | (go_at_call 19; refine (sameTimers_same _ _ _ _ _ _ _ _ (U1.out.blw (by assumption)) (U2.out.blw (by assumption))).mono ?_; rintro e w7 ⟨rfl, hb7⟩))
      all_goals go_wp2
      all_goals go_roundw
      all_goals first | exact ⟨k + 1, by omega, by go_num, HB.out.trans (by assumption)⟩ | (simp [intOf]; omega)
    · obtain rfl : k = N.n := by omega
      obtain ⟨p0, p1, p2⟩ := get3 (HA.out.blw HB.out)
      obtain ⟨q0, q1, q2⟩ := get3 (HA2.out.blw HB.out)
      go_wp2_with fail
      clear p0 p1 p2 q0 q1 q2
      go_loopw [52] (fun i wr => ∃ k : Nat, k ≤ F.n ∧ i = .int .i64 k ∧ Blw W0 wr) (fun i _ => F.n - (intOf i).toNat)
      case atStart => exact ⟨0, Nat.zero_le _, rfl, HB.out⟩
      case round =>
        rename World => wr
        obtain ⟨k, hk, rfl, hb⟩ := hrel
        have HB : Hid (Blw W0 wr) := hb
        clear hb
        by_cases hlt : k < F.n
        · have hlt' : (k : Int) < F.n := by omega
          obtain ⟨b1, o1, a1, c1, e1, -, g1, u1⟩ := (H1.out.f.blw HB.out).2 k hlt
          obtain ⟨b2, o2, a2, c2, e2, -, g2, u2⟩ := (H2.out.f.blw HB.out).2 k hlt
          have G1 : ∀ w', Blw wr w' → w'.cell? ⟨b1, o1 + k, none⟩ = some (.slice a1 (F.len k) c1) := fun w' hh => hh.cell g1
          have G2 : ∀ w', Blw wr w' → w'.cell? ⟨b2, o2 + k, none⟩ = some (.slice a2 (F.len k) c2) := fun w' hh => hh.cell g2
          have A1 : ∀ w', Blw wr w' → w'.cell? ⟨w.heap.size, 2, none⟩ = some (.slice (some ⟨b1, o1, none⟩) F.n v.c2) := fun w' hh => by have h5 := (get3 ((HA.out.blw HB.out).blw hh)).2.2; rw [h5, e1]
          have A2 : ∀ w', Blw wr w' → w'.cell? ⟨w.heap.size + 1, 2, none⟩ = some (.slice (some ⟨b2, o2, none⟩) F.n v'.c2) := fun w' hh => by have h5 := (get3 ((HA2.out.blw HB.out).blw hh)).2.2; rw [h5, e2]
          have U1 : Hid (UndosAt _ wr a1 (F.len k) (F.p k) (F.m k)) := u1
          have U2 : Hid (UndosAt _ wr a2 (F.len k) (F.p k) (F.m k)) := u2
          have hrf : Blw wr wr := Blw.refl _
          clear g1 g2 u1 u2 e1 e2
          go_upto_region 12 with fail
          go_region_held3 (fun w' => Blw wr w') ((first | exact (Blw.refl _).drew | assumption | exact Blw.trans (by assumption) (by assumption))) (first
            | (go_at_call 19; refine (sameTimers_same _ _ _ _ _ _ _ _ (U1.out.blw (by assumption)) (U2.out.blw (by assumption))).mono ?_; rintro e w7 ⟨rfl, hb7⟩))
          all_goals go_wp2
          all_goals go_roundw
          all_goals first | exact ⟨k + 1, by omega, by go_num, HB.out.trans (by assumption)⟩ | (simp [intOf]; omega)
        · obtain rfl : k = F.n := by omega
          go_wp2
          go_ret
          exact ⟨rfl, HB0.out.trans HB.out⟩
/-- A good wheel as the rows that it has. -/
theorem WAt.as8 {Y : Nat → Prop} {w : World} {v : WV} {D : WD} (h : WAt Y w v D) (hn : D.N.n = 8) (hf : D.F.n = 8) : WAt Y w v (wd8 D.now (rows16 D)) := by
  refine ⟨?_, ?_⟩
  · have h5 := (PSAt.rows h.n).congrR (S := rows16 D) (fun k hk => by have hk2 : k < 8 := (by omega); simp only [rows16, if_pos hk2])
    rw [hn] at h5
    exact h5
  · have h5 := (PSAt.rows h.f).congrR (S := fun k => rows16 D (8 + k)) (fun k hk => by have hk2 : k < 8 := (by omega); simp only [rows16, if_neg (show ¬ 8 + k < 8 by omega), if_pos (show 8 + k < 16 by omega), show 8 + k - 8 = k by omega])
    rw [hf] at h5
    exact h5
theorem val8 {v : WV} {D : WD} (hn : D.N.n = 8) (hf : D.F.n = 8) : v.val D = v.val (wd8 D.now (rows16 D)) := by
  show Value.agg _ = Value.agg _
  rw [hn, hf]
end Go.Proofs.Ytkmkidahaagbpaa
/- What stands in a drawn law on wheels. -/
namespace Go.Proofs.Ytkmkidahaagbpaa
open Go.RowKit
set_option linter.unusedSimpArgs false
set_option linter.unusedVariables false
/-- A wheel and its box. -/
structure VX (W : World) (z : Nat) (b : WV) (D : WD) : Prop where
  at_ : WAt (fun x => x < W.heap.size) W b D
  box : Row W z 3 (wrow b D)
theorem VX.blw {W W' : World} {z : Nat} {b : WV} {D : WD} (h : VX W z b D) (hb : Blw W W') : VX W' z b D :=
  ⟨(h.at_.blw hb).mono (fun x hx => Nat.lt_of_lt_of_le hx hb.size), h.box.blw hb⟩
/-- A list of timers. -/
def TX (W : World) (a : Option Addr) (n : Nat) (l : List Tm) : Prop := UndosAt (fun x => x < W.heap.size) W a n (lf l) (la l)
theorem TX.blw {W W' : World} {a : Option Addr} {n : Nat} {l : List Tm} (h : TX W a n l) (hb : Blw W W') : TX W' a n l := (UndosAt.blw h hb).mono (fun x hx => Nat.lt_of_lt_of_le hx hb.size)
/-- A list of numbers. -/
def IX (W : World) (a : Option Addr) (n : Nat) (l : List Int) : Prop := IntsAt (fun x => x < W.heap.size) W a n (gi l)
theorem IX.blw {W W' : World} {a : Option Addr} {n : Nat} {l : List Int} (h : IX W a n l) (hb : Blw W W') : IX W' a n l := (IntsAt.blw h hb).mono (fun x hx => Nat.lt_of_lt_of_le hx hb.size)
def BY (W : World) (a : Option Addr) (n : Nat) (f : Nat → Int) : Prop := BytesAt (fun b => b < W.heap.size) W a n f
theorem BY.blw {W W' : World} {a : Option Addr} {n : Nat} {f : Nat → Int} (h : BY W a n f) (hb : Blw W W') : BY W' a n f := bytes_more h hb
theorem VX.new {W : World} {b : WV} {D : WD} {X : Nat → Prop} (h : WOwn X W b D) (hX : ∀ x, X x → x < W.heap.size) : VX (W.alloc (.cells #[.int .i64 D.now, .slice b.a1 D.N.n b.c1, .slice b.a2 D.F.n b.c2] 25)) W.heap.size b D :=
  ⟨(h.at.blw ((Blw.refl _).alloc _)).mono (fun x hx => by rw [World.size_alloc]; have := hX x hx; omega), box3 W _ _ _ 25⟩
/-- Numbers and timers lie in blocks of their own. -/
theorem LB.neI {X Y : Nat → Prop} {w : World} {a : Option Addr} {c : Nat} {l : List Tm} {v : Value} {n : Nat} {f : Nat → Int} (h : LB X w a c l) (hi : BufI Y w v n f) {b : Nat} (e : a = some ⟨b, 0, none⟩) : v.ownBlock ≠ some b := by
  intro e2
  obtain ⟨cu, hcu⟩ := hi.ty e2
  rcases Buf.rowE h with ⟨h0, _⟩ | ⟨g', f', h0, _, _, _, ⟨c2, hc2, _⟩, _⟩
  · rw [h0] at e; cases e
  · rw [h0] at e; cases e
    rw [hc2] at hcu
    simp at hcu
theorem LB.exact {X : Nat → Prop} {w : World} {a : Option Addr} {c : Nat} {l : List Tm} (h : LB X w a c l) : LB (fun b => X b ∧ a = some ⟨b, 0, none⟩) w a c l :=
  ⟨h.1, fun g hg => ⟨h.2 g hg, by
    rcases Buf.rowE h with ⟨h0, _⟩ | ⟨g', f', h0, _⟩
    · subst h0; simp [Value.ownBlock] at hg
    · subst h0; simp [Value.ownBlock] at hg; subst hg; rfl⟩⟩
/-- Those that are due, those that are left, of the first j. -/
def dueT (q : Int) (L : List Tm) (j : Nat) : List Tm := (L.take j).filter (upTo q)
def lefT (q : Int) (L : List Tm) (j : Nat) : List Tm := (L.take j).filter (fun t => !upTo q t)
theorem due_yes {q : Int} {L : List Tm} {j : Nat} (hj : j < L.length) (h : (nth L j).2 ≤ q) : dueT q L (j + 1) = dueT q L j ++ [nth L j] ∧ lefT q L (j + 1) = lefT q L j := by
  unfold dueT lefT
  rw [take_succ' hj, List.filter_append, List.filter_append]
  simp [upTo, h]
theorem due_no {q : Int} {L : List Tm} {j : Nat} (hj : j < L.length) (h : ¬ (nth L j).2 ≤ q) : dueT q L (j + 1) = dueT q L j ∧ lefT q L (j + 1) = lefT q L j ++ [nth L j] := by
  unfold dueT lefT
  rw [take_succ' hj, List.filter_append, List.filter_append]
  simp [upTo, h]
theorem due_len (q : Int) (L : List Tm) (j : Nat) : (dueT q L j).length ≤ L.length ∧ (lefT q L j).length ≤ L.length := by
  unfold dueT lefT
  have h1 := List.length_filter_le (upTo q) (L.take j)
  have h2 := List.length_filter_le (fun t => !upTo q t) (L.take j)
  have h3 : (L.take j).length ≤ L.length := by rw [List.length_take]; omega
  omega
/-- The two lists that are gathered. -/
def DL (w0 wr : World) (q : Int) (L : List Tm) (j : Nat) (a : Option Addr) (n c : Nat) (a' : Option Addr) (n' c' : Nat) : Prop :=
  n = (dueT q L j).length ∧ n' = (lefT q L j).length ∧ BufI (fun b => w0.heap.size ≤ b) wr (.slice a n c) n (lf (dueT q L j)) ∧ LB (fun b => w0.heap.size ≤ b) wr a' c' (lefT q L j) ∧ Blw w0 wr
theorem DL.start (w0 : World) (q : Int) (L : List Tm) : DL w0 w0 q L 0 none 0 0 none 0 0 := ⟨rfl, rfl, Buf.nil _ _ _ _ _, (show LB _ _ none 0 [] from Buf.nil _ _ _ _ _), Blw.refl _⟩
theorem DL.blw {w0 wr w1 : World} {q : Int} {L : List Tm} {j : Nat} {a : Option Addr} {n c : Nat} {a' : Option Addr} {n' c' : Nat} (h : DL w0 wr q L j a n c a' n' c') (hb : Blw wr w1) : DL w0 w1 q L j a n c a' n' c' :=
  ⟨h.1, h.2.1, Buf.blw h.2.2.1 hb, Buf.blw h.2.2.2.1 hb, h.2.2.2.2.trans hb⟩
theorem DL.due {w0 wr : World} {q : Int} {L : List Tm} {j : Nat} {a : Option Addr} {n c : Nat} {a' : Option Addr} {n' c' : Nat} (h : DL w0 wr q L j a n c a' n' c') (hj : j < L.length) (hL : L.length ≤ 100) (hq : (nth L j).2 ≤ q) :
    ∃ a2 c2 w2, (Builtin.append_ #[28, 28] 28 #[.slice a n c, .slice (some ⟨wr.heap.size, 0, none⟩) 1 1]).run Try.prog (wr.alloc (.cells #[.int .i64 (nth L j).1] 3)) = .ok (.slice a2 (n + 1) c2) w2 ∧ DL w0 w2 q L (j + 1) a2 (n + 1) c2 a' n' c' := by
  obtain ⟨rfl, rfl, hB, hT, hb⟩ := h
  have hal : Blw wr (wr.alloc (.cells #[.int .i64 (nth L j).1] 3)) := (Blw.refl _).alloc _
  have hl := due_len q L j
  obtain ⟨a2, c2, w2, hrun, hB2, hm2⟩ := BufI.append (Buf.blw hB hal) 1 (one_ints wr (nth L j).1) (by omega) 28
  have hsz := hb.size
  refine ⟨a2, c2, w2, hrun, ?_⟩
  obtain ⟨e1, e2⟩ := due_yes hj hq
  unfold DL
  rw [e1, e2]
  refine ⟨by simp, rfl, (hB2.mono (fun b h2 => h2.1.elim id (fun e => by rw [World.size_alloc] at e; omega))).congr (fun i hi => ?_), ?_, Mod.blw (hb.trans hal) hm2 (fun i e => hB.2 i e)⟩
  · have h7 := (lf_app (dueT q L j) [nth L j] i (by simp; omega)).1
    show Value.int .i64 _ = Value.int .i64 _
    rw [← h7]
    unfold icat
    by_cases e : i < (dueT q L j).length
    · rw [if_pos e, if_pos e]
    · rw [if_neg e, if_neg e]
      obtain rfl : i = (dueT q L j).length := by omega
      rw [Nat.sub_self]; rfl
  · have hTa := LB.exact (Buf.blw hT hal)
    exact (Buf.mod hTa hm2 (fun b h5 e => hTa.neI (Buf.blw hB hal) h5.2 e)).mono (fun b h5 => h5.1)
theorem DL.left {w0 wr : World} {q : Int} {L : List Tm} {j : Nat} {a : Option Addr} {n c : Nat} {a' : Option Addr} {n' c' : Nat} (h : DL w0 wr q L j a n c a' n' c') (hj : j < L.length) (hL : L.length ≤ 100) (hq : ¬ (nth L j).2 ≤ q) :
    ∃ a2 c2 w2, (Builtin.append_ #[31, 31] 31 #[.slice a' n' c', .slice (some ⟨wr.heap.size, 0, none⟩) 1 1]).run Try.prog (wr.alloc (.cells #[.int .i64 (nth L j).1, .int .i64 (nth L j).2] 39)) = .ok (.slice a2 (n' + 1) c2) w2 ∧ DL w0 w2 q L (j + 1) a n c a2 (n' + 1) c2 := by
  obtain ⟨rfl, rfl, hB, hT, hb⟩ := h
  have hal : Blw wr (wr.alloc (.cells #[.int .i64 (nth L j).1, .int .i64 (nth L j).2] 39)) := (Blw.refl _).alloc _
  have hl := due_len q L j
  obtain ⟨a2, c2, w2, hrun, hB2, hm2⟩ := LB.app (Buf.blw hT hal) (m := [nth L j]) 1 (one_tm wr (nth L j)) (by simp; omega) 31
  simp only [List.length_append, List.length_singleton] at hrun hB2
  have hsz := hb.size
  refine ⟨a2, c2, w2, hrun, ?_⟩
  obtain ⟨e1, e2⟩ := due_no hj hq
  unfold DL
  rw [e1, e2]
  have hBx : BufI (fun b => w0.heap.size ≤ b ∧ (Value.slice a' (lefT q L j).length c').ownBlock ≠ some b) (wr.alloc (.cells #[.int .i64 (nth L j).1, .int .i64 (nth L j).2] 39)) (.slice a (dueT q L j).length c) (dueT q L j).length (lf (dueT q L j)) :=
    ⟨(Buf.blw hB hal).1, fun g hg => ⟨(Buf.blw hB hal).2 g hg, fun e => by
      rcases Buf.rowE (Buf.blw hT hal) with ⟨h0, _⟩ | ⟨g', f', h0, _⟩
      · subst h0; simp [Value.ownBlock] at e
      · subst h0
        simp [Value.ownBlock] at e
        subst e
        exact LB.neI (Buf.blw hT hal) (Buf.blw hB hal) rfl hg⟩⟩
  refine ⟨rfl, by simp, (Buf.mod hBx hm2 (fun b h5 e => h5.2 e)).mono (fun b h5 => h5.1), ?_, Mod.blw (hb.trans hal) hm2 (fun i e => hT.2 i e)⟩
  have h9 := hB2.mono (Y := fun b => w0.heap.size ≤ b) (fun b h2 => h2.1.elim id (fun e => by rw [World.size_alloc] at e; omega))
  exact h9
theorem due_all (q : Int) (L : List Tm) : dueT q L L.length = L.filter (upTo q) ∧ lefT q L L.length = L.filter (fun t => !upTo q t) := by unfold dueT lefT; rw [List.take_length]; exact ⟨rfl, rfl⟩
end Go.Proofs.Ytkmkidahaagbpaa
