/- Merged by program, in this order: Stand, Eq8, HoldM, Hold, Clone, GiveL, Each, Find, FindI, LawF, LawB, GiveT, Res, NewI, Idle. -/
import Derived.Test.YtbpdopcdhnemfaaJw1
/- The program's test of tops. -/
namespace Go.Proofs.Ytbpdopcdhnemfaa
open Go.RowKit
set_option linter.unusedSimpArgs false
set_option linter.unusedVariables false
def isZero8 (f g : Nat → Int) : Prop := ∀ j, j < 4 → f j = 0 ∧ g j = 0
/-- How often a list stands at one of the first j tops. -/
def cn (c : Nat → Int) : Nat → Nat → Int
  | 0, _ => 0
  | j + 1, k => cn c j k + (if c j = (k : Int) then 1 else 0)
theorem cn_nonneg (c : Nat → Int) (k : Nat) : ∀ j, 0 ≤ cn c j k ∧ cn c j k ≤ j
  | 0 => by simp [cn]
  | j + 1 => by have := cn_nonneg c k j; simp only [cn]; split <;> omega
theorem cn_zero (c : Nat → Int) (k : Nat) : ∀ j, (cn c j k = 0 ↔ ¬ hasLine j c (k : Int))
  | 0 => by simp only [cn]; exact ⟨fun _ ⟨t, ht, _⟩ => absurd ht (Nat.not_lt_zero _), fun _ => trivial⟩
  | j + 1 => by
    have h1 := cn_zero c k j
    have h2 := (cn_nonneg c k j).1
    simp only [cn]
    by_cases e : c j = (k : Int)
    · rw [if_pos e]
      exact ⟨fun q => by omega, fun q => absurd ⟨j, by omega, e⟩ q⟩
    · rw [if_neg e]
      refine ⟨fun q ⟨t, ht, et⟩ => ?_, fun q => ?_⟩
      · by_cases e2 : t = j
        · subst e2; exact e et
        · exact h1.1 (by omega) ⟨t, by omega, et⟩
      · have := h1.2 (fun ⟨t, ht, et⟩ => q ⟨t, by omega, et⟩); omega
abbrev four (c : Nat → Int) : Array Value := #[.int .i64 (c 0), .int .i64 (c 1), .int .i64 (c 2), .int .i64 (c 3)]
theorem index4 (c : Nat → Int) (k : Nat) (hk : k < 4) (w : World) : (Instr.index 133 (.agg (four c)) (.int .i64 (k : Int))).run Try.prog w = .ok (.int .i64 (c k)) w := by
  match k, hk with
  | 0, _ => exact (show (Instr.index 133 (.agg (four c)) (.int .i64 0)).run Try.prog w = .ok (.int .i64 (c 0)) w by kernel_rfl)
  | 1, _ => exact (show (Instr.index 133 (.agg (four c)) (.int .i64 1)).run Try.prog w = .ok (.int .i64 (c 1)) w by kernel_rfl)
  | 2, _ => exact (show (Instr.index 133 (.agg (four c)) (.int .i64 2)).run Try.prog w = .ok (.int .i64 (c 2)) w by kernel_rfl)
  | 3, _ => exact (show (Instr.index 133 (.agg (four c)) (.int .i64 3)).run Try.prog w = .ok (.int .i64 (c 3)) w by kernel_rfl)
/-- The cells of a held table's lists. -/
def lc (p m : Nat → Nat → Int) : Nat → Value := fun i => if i % 2 = 0 then .int .i64 (p (i / 8) (i % 8 / 2)) else .int .i64 (m (i / 8) (i % 8 / 2))
theorem lc8 {w : World} {z n : Nat} {p m : Nat → Nat → Int} (r : Row w z (n * 8) (lc p m)) {k : Nat} (hk : k < n) :
    w.cell? ⟨z, k * 8, none⟩ = some (.int .i64 (p k 0)) ∧ w.cell? ⟨z, k * 8 + 1, none⟩ = some (.int .i64 (m k 0)) ∧ w.cell? ⟨z, k * 8 + 2, none⟩ = some (.int .i64 (p k 1)) ∧ w.cell? ⟨z, k * 8 + 3, none⟩ = some (.int .i64 (m k 1)) ∧
    w.cell? ⟨z, k * 8 + 4, none⟩ = some (.int .i64 (p k 2)) ∧ w.cell? ⟨z, k * 8 + 5, none⟩ = some (.int .i64 (m k 2)) ∧ w.cell? ⟨z, k * 8 + 6, none⟩ = some (.int .i64 (p k 3)) ∧ w.cell? ⟨z, k * 8 + 7, none⟩ = some (.int .i64 (m k 3)) := by
  have hh : ∀ t, t < 8 → w.cell? ⟨z, k * 8 + t, none⟩ = some (lc p m (k * 8 + t)) := fun t ht => r.cell (by omega)
  have ev : ∀ t, t < 8 → lc p m (k * 8 + t) = if t % 2 = 0 then .int .i64 (p k (t / 2)) else .int .i64 (m k (t / 2)) := fun t ht => by
    unfold lc
    rw [show (k * 8 + t) / 8 = k by omega, show (k * 8 + t) % 8 = t by omega, show (k * 8 + t) % 2 = t % 2 by omega]
  have h0 := hh 0 (by omega); have h1 := hh 1 (by omega); have h2 := hh 2 (by omega); have h3 := hh 3 (by omega)
  have h4 := hh 4 (by omega); have h5 := hh 5 (by omega); have h6 := hh 6 (by omega); have h7 := hh 7 (by omega)
  rw [ev 0 (by omega)] at h0; rw [ev 1 (by omega)] at h1; rw [ev 2 (by omega)] at h2; rw [ev 3 (by omega)] at h3
  rw [ev 4 (by omega)] at h4; rw [ev 5 (by omega)] at h5; rw [ev 6 (by omega)] at h6; rw [ev 7 (by omega)] at h7
  exact ⟨h0, h1, h2, h3, h4, h5, h6, h7⟩
theorem row5 (w : World) (a b c d e : Value) (t : TypeId) : Row (w.alloc (.cells #[a, b, c, d, e] t)) w.heap.size 5 (fun i => if i = 0 then a else if i = 1 then b else if i = 2 then c else if i = 3 then d else e) :=
  ⟨_, t, heap_alloc_new _ _, by simp, fun i hi => by
    match i, hi with
    | 0, _ => rfl
    | 1, _ => rfl
    | 2, _ => rfl
    | 3, _ => rfl
    | 4, _ => rfl⟩
theorem get5 {w : World} {B : Nat} {a b c d e : Value} (r : Row w B 5 (fun i => if i = 0 then a else if i = 1 then b else if i = 2 then c else if i = 3 then d else e)) : w.cell? ⟨B, 0, none⟩ = some a ∧ w.cell? ⟨B, 1, none⟩ = some b ∧ w.cell? ⟨B, 2, none⟩ = some c ∧ w.cell? ⟨B, 3, none⟩ = some d ∧ w.cell? ⟨B, 4, none⟩ = some e :=
  ⟨r.cell (i := 0) (by omega), r.cell (i := 1) (by omega), r.cell (i := 2) (by omega), r.cell (i := 3) (by omega), r.cell (i := 4) (by omega)⟩
theorem row_zero4 (w : World) (t : TypeId) : Row (w.alloc (.cells #[.int .i64 0, .int .i64 0, .int .i64 0, .int .i64 0] t)) w.heap.size 4 (fun _ => .int .i64 0) :=
  ⟨_, t, heap_alloc_new _ _, by simp, fun i hi => by
    match i, hi with
    | 0, _ => rfl
    | 1, _ => rfl
    | 2, _ => rfl
    | 3, _ => rfl⟩
abbrev held5 (c : Nat → Int) (zl kn : Nat) : Array Value := #[.int .i64 (c 0), .int .i64 (c 1), .int .i64 (c 2), .int .i64 (c 3), .slice (some ⟨zl, 0, none⟩) kn kn]
abbrev row5f (c : Nat → Int) (v : Value) : Nat → Value := fun i => if i = 0 then .int .i64 (c 0) else if i = 1 then .int .i64 (c 1) else if i = 2 then .int .i64 (c 2) else if i = 3 then .int .i64 (c 3) else v
def topIs (c : Nat → Int) (kn i : Nat) : Prop := (-1 ≤ c i ∧ c i ≤ (kn : Int) - 1) ∧ (0 ≤ c i → ¬ hasLine i c (c i))
def idleIs (c : Nat → Int) (p m : Nat → Nat → Int) (k : Nat) : Prop := ¬ hasLine 4 c (k : Int) → isZero8 (p k) (m k)
def swOK (c : Nat → Int) (kn : Nat) (p m : Nat → Nat → Int) : Prop := (∀ i, i < 4 → topIs c kn i) ∧ ∀ k, k < kn → idleIs c p m k
set_option maxRecDepth 10000 in
set_option maxHeartbeats 6400000 in
theorem standWell_of (HNS : Hid (∀ f g : Nat → Int, isZero8 f g → ∀ w, (binOp .neq 202 (.agg (eight f g)) (.agg (eight zf zf))).run Try.prog w = .ok (.bool false) w)) (HNO : Hid (∀ f g : Nat → Int, ¬ isZero8 f g → ∀ w, (binOp .neq 202 (.agg (eight f g)) (.agg (eight zf zf))).run Try.prog w = .ok (.bool true) w)) (c : Nat → Int) (zl kn : Nat) (p m : Nat → Nat → Int) (w : World) (hkn : kn ≤ 4) (h : Row w zl (kn * 8) (lc p m)) :
    Calls Try.prog 168 #[.agg (held5 c zl kn)] w fun e w' => ∃ r, e = .returned (.bool r) ∧ (r = true ↔ swOK c kn p m) ∧ Blw w w' := by
  have hb0 : Blw w ((w.alloc (.cells (held5 c zl kn) 136)).alloc (.cells #[.int .i64 0, .int .i64 0, .int .i64 0, .int .i64 0] 133)) := ((Blw.refl _).alloc _).alloc _
  have rB := (row5 w (.int .i64 (c 0)) (.int .i64 (c 1)) (.int .i64 (c 2)) (.int .i64 (c 3)) (.slice (some ⟨zl, 0, none⟩) kn kn) 136).blw ((Blw.refl _).alloc (.cells #[.int .i64 0, .int .i64 0, .int .i64 0, .int .i64 0] 133))
  have rC := row_zero4 (w.alloc (.cells (held5 c zl kn) 136)) 133
  rw [World.size_alloc] at rC
  have H : Hid (Row ((w.alloc (.cells (held5 c zl kn) 136)).alloc (.cells #[.int .i64 0, .int .i64 0, .int .i64 0, .int .i64 0] 133)) zl (kn * 8) (lc p m)) := h.blw hb0
  have hzl := h.lt
  clear h
  obtain ⟨p0, p1, p2, p3, p4⟩ := get5 rB
  go_enter Try.func168, Try.ntmps168
  go_wp2_with fail
  clear p0 p1 p2 p3 p4
  revert hb0 rB rC H
  generalize (w.alloc (.cells (held5 c zl kn) 136)).alloc (.cells #[.int .i64 0, .int .i64 0, .int .i64 0, .int .i64 0] 133) = w0
  intro hb0 rB rC H
  have HB0 : Hid (Blw w w0) := hb0
  have HRB : Hid (Row w0 w.heap.size 5 (row5f c (.slice (some ⟨zl, 0, none⟩) kn kn))) := rB
  have HRC : Hid (Row w0 (w.heap.size + 1) 4 (fun k => .int .i64 (cn c 0 k))) := rC
  clear hb0 rB rC
  go_loopw [10] (fun i wr => ∃ j : Nat, j ≤ 4 ∧ i = .int .i64 j ∧ (∀ i, i < j → topIs c kn i) ∧ Row wr (w.heap.size + 1) 4 (fun k => .int .i64 (cn c j k)) ∧ Mod (fun x => x = w.heap.size + 1) w0 wr) (fun i _ => 4 - (intOf i).toNat)
  case atStart => exact ⟨0, Nat.zero_le _, rfl, fun t ht => absurd ht (Nat.not_lt_zero _), HRC.out, Mod.refl _ _⟩
  case round =>
    obtain ⟨j, hj, rfl, hok, hrc, hm⟩ := hrel
    have HO : Hid (∀ i, i < j → topIs c kn i) := hok
    have HM : Hid (Mod (fun x => x = w.heap.size + 1) w0 wr) := hm
    have HRW : Hid (Row wr (w.heap.size + 1) 4 (fun k => .int .i64 (cn c j k))) := hrc
    have HBW : Hid (Blw w wr) := Mod.blw HB0.out hm (fun i hi => by omega)
    clear hok hm hrc HRC
    by_cases hlt : j < 4
    · have hlt' : (j : Int) < 4 := by omega
      have hix := index4 c j hlt
      by_cases h1 : c j = -1
      · have d1 : (c j == -1) = true := by simp [h1]
        have HN : Hid (∀ i, i < j + 1 → topIs c kn i) := fun i hi => by
          by_cases e : i = j
          · subst e; exact ⟨by omega, fun q => by omega⟩
          · exact HO.out i (by omega)
        have HRN : Hid (Row wr (w.heap.size + 1) 4 (fun k => .int .i64 (cn c (j + 1) k))) := HRW.out.congr (fun k hk => by simp only [cn]; rw [if_neg (by omega)]; simp)
        clear h1 HO HRW
        go_wp2
        go_roundw
        case rel => exact ⟨j + 1, by omega, by go_num, HN.out, HRN.out, HM.out⟩
        case measure => simp [intOf]; omega
      have d1 : (c j == -1) = false := by simp [h1]
      obtain ⟨p0, p1, p2, p3, p4⟩ := get5 (HRB.out.mod HM.out (by omega))
      by_cases h2 : c j < 0
      · have HN : Hid (¬ swOK c kn p m) := fun g => by have := (g.1 j hlt).1; omega
        clear h1 HO HRW
        go_wp2
        go_ret
        exact ⟨false, rfl, iff_f HN.out, HBW.out⟩
      obtain ⟨q, hq⟩ : ∃ q : Nat, c j = q := ⟨(c j).toNat, by omega⟩
      by_cases h3 : q < kn
      case neg =>
        have HN : Hid (¬ swOK c kn p m) := fun g => by have := (g.1 j hlt).1; omega
        have h3' : (kn : Int) ≤ (q : Int) := by omega
        rw [hq] at hix d1
        clear h1 h2 HO HRW
        go_wp2
        go_ret
        exact ⟨false, rfl, iff_f HN.out, HBW.out⟩
      have h3' : (q : Int) < (kn : Int) := by omega
      have hq4 : q < 4 := by omega
      have hq4' : (q : Int) < 4 := by omega
      have g0 : wr.cell? ⟨w.heap.size + 1, q, none⟩ = some (.int .i64 (cn c j q)) := HRW.out.cell hq4
      have gf := HRW.out.frozen q
      have hcz := cn_zero c q j
      obtain ⟨hc0, hc1⟩ := cn_nonneg c q j
      have HQ : Hid (c j = (q : Int)) := hq
      rw [hq] at hix d1
      by_cases h4 : cn c j q = 0
      · have HN : Hid (∀ i, i < j + 1 → topIs c kn i) := fun i hi => by
          by_cases e : i = j
          · subst e; exact ⟨by omega, fun _ => by rw [HQ.out]; exact hcz.1 h4⟩
          · exact HO.out i (by omega)
        have HRN : Hid (Row (wr.setCell ⟨w.heap.size + 1, q, none⟩ (.int .i64 (0 + 1))) (w.heap.size + 1) 4 (fun k => .int .i64 (cn c (j + 1) k))) := (HRW.out.set q _).congr (fun k hk => by
          simp only [cn]
          by_cases e : k = q
          · subst e; rw [if_pos rfl, if_pos HQ.out, h4]
          · rw [if_neg e, if_neg (by rw [HQ.out]; omega)]; simp)
        have HMN : Hid (Mod (fun x => x = w.heap.size + 1) w0 (wr.setCell ⟨w.heap.size + 1, q, none⟩ (.int .i64 (0 + 1)))) := HM.out.trans (Mod.setCell (X := fun x => x = w.heap.size + 1) _ (p := ⟨w.heap.size + 1, q, none⟩) rfl _)
        rw [h4] at g0
        clear h1 h2 hq HO HRW hcz hc0 hc1 h4
        go_wp2
        go_roundw
        case rel => exact ⟨j + 1, by omega, by go_num, HN.out, HRN.out, HMN.out⟩
        case measure => simp [intOf]; omega
      · have HN : Hid (¬ swOK c kn p m) := fun g => h4 (hcz.2 (by have := (g.1 j hlt).2 (by omega); rw [HQ.out] at this; exact this))
        have d4 : decide (cn c j q > 0) = true := by simp; omega
        clear h1 h2 hq HO HRW hcz hc0 hc1 h4
        go_wp2
        go_ret
        exact ⟨false, rfl, iff_f HN.out, HBW.out⟩
    · obtain rfl : j = 4 := by omega
      have HT : Hid (∀ i, i < 4 → topIs c kn i) := HO.out
      obtain ⟨p0, p1, p2, p3, p4⟩ := get5 (HRB.out.mod HM.out (by omega))
      replace H : Hid (Row wr zl (kn * 8) (lc p m)) := H.out.mod HM.out (by omega)
      go_wp2_with fail
      clear p0 p1 p2 p3 p4 HO HM HRB hlt HB0
      generalize wr = wM at *
      go_loopw [39] (fun i wq => ∃ s : Nat, s ≤ kn ∧ i = .int .i64 s ∧ (∀ i, i < s → idleIs c p m i) ∧ Blw wM wq) (fun i _ => kn - (intOf i).toNat)
      case atStart => exact ⟨0, Nat.zero_le _, rfl, fun t ht => absurd ht (Nat.not_lt_zero _), Blw.refl _⟩
      case round =>
        obtain ⟨s, hs, rfl, hok, hb⟩ := hrel
        have HO : Hid (∀ i, i < s → idleIs c p m i) := hok
        have HB : Hid (Blw wM wr) := hb
        clear hok hb
        by_cases hlt : s < kn
        · have hlt' : (s : Int) < (kn : Int) := by omega
          have hs4' : (s : Int) < 4 := by omega
          obtain ⟨q0, q1, q2, q3, q4, q5, q6, q7⟩ := lc8 (H.out.blw HB.out) hlt
          have g0 : (wr.alloc (.cells (eight (p s) (m s)) 202)).cell? ⟨w.heap.size + 1, s, none⟩ = some (.int .i64 (cn c 4 s)) := ((HRW.out.blw HB.out).blw ((Blw.refl _).alloc _)).cell (by omega)
          have hA : Blw wr (wr.alloc (.cells (eight (p s) (m s)) 202)) := (Blw.refl _).alloc _
          have HBN : Hid (Blw wM (wr.alloc (.cells (eight (p s) (m s)) 202))) := HB.out.trans hA
          have hcz := cn_zero c s 4
          clear hA
          by_cases h4 : cn c 4 s = 0
          · have d4 : (cn c 4 s == 0) = true := by simp [h4]
            have HNL : Hid (¬ hasLine 4 c (s : Int)) := hcz.1 h4
            by_cases hz : isZero8 (p s) (m s)
            · have HN : Hid (∀ i, i < s + 1 → idleIs c p m i) := fun i hi => by
                by_cases e : i = s
                · subst e; exact fun _ => hz
                · exact HO.out i (by omega)
              have hne := HNS.out (p s) (m s) hz
              clear hcz h4 HO hz
              go_wp2
              go_roundw
              case rel => exact ⟨s + 1, by omega, by go_num, HN.out, HBN.out⟩
              case measure => simp [intOf]; omega
            · have HN : Hid (¬ swOK c kn p m) := fun g => hz (g.2 s hlt HNL.out)
              have hne := HNO.out (p s) (m s) hz
              clear hcz h4 HO hz
              go_wp2
              go_ret
              exact ⟨false, rfl, iff_f HN.out, HBW.out.trans HBN.out⟩
          · have d4 : (cn c 4 s == 0) = false := by simp [h4]
            have HN : Hid (∀ i, i < s + 1 → idleIs c p m i) := fun i hi => by
              by_cases e : i = s
              · subst e; exact fun q => absurd (hcz.2 q) h4
              · exact HO.out i (by omega)
            clear hcz h4 HO
            go_wp2
            go_roundw
            case rel => exact ⟨s + 1, by omega, by go_num, HN.out, HBN.out⟩
            case measure => simp [intOf]; omega
        · obtain rfl : s = kn := by omega
          have HN : Hid (swOK c s p m) := ⟨HT.out, HO.out⟩
          clear HO HT
          go_wp2
          go_ret
          exact ⟨true, rfl, iff_t HN.out, HBW.out.trans HB.out⟩
end Go.Proofs.Ytbpdopcdhnemfaa
/- Arrays of leaves held against the empty one. -/
namespace Go.Proofs.Ytbpdopcdhnemfaa
open Go.RowKit
set_option linter.unusedSimpArgs false
set_option linter.unusedVariables false
theorem part73 (w : World) (f g : Nat → Int) (i : Nat) (hi : i < 4) : (part 189 (eight f g) (i * 2)).run Try.prog w = .ok (.agg #[.int .i64 (f i), .int .i64 (g i)]) w := by
  match i, hi with
  | 0, _ => exact (show (part 189 (eight f g) 0).run Try.prog w = .ok (.agg #[.int .i64 (f 0), .int .i64 (g 0)]) w by kernel_rfl)
  | 1, _ => exact (show (part 189 (eight f g) 2).run Try.prog w = .ok (.agg #[.int .i64 (f 1), .int .i64 (g 1)]) w by kernel_rfl)
  | 2, _ => exact (show (part 189 (eight f g) 4).run Try.prog w = .ok (.agg #[.int .i64 (f 2), .int .i64 (g 2)]) w by kernel_rfl)
  | 3, _ => exact (show (part 189 (eight f g) 6).run Try.prog w = .ok (.agg #[.int .i64 (f 3), .int .i64 (g 3)]) w by kernel_rfl)
theorem size73 (w : World) : (sizeOf 189).run Try.prog w = .ok 2 w := by kernel_rfl
theorem pairEq (d : Nat) (a b a' b' : Int) (w : World) : (Op.equalIn (d + 2) 189 (.agg #[.int .i64 a, .int .i64 b]) (.agg #[.int .i64 a', .int .i64 b'])).run Try.prog w = .ok ((a == a') && (b == b')) w := by
  have u : Try.prog.underlying 189 = some (.struct (Try.prog.fieldsOf 189)) := by kernel_rfl
  have hp : Try.prog.stoodInHeld 189 = false := by kernel_rfl
  have hf : (Try.prog.fieldsOf 189).map (fun f => (f.name, f.type, f.offset)) = #[("Page", 3, 0), ("May", 3, 1)] := by kernel_rfl
  have p0 : ∀ w, (part 3 #[Value.int .i64 a, .int .i64 b] 0).run Try.prog w = .ok (.int .i64 a) w := fun w => by kernel_rfl
  have p1 : ∀ w, (part 3 #[Value.int .i64 a, .int .i64 b] 1).run Try.prog w = .ok (.int .i64 b) w := fun w => by kernel_rfl
  have q0 : ∀ w, (part 3 #[Value.int .i64 a', .int .i64 b'] 0).run Try.prog w = .ok (.int .i64 a') w := fun w => by kernel_rfl
  have q1 : ∀ w, (part 3 #[Value.int .i64 a', .int .i64 b'] 1).run Try.prog w = .ok (.int .i64 b') w := fun w => by kernel_rfl
  have H : ∀ x y w, (Op.equalIn (d + 1) 3 (.int .i64 x) (.int .i64 y)).run Try.prog w = .ok (x == y) w := fun x y w => run_equalIn_int w d 3 .i64 .i64 x y Try.underlying3
  by_cases h0 : a = a' <;> by_cases h1 : b = b' <;> simp [go_sem, h0, h1]
set_option maxHeartbeats 3200000 in
theorem eqArr8 (d : Nat) (f g f' g' : Nat → Int) (w : World) (H : ∀ a b a' b' w, (Op.equalIn d 189 (.agg #[.int .i64 a, .int .i64 b]) (.agg #[.int .i64 a', .int .i64 b'])).run Try.prog w = .ok ((a == a') && (b == b')) w) :
    (Op.equalIn (d + 1) 202 (.agg (eight f g)) (.agg (eight f' g'))).run Try.prog w = .ok (((f 0 == f' 0) && (g 0 == g' 0)) && (((f 1 == f' 1) && (g 1 == g' 1)) && (((f 2 == f' 2) && (g 2 == g' 2)) && ((f 3 == f' 3) && (g 3 == g' 3))))) w := by
  have p0 : ∀ w, (part 189 (eight f g) 0).run Try.prog w = .ok (.agg #[.int .i64 (f 0), .int .i64 (g 0)]) w := fun w => part73 w f g 0 (by omega)
  have q0 : ∀ w, (part 189 (eight f' g') 0).run Try.prog w = .ok (.agg #[.int .i64 (f' 0), .int .i64 (g' 0)]) w := fun w => part73 w f' g' 0 (by omega)
  have p1 : ∀ w, (part 189 (eight f g) 2).run Try.prog w = .ok (.agg #[.int .i64 (f 1), .int .i64 (g 1)]) w := fun w => part73 w f g 1 (by omega)
  have q1 : ∀ w, (part 189 (eight f' g') 2).run Try.prog w = .ok (.agg #[.int .i64 (f' 1), .int .i64 (g' 1)]) w := fun w => part73 w f' g' 1 (by omega)
  have p2 : ∀ w, (part 189 (eight f g) 4).run Try.prog w = .ok (.agg #[.int .i64 (f 2), .int .i64 (g 2)]) w := fun w => part73 w f g 2 (by omega)
  have q2 : ∀ w, (part 189 (eight f' g') 4).run Try.prog w = .ok (.agg #[.int .i64 (f' 2), .int .i64 (g' 2)]) w := fun w => part73 w f' g' 2 (by omega)
  have p3 : ∀ w, (part 189 (eight f g) 6).run Try.prog w = .ok (.agg #[.int .i64 (f 3), .int .i64 (g 3)]) w := fun w => part73 w f g 3 (by omega)
  have q3 : ∀ w, (part 189 (eight f' g') 6).run Try.prog w = .ok (.agg #[.int .i64 (f' 3), .int .i64 (g' 3)]) w := fun w => part73 w f' g' 3 (by omega)
  generalize eight f g = xs at *
  generalize eight f' g' = ys at *
  simp only [Op.equalIn, Sem.run_bind, run_underlying Try.underlying202, Result.andThen_ok, size73]
  generalize h0 : ((f 0 == f' 0) && (g 0 == g' 0)) = b0 at *
  generalize h1 : ((f 1 == f' 1) && (g 1 == g' 1)) = b1 at *
  generalize h2 : ((f 2 == f' 2) && (g 2 == g' 2)) = b2 at *
  generalize h3 : ((f 3 == f' 3) && (g 3 == g' 3)) = b3 at *
  have e0 := fun w => H (f 0) (g 0) (f' 0) (g' 0) w
  have e1 := fun w => H (f 1) (g 1) (f' 1) (g' 1) w
  have e2 := fun w => H (f 2) (g 2) (f' 2) (g' 2) w
  have e3 := fun w => H (f 3) (g 3) (f' 3) (g' 3) w
  rw [h0] at e0
  rw [h1] at e1
  rw [h2] at e2
  rw [h3] at e3
  clear H h0 h1 h2 h3
  cases b0 <;> cases b1 <;> cases b2 <;> cases b3 <;> simp [Sem.run_bind, p0, p1, p2, p3, q0, q1, q2, q3, e0, e1, e2, e3, List.range']
theorem neq8_same (f g : Nat → Int) (h : isZero8 f g) (w : World) : (binOp .neq 202 (.agg (eight f g)) (.agg (eight zf zf))).run Try.prog w = .ok (.bool false) w := by
  rw [run_neq_struct, eqArr8 9999 f g zf zf w (fun a b a' b' w => pairEq 9997 a b a' b' w), (h 0 (by omega)).1, (h 0 (by omega)).2, (h 1 (by omega)).1, (h 1 (by omega)).2, (h 2 (by omega)).1, (h 2 (by omega)).2, (h 3 (by omega)).1, (h 3 (by omega)).2]
  rfl
theorem neq8_other (f g : Nat → Int) (h : ¬ isZero8 f g) (w : World) : (binOp .neq 202 (.agg (eight f g)) (.agg (eight zf zf))).run Try.prog w = .ok (.bool true) w := by
  rw [run_neq_struct, eqArr8 9999 f g zf zf w (fun a b a' b' w => pairEq 9997 a b a' b' w)]
  have : (((f 0 == zf 0) && (g 0 == zf 0)) && (((f 1 == zf 1) && (g 1 == zf 1)) && (((f 2 == zf 2) && (g 2 == zf 2)) && ((f 3 == zf 3) && (g 3 == zf 3))))) = false := by
    rw [Bool.eq_false_iff]
    intro hh
    simp at hh
    refine h fun j hj => ?_
    match j, hj with
    | 0, _ => exact hh.1
    | 1, _ => exact hh.2.1
    | 2, _ => exact hh.2.2.1
    | 3, _ => exact hh.2.2.2
  rw [this]
  rfl
end Go.Proofs.Ytbpdopcdhnemfaa
/- The program's tables, held as values. -/
namespace Go.Proofs.Ytbpdopcdhnemfaa
open Go.RowKit
set_option linter.unusedSimpArgs false
set_option linter.unusedVariables false
theorem standWell_any (c : Nat → Int) (zl kn : Nat) (p m : Nat → Nat → Int) (w : World) (hkn : kn ≤ 4) (h : Row w zl (kn * 8) (lc p m)) :
    Calls Try.prog 168 #[.agg (held5 c zl kn)] w fun e w' => ∃ r, e = .returned (.bool r) ∧ (r = true ↔ swOK c kn p m) ∧ Blw w w' := standWell_of (fun f g h w => neq8_same f g h w) (fun f g h w => neq8_other f g h w) c zl kn p m w hkn h
theorem tinfo101 : (Try.prog.info? 202).map (fun i => (i.zero, i.size, i.bytes)) = some (some (.agg #[.int .i64 0, .int .i64 0, .int .i64 0, .int .i64 0, .int .i64 0, .int .i64 0, .int .i64 0, .int .i64 0]), 8, 64) := by kernel_rfl
theorem mk8 (n : Nat) (hn : n ≤ 4) (w : World) : (Instr.makeSlice 134 (.int .i64 n) (.int .i64 n)).run Try.prog w = .ok (.slice (some ⟨w.heap.size, 0, none⟩) n n) (w.alloc (.cells (madeCells #[.int .i64 0, .int .i64 0, .int .i64 0, .int .i64 0, .int .i64 0, .int .i64 0, .int .i64 0, .int .i64 0] (n * 8)) 202)) := by
  obtain ⟨i0, hi, hz0, hz1, hz2⟩ := info_parts tinfo101
  have h := run_make (P := Try.prog) w 134 202 i0 (.agg #[.int .i64 0, .int .i64 0, .int .i64 0, .int .i64 0, .int .i64 0, .int .i64 0, .int .i64 0, .int .i64 0]) Try.underlying134 hi hz0 .i64 .i64 (n : Int) (n : Int) (by omega) (Int.le_refl _) (by rw [hz2]; omega) (by omega)
  simpa [hz1, Value.cells] using h
theorem Row.made8 (w : World) (z : Value) (n : Nat) (t : TypeId) : Row (w.alloc (.cells (madeCells #[z, z, z, z, z, z, z, z] n) t)) w.heap.size n (fun _ => z) := by
  refine ⟨_, t, heap_alloc_new _ _, by simp [madeCells], fun i hi => ?_⟩
  have h2 : i % 8 = 0 ∨ i % 8 = 1 ∨ i % 8 = 2 ∨ i % 8 = 3 ∨ i % 8 = 4 ∨ i % 8 = 5 ∨ i % 8 = 6 ∨ i % 8 = 7 := by omega
  rcases h2 with h2 | h2 | h2 | h2 | h2 | h2 | h2 | h2 <;> simp [madeCells, hi, h2]
def upTo (j : Nat) (p : Nat → Nat → Int) : Nat → Nat → Int := fun k t => if k < j then p k t else 0
abbrev set8 (w : World) (z o : Nat) (f g : Nat → Int) : World := (((((((w.setCell ⟨z, o, none⟩ (.int .i64 (f 0))).setCell ⟨z, o + 1, none⟩ (.int .i64 (g 0))).setCell ⟨z, o + 2, none⟩ (.int .i64 (f 1))).setCell ⟨z, o + 3, none⟩ (.int .i64 (g 1))).setCell ⟨z, o + 4, none⟩ (.int .i64 (f 2))).setCell ⟨z, o + 5, none⟩ (.int .i64 (g 2))).setCell ⟨z, o + 6, none⟩ (.int .i64 (f 3))).setCell ⟨z, o + 7, none⟩ (.int .i64 (g 3))
theorem set8_mod (w : World) (z o : Nat) (f g : Nat → Int) : Mod (fun x => x = z) w (set8 w z o f g) :=
  (((((((Mod.setCell (X := fun x => x = z) _ (p := ⟨z, o, none⟩) rfl _).trans (Mod.setCell (X := fun x => x = z) _ (p := ⟨z, o + 1, none⟩) rfl _)).trans (Mod.setCell (X := fun x => x = z) _ (p := ⟨z, o + 2, none⟩) rfl _)).trans (Mod.setCell (X := fun x => x = z) _ (p := ⟨z, o + 3, none⟩) rfl _)).trans (Mod.setCell (X := fun x => x = z) _ (p := ⟨z, o + 4, none⟩) rfl _)).trans (Mod.setCell (X := fun x => x = z) _ (p := ⟨z, o + 5, none⟩) rfl _)).trans (Mod.setCell (X := fun x => x = z) _ (p := ⟨z, o + 6, none⟩) rfl _)).trans (Mod.setCell (X := fun x => x = z) _ (p := ⟨z, o + 7, none⟩) rfl _)
theorem row_set8 {w : World} {z n : Nat} {F : Nat → Value} (r : Row w z n F) (o : Nat) (f g : Nat → Int) : Row (set8 w z o f g) z n (fun i => if o ≤ i ∧ i < o + 8 then (if (i - o) % 2 = 0 then .int .i64 (f ((i - o) / 2)) else .int .i64 (g ((i - o) / 2))) else F i) := by
  refine ((((((((r.set o _).set (o + 1) _).set (o + 2) _).set (o + 3) _).set (o + 4) _).set (o + 5) _).set (o + 6) _).set (o + 7) _).congr (fun i hi => ?_)
  by_cases h : o ≤ i ∧ i < o + 8
  · rw [if_pos h]
    obtain ⟨t, rfl⟩ : ∃ t, i = o + t := ⟨i - o, by omega⟩
    have ht : t = 0 ∨ t = 1 ∨ t = 2 ∨ t = 3 ∨ t = 4 ∨ t = 5 ∨ t = 6 ∨ t = 7 := by omega
    rcases ht with rfl | rfl | rfl | rfl | rfl | rfl | rfl | rfl <;> simp
  · rw [if_neg h]
    have e0 : ¬ i = o := by omega
    have e1 : ¬ i = o + 1 := by omega
    have e2 : ¬ i = o + 2 := by omega
    have e3 : ¬ i = o + 3 := by omega
    have e4 : ¬ i = o + 4 := by omega
    have e5 : ¬ i = o + 5 := by omega
    have e6 : ¬ i = o + 6 := by omega
    have e7 : ¬ i = o + 7 := by omega
    simp [e0, e1, e2, e3, e4, e5, e6, e7]
theorem lc_step {w : World} {z n : Nat} {p m : Nat → Nat → Int} {j : Nat} (r : Row w z (n * 8) (lc (upTo j p) (upTo j m))) : Row (set8 w z (j * 8) (p j) (m j)) z (n * 8) (lc (upTo (j + 1) p) (upTo (j + 1) m)) :=
  (row_set8 r (j * 8) (p j) (m j)).congr (fun i hi => by
    unfold lc upTo
    by_cases h : j * 8 ≤ i ∧ i < j * 8 + 8
    · rw [if_pos h]
      have e1 : i / 8 = j := by omega
      have e2 : (i - j * 8) % 2 = i % 2 := by omega
      have e3 : (i - j * 8) / 2 = i % 8 / 2 := by omega
      have e4 : j < j + 1 := by omega
      simp only [e1, e2, e3, e4, if_true]
    · rw [if_neg h]
      have e5 : (i / 8 < j + 1) = (i / 8 < j) := propext ⟨fun q => by omega, fun q => by omega⟩
      simp only [e5])
theorem good_sw {n kn : Nat} {c : Nat → Int} {len : Nat → Nat} {p m : Nat → Nat → Int} (hn : n = 4) (hk : 1 ≤ kn ∧ kn ≤ 4) (hl : ∀ i, i < kn → listOK ⟨kn, len, p, m⟩ i) : BD.Good ⟨n, c, ⟨kn, len, p, m⟩⟩ ↔ swOK c kn p m := by
  subst hn
  refine good_parts.trans ?_
  constructor
  · rintro ⟨h1, h2, h3, -⟩
    refine ⟨h2, fun k hkk hnl j hj => ?_⟩
    have hm := h3 k hkk hnl j (by show j < len k; have h6 : len k = 4 := (h1 k hkk).1; omega)
    have hlf := (h1 k hkk).2 j hj
    have hm' : ¬ 0 < m k j := hm
    have hlf' : leafOK (p k j) (m k j) := hlf
    unfold leafOK at hlf'
    omega
  · rintro ⟨h2, h3⟩
    refine ⟨hl, h2, fun k hkk hnl j hj => ?_, rfl, hk.1, hk.2⟩
    have := (h3 k hkk hnl j (by have h4 := (hl k hkk).1; have h5 : j < len k := hj; have h6 : len k = 4 := h4; omega)).2
    show ¬ 0 < m k j
    omega
theorem list_ls {kn : Nat} {len : Nat → Nat} {p m : Nat → Nat → Int} {i : Nat} : listOK ⟨kn, len, p, m⟩ i ↔ lsOK (len i) (p i) (m i) := Iff.rfl
theorem set5_blw {w W : World} {z : Nat} (h : Blw w W) (hz : w.heap.size ≤ z) (v0 v1 v2 v3 v4 : Value) : Blw w (((((W.setCell ⟨z, 0, none⟩ v0).setCell ⟨z, 1, none⟩ v1).setCell ⟨z, 2, none⟩ v2).setCell ⟨z, 3, none⟩ v3).setCell ⟨z, 4, none⟩ v4) :=
  ((((h.setCell hz _).setCell hz _).setCell hz _).setCell hz _).setCell hz _
def zrow (v : Value) : Nat → Value := fun i => if i < 4 then .int .i64 0 else v
theorem zrow5 (w : World) (v : Value) (t : TypeId) : Row (w.alloc (.cells #[.int .i64 0, .int .i64 0, .int .i64 0, .int .i64 0, v] t)) w.heap.size 5 (zrow v) :=
  (row5 w (.int .i64 0) (.int .i64 0) (.int .i64 0) (.int .i64 0) v t).congr (fun i hi => by
    match i, hi with
    | 0, _ => rfl
    | 1, _ => rfl
    | 2, _ => rfl
    | 3, _ => rfl
    | 4, _ => rfl)
theorem zget {w : World} {B : Nat} {v : Value} (r : Row w B 5 (zrow v)) : w.cell? ⟨B, 0, none⟩ = some (.int .i64 0) ∧ w.cell? ⟨B, 1, none⟩ = some (.int .i64 0) ∧ w.cell? ⟨B, 2, none⟩ = some (.int .i64 0) ∧ w.cell? ⟨B, 3, none⟩ = some (.int .i64 0) ∧ w.cell? ⟨B, 4, none⟩ = some v :=
  ⟨r.cell (i := 0) (by omega), r.cell (i := 1) (by omega), r.cell (i := 2) (by omega), r.cell (i := 3) (by omega), r.cell (i := 4) (by omega)⟩
abbrev zero5 : Array Value := #[.int .i64 0, .int .i64 0, .int .i64 0, .int .i64 0, .slice none 0 0]
end Go.Proofs.Ytbpdopcdhnemfaa
/- The program's tables, held as values. -/
namespace Go.Proofs.Ytbpdopcdhnemfaa
open Go.RowKit
set_option linter.unusedSimpArgs false
set_option linter.unusedVariables false
set_option maxRecDepth 10000 in
set_option maxHeartbeats 6400000 in
theorem hold_any (b : BV) (B : BD) (Y : Nat → Prop) (w : World) (h : BookAt Y w b B) (hY : ∀ x, Y x → x < w.heap.size) :
    Calls Try.prog 103 #[b.val B] w fun e w' => ((∃ zl, B.Good ∧ e = .returned (.tuple #[.agg (held5 B.c zl B.D.n), .bool true]) ∧ Row w' zl (B.D.n * 8) (lc B.D.p B.D.m) ∧ w.heap.size ≤ zl) ∨ (¬ B.Good ∧ e = .returned (.tuple #[.agg zero5, .bool false]))) ∧ Blw w w' := by
  obtain ⟨n, c, ⟨kn, len, p, m⟩⟩ := B
  obtain ⟨a1, a2, q1, q2⟩ := b
  simp only [BV.val] at *
  have hn := h.c.1
  have hk := h.l.1
  dsimp only at hn hk
  have HC : Hid (IntsAt Y w a1 n c) := h.c
  have HL : Hid (PSAt Y w a2 ⟨kn, len, p, m⟩) := h.l
  clear h
  by_cases h4 : n = 4
  case neg =>
    have hb1 : Blw w ((w.alloc (.cells #[.slice a1 n q1, .slice a2 kn q2] 29)).alloc (.cells #[.int .i64 0, .int .i64 0, .int .i64 0, .int .i64 0, .slice none 0 0] 136)) := ((Blw.refl _).alloc _).alloc _
    have rA := (box2 w (.slice a1 n q1) (.slice a2 kn q2) 29).blw ((Blw.refl _).alloc (.cells #[.int .i64 0, .int .i64 0, .int .i64 0, .int .i64 0, .slice none 0 0] 136))
    have rR := zrow5 (w.alloc (.cells #[.slice a1 n q1, .slice a2 kn q2] 29)) (.slice none 0 0) 136
    rw [World.size_alloc] at rR
    obtain ⟨p0, p1⟩ := get2 rA
    obtain ⟨t0, t1, t2, t3, t4⟩ := zget rR
    have f0 := rR.frozen 0; have f1 := rR.frozen 1; have f2 := rR.frozen 2; have f3 := rR.frozen 3; have f4 := rR.frozen 4
    go_enter Try.func103, Try.ntmps103
    have HN : Hid (¬ BD.Good ⟨n, c, ⟨kn, len, p, m⟩⟩) := fun g => h4 g.n
    have d4 : ((n : Int) != 4) = true := by simp; omega
    clear h4 rA rR
    go_wp2
    refine bodyPost_ret (v := .tuple #[.agg zero5, .bool false]) (by simp [results, Try.results103, go_sem, t0, t1, t2, t3, t4]) rfl ?_
    refine ⟨Or.inr ⟨HN.out, rfl⟩, ?_⟩
    first | exact hb1 | exact set5_blw hb1 (by omega) _ _ _ _ _
  subst h4
  have hb1 : Blw w ((w.alloc (.cells #[.slice a1 4 q1, .slice a2 kn q2] 29)).alloc (.cells #[.int .i64 0, .int .i64 0, .int .i64 0, .int .i64 0, .slice none 0 0] 136)) := ((Blw.refl _).alloc _).alloc _
  have rA := (box2 w (.slice a1 4 q1) (.slice a2 kn q2) 29).blw ((Blw.refl _).alloc (.cells #[.int .i64 0, .int .i64 0, .int .i64 0, .int .i64 0, .slice none 0 0] 136))
  have rR := zrow5 (w.alloc (.cells #[.slice a1 4 q1, .slice a2 kn q2] 29)) (.slice none 0 0) 136
  rw [World.size_alloc] at rR
  obtain ⟨p0, p1⟩ := get2 rA
  obtain ⟨t0, t1, t2, t3, t4⟩ := zget rR
  have f0 := rR.frozen 0; have f1 := rR.frozen 1; have f2 := rR.frozen 2; have f3 := rR.frozen 3; have f4 := rR.frozen 4
  go_enter Try.func103, Try.ntmps103
  go_wp2_with fail
  refine (isCnt_any (kn : Int) _).mono ?_
  rintro e w' ⟨r, rfl, hr, hw⟩
  subst hw
  have HR : Hid (r = true ↔ cntOK (kn : Int)) := hr
  clear hr
  cases r
  · have HN : Hid (¬ BD.Good ⟨4, c, ⟨kn, len, p, m⟩⟩) := fun g => by have := HR.out.2 ⟨by have := g.k.1; dsimp only at this; omega, by have := g.k.2; dsimp only at this; omega⟩; simp at this
    clear HR rA rR
    go_wp2
    refine bodyPost_ret (v := .tuple #[.agg zero5, .bool false]) (by simp [results, Try.results103, go_sem, t0, t1, t2, t3, t4]) rfl ?_
    refine ⟨Or.inr ⟨HN.out, rfl⟩, ?_⟩
    first | exact hb1 | exact set5_blw hb1 (by omega) _ _ _ _ _
  have hcnt : 1 ≤ kn ∧ kn ≤ 4 := by have := HR.out.1 (by first | rfl | trivial); unfold cntOK at this; omega
  have HK : Hid (1 ≤ kn ∧ kn ≤ 4) := hcnt
  have hk4 : kn ≤ 4 := hcnt.2
  have hmk := mk8 kn hk4
  have H4 : Hid ((4 : Nat) = 4) := rfl
  clear HR hcnt
  have hb3 : Blw ((w.alloc (.cells #[.slice a1 4 q1, .slice a2 kn q2] 29)).alloc (.cells #[.int .i64 0, .int .i64 0, .int .i64 0, .int .i64 0, .slice none 0 0] 136)) ((((w.alloc (.cells #[.slice a1 4 q1, .slice a2 kn q2] 29)).alloc (.cells #[.int .i64 0, .int .i64 0, .int .i64 0, .int .i64 0, .slice none 0 0] 136)).alloc (.cells (madeCells #[.int .i64 0, .int .i64 0, .int .i64 0, .int .i64 0, .int .i64 0, .int .i64 0, .int .i64 0, .int .i64 0] (kn * 8)) 202)).alloc (.cells #[.int .i64 0, .int .i64 0, .int .i64 0, .int .i64 0, .slice (some ⟨w.heap.size + 1 + 1, 0, none⟩) kn kn] 136)) := ((Blw.refl _).alloc _).alloc _
  have rL := (Row.made8 ((w.alloc (.cells #[.slice a1 4 q1, .slice a2 kn q2] 29)).alloc (.cells #[.int .i64 0, .int .i64 0, .int .i64 0, .int .i64 0, .slice none 0 0] 136)) (.int .i64 0) (kn * 8) 202).blw ((Blw.refl _).alloc (.cells #[.int .i64 0, .int .i64 0, .int .i64 0, .int .i64 0, .slice (some ⟨w.heap.size + 1 + 1, 0, none⟩) kn kn] 136))
  have rH := zrow5 (((w.alloc (.cells #[.slice a1 4 q1, .slice a2 kn q2] 29)).alloc (.cells #[.int .i64 0, .int .i64 0, .int .i64 0, .int .i64 0, .slice none 0 0] 136)).alloc (.cells (madeCells #[.int .i64 0, .int .i64 0, .int .i64 0, .int .i64 0, .int .i64 0, .int .i64 0, .int .i64 0, .int .i64 0] (kn * 8)) 202)) (.slice (some ⟨w.heap.size + 1 + 1, 0, none⟩) kn kn) 136
  have sz1 : ((w.alloc (.cells #[.slice a1 4 q1, .slice a2 kn q2] 29)).alloc (.cells #[.int .i64 0, .int .i64 0, .int .i64 0, .int .i64 0, .slice none 0 0] 136)).heap.size = w.heap.size + 1 + 1 := by simp
  have sz2 : (((w.alloc (.cells #[.slice a1 4 q1, .slice a2 kn q2] 29)).alloc (.cells #[.int .i64 0, .int .i64 0, .int .i64 0, .int .i64 0, .slice none 0 0] 136)).alloc (.cells (madeCells #[.int .i64 0, .int .i64 0, .int .i64 0, .int .i64 0, .int .i64 0, .int .i64 0, .int .i64 0, .int .i64 0] (kn * 8)) 202)).heap.size = w.heap.size + 1 + 1 + 1 := by simp
  rw [sz1] at rL
  rw [sz2] at rH
  have sz3 : ((((w.alloc (.cells #[.slice a1 4 q1, .slice a2 kn q2] 29)).alloc (.cells #[.int .i64 0, .int .i64 0, .int .i64 0, .int .i64 0, .slice none 0 0] 136)).alloc (.cells (madeCells #[.int .i64 0, .int .i64 0, .int .i64 0, .int .i64 0, .int .i64 0, .int .i64 0, .int .i64 0, .int .i64 0] (kn * 8)) 202)).alloc (.cells #[.int .i64 0, .int .i64 0, .int .i64 0, .int .i64 0, .slice (some ⟨w.heap.size + 1 + 1, 0, none⟩) kn kn] 136)).heap.size = w.heap.size + 1 + 1 + 1 + 1 := by simp
  have pA := rA.blw hb3
  have pR := rR.blw hb3
  obtain ⟨o0, o1⟩ := get2 pA
  go_wp2_with fail
  clear hmk t0 t1 t2 t3 t4 f0 f1 f2 f3 f4 p0 p1 rA rR o0 o1 sz1 sz2
  replace hb3 := hb1.trans hb3
  clear hb1
  generalize ((((w.alloc (.cells #[.slice a1 4 q1, .slice a2 kn q2] 29)).alloc (.cells #[.int .i64 0, .int .i64 0, .int .i64 0, .int .i64 0, .slice none 0 0] 136)).alloc (.cells (madeCells #[.int .i64 0, .int .i64 0, .int .i64 0, .int .i64 0, .int .i64 0, .int .i64 0, .int .i64 0, .int .i64 0] (kn * 8)) 202)).alloc (.cells #[.int .i64 0, .int .i64 0, .int .i64 0, .int .i64 0, .slice (some ⟨w.heap.size + 1 + 1, 0, none⟩) kn kn] 136)) = w3 at *
  have HB3 : Hid (Blw w w3) := hb3
  have HA : Hid (Row w3 w.heap.size 2 (fun i => if i = 0 then .slice a1 4 q1 else .slice a2 kn q2)) := pA
  have HRR : Hid (Row w3 (w.heap.size + 1) 5 (zrow (.slice none 0 0))) := pR
  have HH : Hid (Row w3 (w.heap.size + 1 + 1 + 1) 5 (zrow (.slice (some ⟨w.heap.size + 1 + 1, 0, none⟩) kn kn))) := rH
  have HRL : Hid (Row w3 (w.heap.size + 1 + 1) (kn * 8) (lc (upTo 0 p) (upTo 0 m))) := rL.congr (fun i hi => by unfold lc upTo; simp)
  have HSZ : Hid (w3.heap.size = w.heap.size + 1 + 1 + 1 + 1) := sz3
  replace HC : Hid (IntsAt Y w3 a1 4 c) := HC.out.blw hb3
  replace HL : Hid (PSAt Y w3 a2 ⟨kn, len, p, m⟩) := HL.out.blw hb3
  clear hb3 rL rH pA pR sz3
  go_loopw [28] (fun i wr => ∃ j : Nat, j ≤ kn ∧ i = .int .i64 j ∧ (∀ i, i < j → listOK ⟨kn, len, p, m⟩ i) ∧ Row wr (w.heap.size + 1 + 1) (kn * 8) (lc (upTo j p) (upTo j m)) ∧ Mod (fun x => x = w.heap.size + 1 + 1) w3 wr) (fun i _ => kn - (intOf i).toNat)
  case atStart => exact ⟨0, Nat.zero_le _, rfl, fun t ht => absurd ht (Nat.not_lt_zero _), HRL.out, Mod.refl _ _⟩
  case round =>
    obtain ⟨j, hj, rfl, hok, hrl, hm⟩ := hrel
    have HO : Hid (∀ i, i < j → listOK ⟨kn, len, p, m⟩ i) := hok
    have HM : Hid (Mod (fun x => x = w.heap.size + 1 + 1) w3 wr) := hm
    have HRW : Hid (Row wr (w.heap.size + 1 + 1) (kn * 8) (lc (upTo j p) (upTo j m))) := hrl
    have HBW : Hid (Blw w wr) := Mod.blw HB3.out hm (fun i hi => by omega)
    clear hok hm hrl HRL
    by_cases hlt : j < kn
    · have hlt' : (j : Int) < (kn : Int) := by omega
      obtain ⟨bb, oo, aa, cc, ea, -, g1, g2⟩ := (HL.out.mod HM.out (fun x hx e => by have := hY x hx; omega)).2 j hlt
      dsimp only at g1 g2
      subst ea
      have G2 : Hid (UndosAt Y wr aa (len j) (p j) (m j)) := g2
      clear g2
      have HHW : Hid (Row wr (w.heap.size + 1 + 1 + 1) 5 (zrow (.slice (some ⟨w.heap.size + 1 + 1, 0, none⟩) kn kn))) := HH.out.mod HM.out (by omega)
      have P4 : ∀ w', Row w' (w.heap.size + 1 + 1 + 1) 5 (zrow (.slice (some ⟨w.heap.size + 1 + 1, 0, none⟩) kn kn)) → w'.cell? ⟨w.heap.size + 1 + 1 + 1, 4, none⟩ = some (.slice (some ⟨w.heap.size + 1 + 1, 0, none⟩) kn kn) := fun w' hh => (zget hh).2.2.2.2
      go_upto_region 8 with fail
      clear g1
      refine wp_region_noPanic ?_
      refine wp_region_held_drew (S := fun w' => Row w' (w.heap.size + 1 + 1 + 1) 5 (zrow (.slice (some ⟨w.heap.size + 1 + 1, 0, none⟩) kn kn))) (by kernel_rfl) (HHW.out.blw (Blw.refl _).drew) (fun hB => ?_)
      clear hB
      replace HHW := HHW.out.blw (Blw.refl _).drew
      replace HRW := HRW.out.blw (Blw.refl _).drew
      replace G2 := G2.out.blw (Blw.refl _).drew
      have HWD : Hid (Blw wr wr.drew) := (Blw.refl _).drew
      generalize wr.drew = wd at *
      have HHD : Hid (Row wd (w.heap.size + 1 + 1 + 1) 5 (zrow (.slice (some ⟨w.heap.size + 1 + 1, 0, none⟩) kn kn))) := HHW
      have HRD : Hid (Row wd (w.heap.size + 1 + 1) (kn * 8) (lc (upTo j p) (upTo j m))) := HRW
      have GD : Hid (UndosAt Y wd aa (len j) (p j) (m j)) := G2
      clear HHW HRW G2
      refine wpAnyH_take (i := 0) (oi := { dst := some 34, op := Op.fieldAddr 136 (Operand.tmp 4) 1, type := 0, pos := _, after := #[], guard := none }) (v := (.pointer (some ⟨w.heap.size + 1 + 1 + 1, 4, none⟩))) rfl (by kernel_rfl) (by kernel_rfl) (by kernel_rfl) (fun _ _ _ h => h) (Or.inl ⟨by rfl, fun w' hS => by (try dsimp only at hS); go_simp⟩) HHD.out ?_
      simp only [Act.put, List.setIfInBounds_toArray, List.set_cons_zero, List.set_cons_succ]
      refine wpAnyH_take (i := 1) (oi := { dst := some 35, op := Op.load 134 (Operand.tmp 34), type := 134, pos := _, after := #[{ on := 0, ground := Ground.data }], guard := none }) (v := (.slice (some ⟨w.heap.size + 1 + 1, 0, none⟩) kn kn)) rfl (by kernel_rfl) (by kernel_rfl) (by kernel_rfl) (fun _ _ _ h => h) (Or.inl ⟨by rfl, fun w' hS => by (try dsimp only at hS); go_simp⟩) HHD.out ?_
      simp only [Act.put, List.setIfInBounds_toArray, List.set_cons_zero, List.set_cons_succ]
      refine wpAnyH_take (i := 2) (oi := { dst := some 36, op := Op.move (Operand.tmp 5), type := 3, pos := _, after := #[], guard := none }) (v := (.int .i64 j)) rfl (by kernel_rfl) (by kernel_rfl) (by kernel_rfl) (fun _ _ _ h => h) (Or.inl ⟨by rfl, fun w' hS => by (try dsimp only at hS); go_simp⟩) HHD.out ?_
      simp only [Act.put, List.setIfInBounds_toArray, List.set_cons_zero, List.set_cons_succ]
      refine wpAnyH_take (i := 3) (oi := { dst := some 37, op := Op.move (Operand.tmp 6), type := 186, pos := _, after := #[], guard := none }) (v := (.slice aa (len j) cc)) rfl (by kernel_rfl) (by kernel_rfl) (by kernel_rfl) (fun _ _ _ h => h) (Or.inl ⟨by rfl, fun w' hS => by (try dsimp only at hS); go_simp⟩) HHD.out ?_
      simp only [Act.put, List.setIfInBounds_toArray, List.set_cons_zero, List.set_cons_succ]
      refine wpAnyH_ready (rs := [4]) (by kernel_rfl) (by simp) ?_
      refine AllReadyH.cons (o := { dst := some 38, op := Op.call { callee := Callee.value (Operand.func 167), args := #[Operand.tmp 37], argTypes := #[186] }, type := 203, pos := _, after := #[{ on := 3, ground := Ground.data }], guard := none }) rfl (fun K hK => ?_) AllReadyH.nil
      go_simp
      refine (holdLeaves_any aa cc (len j) (p j) (m j) Y _ GD.out).mono ?_
      rintro e w1 ⟨hres, hb1⟩
      have HH1 : Hid (Row w1 (w.heap.size + 1 + 1 + 1) 5 (zrow (.slice (some ⟨w.heap.size + 1 + 1, 0, none⟩) kn kn))) := HHD.out.blw hb1
      have HR1 : Hid (Row w1 (w.heap.size + 1 + 1) (kn * 8) (lc (upTo j p) (upTo j m))) := HRD.out.blw hb1
      have HB1 : Hid (Blw wr w1) := HWD.out.trans hb1
      have HS1 : Hid (w.heap.size + 1 + 1 + 1 < w1.heap.size) := HH1.out.lt
      clear hb1 HHD HRD GD HWD
      rcases hres with ⟨hls, rfl⟩ | ⟨hls, rfl⟩
      · skip
        have HLS : Hid (lsOK (len j) (p j) (m j)) := hls
        clear hls
        refine hK.out _ _ HH1.out (fun hB => ?_)
        clear hK K hB
        try simp only [Act.put, List.setIfInBounds_toArray, List.set_cons_zero, List.set_cons_succ]
        refine wpAnyH_take (i := 5) (oi := { dst := some 33, op := Op.move (Operand.tmp 38), type := 203, pos := _, after := #[{ on := 4, ground := Ground.data }], guard := none }) (v := (.tuple #[(.agg #[.int .i64 (p j 0), .int .i64 (m j 0), .int .i64 (p j 1), .int .i64 (m j 1), .int .i64 (p j 2), .int .i64 (m j 2), .int .i64 (p j 3), .int .i64 (m j 3)]), .bool true])) rfl (by kernel_rfl) (by kernel_rfl) (by kernel_rfl) (fun _ _ _ h => h) (Or.inl ⟨by rfl, fun w' hS => by (try dsimp only at hS); go_simp⟩) HH1.out ?_
        simp only [Act.put, List.setIfInBounds_toArray, List.set_cons_zero, List.set_cons_succ]
        refine wpAnyH_take (i := 6) (oi := { dst := some 39, op := Op.extract (Operand.tmp 33) 0, type := 202, pos := _, after := #[{ on := 5, ground := Ground.data }], guard := none }) (v := (.agg #[.int .i64 (p j 0), .int .i64 (m j 0), .int .i64 (p j 1), .int .i64 (m j 1), .int .i64 (p j 2), .int .i64 (m j 2), .int .i64 (p j 3), .int .i64 (m j 3)])) rfl (by kernel_rfl) (by kernel_rfl) (by kernel_rfl) (fun _ _ _ h => h) (Or.inl ⟨by rfl, fun w' hS => by (try dsimp only at hS); go_simp⟩) HH1.out ?_
        simp only [Act.put, List.setIfInBounds_toArray, List.set_cons_zero, List.set_cons_succ]
        refine wpAnyH_take (i := 7) (oi := { dst := some 40, op := Op.extract (Operand.tmp 33) 1, type := 4, pos := _, after := #[{ on := 5, ground := Ground.data }, { on := 9, ground := Ground.gcOnly Departure.lateStores }], guard := none }) (v := (.bool true)) rfl (by kernel_rfl) (by kernel_rfl) (by kernel_rfl) (fun _ _ _ h => h) (Or.inl ⟨by rfl, fun w' hS => by (try dsimp only at hS); go_simp⟩) HH1.out ?_
        simp only [Act.put, List.setIfInBounds_toArray, List.set_cons_zero, List.set_cons_succ]
        refine wpAnyH_take (i := 8) (oi := { dst := some 41, op := Op.indexAddr 134 (Operand.tmp 35) (Operand.tmp 36), type := 0, pos := _, after := #[{ on := 1, ground := Ground.data }, { on := 2, ground := Ground.data }, { on := 0, ground := Ground.phase }, { on := 1, ground := Ground.phase }, { on := 2, ground := Ground.phase }, { on := 3, ground := Ground.phase }, { on := 4, ground := Ground.phase }, { on := 5, ground := Ground.phase }, { on := 6, ground := Ground.phase }, { on := 7, ground := Ground.textOnly Departure.lateStores }], guard := none }) (v := (.pointer (some ⟨w.heap.size + 1 + 1, j * 8, none⟩))) rfl (by kernel_rfl) (by kernel_rfl) (by kernel_rfl) (fun _ _ _ h => h) (Or.inl ⟨by rfl, fun w' hS => by (try dsimp only at hS); go_simp⟩) HH1.out ?_
        simp only [Act.put, List.setIfInBounds_toArray, List.set_cons_zero, List.set_cons_succ]
        refine wpAnyH_ready (rs := [9]) (by kernel_rfl) (by simp) ?_
        refine AllReadyH.cons (o := { dst := none, op := Op.store 202 (Operand.tmp 41) (Operand.tmp 39), type := 0, pos := _, after := #[{ on := 8, ground := Ground.data }, { on := 6, ground := Ground.data }, { on := 4, ground := Ground.chain }, { on := 0, ground := Ground.phase }, { on := 1, ground := Ground.phase }, { on := 2, ground := Ground.phase }, { on := 3, ground := Ground.phase }, { on := 4, ground := Ground.phase }, { on := 5, ground := Ground.phase }, { on := 6, ground := Ground.phase }, { on := 7, ground := Ground.textOnly Departure.lateStores }], guard := none }) rfl (fun K hK => ?_) AllReadyH.nil
        obtain ⟨z0, z1, z2, z3, z4, z5, z6, z7⟩ := lc8 HR1.out hlt
        have f0 := HR1.out.frozen (j * 8); have f1 := HR1.out.frozen (j * 8 + 1); have f2 := HR1.out.frozen (j * 8 + 2); have f3 := HR1.out.frozen (j * 8 + 3); have f4 := HR1.out.frozen (j * 8 + 4); have f5 := HR1.out.frozen (j * 8 + 5); have f6 := HR1.out.frozen (j * 8 + 6); have f7 := HR1.out.frozen (j * 8 + 7)
        have MS : Hid (Mod (fun x => x = w.heap.size + 1 + 1) w1 (set8 w1 (w.heap.size + 1 + 1) (j * 8) (p j) (m j))) := set8_mod _ _ _ _ _
        have HH2 : Hid (Row (set8 w1 (w.heap.size + 1 + 1) (j * 8) (p j) (m j)) (w.heap.size + 1 + 1 + 1) 5 (zrow (.slice (some ⟨w.heap.size + 1 + 1, 0, none⟩) kn kn))) := HH1.out.mod MS.out (by omega)
        have HRN : Hid (Row (set8 w1 (w.heap.size + 1 + 1) (j * 8) (p j) (m j)) (w.heap.size + 1 + 1) (kn * 8) (lc (upTo (j + 1) p) (upTo (j + 1) m))) := lc_step HR1.out
        go_simp
        refine hK.out _ _ HH2.out (fun hB => ?_)
        clear hK K hB z0 z1 z2 z3 z4 z5 z6 z7 f0 f1 f2 f3 f4 f5 f6 f7
        try simp only [Act.put, List.setIfInBounds_toArray, List.set_cons_zero, List.set_cons_succ]
        refine wpAnyH_take (i := 10) (oi := { dst := some 7, op := Op.assign (Operand.tmp 40), type := 4, pos := _, after := #[{ on := 7, ground := Ground.data }, { on := 9, ground := Ground.chain }, { on := 0, ground := Ground.phase }, { on := 1, ground := Ground.phase }, { on := 2, ground := Ground.phase }, { on := 3, ground := Ground.phase }, { on := 4, ground := Ground.phase }, { on := 5, ground := Ground.phase }, { on := 6, ground := Ground.phase }, { on := 7, ground := Ground.phase }, { on := 8, ground := Ground.phase }, { on := 9, ground := Ground.phase }], guard := none }) (v := (.bool true)) rfl (by kernel_rfl) (by kernel_rfl) (by kernel_rfl) (fun _ _ _ h => h) (Or.inl ⟨by rfl, fun w' hS => by (try dsimp only at hS); go_simp⟩) HH2.out ?_
        simp only [Act.put, List.setIfInBounds_toArray, List.set_cons_zero, List.set_cons_succ]
        refine wpAnyH_done (by kernel_rfl) ?_ _
        refine NoPanic.normal ?_
        have HMN : Hid (Mod (fun x => x = w.heap.size + 1 + 1) w3 (set8 w1 (w.heap.size + 1 + 1) (j * 8) (p j) (m j))) := (HM.out.trans (HB1.out.mod _)).trans MS.out
        have HON : Hid (∀ i, i < j + 1 → listOK ⟨kn, len, p, m⟩ i) := fun i hi => by
          by_cases e : i = j
          · subst e; exact HLS.out
          · exact HO.out i (by omega)
        clear HM HO HH1 HR1 HB1 HH2 MS HLS HBW
        obtain ⟨w5, hw5⟩ : ∃ w5, w5 = set8 w1 (w.heap.size + 1 + 1) (j * 8) (p j) (m j) := ⟨_, rfl⟩
        rw [← hw5] at HMN HRN
        simp only [set8] at hw5
        rw [← hw5]
        clear hw5
        go_wp2
        go_roundw
        case rel => exact ⟨j + 1, by omega, by go_num, HON.out, HRN.out, HMN.out⟩
        case measure => simp [intOf]; omega
      · skip
        have HLS : Hid (¬ lsOK (len j) (p j) (m j)) := hls
        clear hls
        refine hK.out _ _ HH1.out (fun hB => ?_)
        clear hK K hB
        try simp only [Act.put, List.setIfInBounds_toArray, List.set_cons_zero, List.set_cons_succ]
        refine wpAnyH_take (i := 5) (oi := { dst := some 33, op := Op.move (Operand.tmp 38), type := 203, pos := _, after := #[{ on := 4, ground := Ground.data }], guard := none }) (v := (.tuple #[(.agg #[.int .i64 (0), .int .i64 (0), .int .i64 (0), .int .i64 (0), .int .i64 (0), .int .i64 (0), .int .i64 (0), .int .i64 (0)]), .bool false])) rfl (by kernel_rfl) (by kernel_rfl) (by kernel_rfl) (fun _ _ _ h => h) (Or.inl ⟨by rfl, fun w' hS => by (try dsimp only at hS); go_simp⟩) HH1.out ?_
        simp only [Act.put, List.setIfInBounds_toArray, List.set_cons_zero, List.set_cons_succ]
        refine wpAnyH_take (i := 6) (oi := { dst := some 39, op := Op.extract (Operand.tmp 33) 0, type := 202, pos := _, after := #[{ on := 5, ground := Ground.data }], guard := none }) (v := (.agg #[.int .i64 (0), .int .i64 (0), .int .i64 (0), .int .i64 (0), .int .i64 (0), .int .i64 (0), .int .i64 (0), .int .i64 (0)])) rfl (by kernel_rfl) (by kernel_rfl) (by kernel_rfl) (fun _ _ _ h => h) (Or.inl ⟨by rfl, fun w' hS => by (try dsimp only at hS); go_simp⟩) HH1.out ?_
        simp only [Act.put, List.setIfInBounds_toArray, List.set_cons_zero, List.set_cons_succ]
        refine wpAnyH_take (i := 7) (oi := { dst := some 40, op := Op.extract (Operand.tmp 33) 1, type := 4, pos := _, after := #[{ on := 5, ground := Ground.data }, { on := 9, ground := Ground.gcOnly Departure.lateStores }], guard := none }) (v := (.bool false)) rfl (by kernel_rfl) (by kernel_rfl) (by kernel_rfl) (fun _ _ _ h => h) (Or.inl ⟨by rfl, fun w' hS => by (try dsimp only at hS); go_simp⟩) HH1.out ?_
        simp only [Act.put, List.setIfInBounds_toArray, List.set_cons_zero, List.set_cons_succ]
        refine wpAnyH_take (i := 8) (oi := { dst := some 41, op := Op.indexAddr 134 (Operand.tmp 35) (Operand.tmp 36), type := 0, pos := _, after := #[{ on := 1, ground := Ground.data }, { on := 2, ground := Ground.data }, { on := 0, ground := Ground.phase }, { on := 1, ground := Ground.phase }, { on := 2, ground := Ground.phase }, { on := 3, ground := Ground.phase }, { on := 4, ground := Ground.phase }, { on := 5, ground := Ground.phase }, { on := 6, ground := Ground.phase }, { on := 7, ground := Ground.textOnly Departure.lateStores }], guard := none }) (v := (.pointer (some ⟨w.heap.size + 1 + 1, j * 8, none⟩))) rfl (by kernel_rfl) (by kernel_rfl) (by kernel_rfl) (fun _ _ _ h => h) (Or.inl ⟨by rfl, fun w' hS => by (try dsimp only at hS); go_simp⟩) HH1.out ?_
        simp only [Act.put, List.setIfInBounds_toArray, List.set_cons_zero, List.set_cons_succ]
        refine wpAnyH_ready (rs := [9]) (by kernel_rfl) (by simp) ?_
        refine AllReadyH.cons (o := { dst := none, op := Op.store 202 (Operand.tmp 41) (Operand.tmp 39), type := 0, pos := _, after := #[{ on := 8, ground := Ground.data }, { on := 6, ground := Ground.data }, { on := 4, ground := Ground.chain }, { on := 0, ground := Ground.phase }, { on := 1, ground := Ground.phase }, { on := 2, ground := Ground.phase }, { on := 3, ground := Ground.phase }, { on := 4, ground := Ground.phase }, { on := 5, ground := Ground.phase }, { on := 6, ground := Ground.phase }, { on := 7, ground := Ground.textOnly Departure.lateStores }], guard := none }) rfl (fun K hK => ?_) AllReadyH.nil
        obtain ⟨z0, z1, z2, z3, z4, z5, z6, z7⟩ := lc8 HR1.out hlt
        have f0 := HR1.out.frozen (j * 8); have f1 := HR1.out.frozen (j * 8 + 1); have f2 := HR1.out.frozen (j * 8 + 2); have f3 := HR1.out.frozen (j * 8 + 3); have f4 := HR1.out.frozen (j * 8 + 4); have f5 := HR1.out.frozen (j * 8 + 5); have f6 := HR1.out.frozen (j * 8 + 6); have f7 := HR1.out.frozen (j * 8 + 7)
        have MS : Hid (Mod (fun x => x = w.heap.size + 1 + 1) w1 (set8 w1 (w.heap.size + 1 + 1) (j * 8) (zf) (zf))) := set8_mod _ _ _ _ _
        have HH2 : Hid (Row (set8 w1 (w.heap.size + 1 + 1) (j * 8) (zf) (zf)) (w.heap.size + 1 + 1 + 1) 5 (zrow (.slice (some ⟨w.heap.size + 1 + 1, 0, none⟩) kn kn))) := HH1.out.mod MS.out (by omega)
        go_simp
        refine hK.out _ _ HH2.out (fun hB => ?_)
        clear hK K hB z0 z1 z2 z3 z4 z5 z6 z7 f0 f1 f2 f3 f4 f5 f6 f7
        try simp only [Act.put, List.setIfInBounds_toArray, List.set_cons_zero, List.set_cons_succ]
        refine wpAnyH_take (i := 10) (oi := { dst := some 7, op := Op.assign (Operand.tmp 40), type := 4, pos := _, after := #[{ on := 7, ground := Ground.data }, { on := 9, ground := Ground.chain }, { on := 0, ground := Ground.phase }, { on := 1, ground := Ground.phase }, { on := 2, ground := Ground.phase }, { on := 3, ground := Ground.phase }, { on := 4, ground := Ground.phase }, { on := 5, ground := Ground.phase }, { on := 6, ground := Ground.phase }, { on := 7, ground := Ground.phase }, { on := 8, ground := Ground.phase }, { on := 9, ground := Ground.phase }], guard := none }) (v := (.bool false)) rfl (by kernel_rfl) (by kernel_rfl) (by kernel_rfl) (fun _ _ _ h => h) (Or.inl ⟨by rfl, fun w' hS => by (try dsimp only at hS); go_simp⟩) HH2.out ?_
        simp only [Act.put, List.setIfInBounds_toArray, List.set_cons_zero, List.set_cons_succ]
        refine wpAnyH_done (by kernel_rfl) ?_ _
        refine NoPanic.normal ?_
        have HN : Hid (¬ BD.Good ⟨4, c, ⟨kn, len, p, m⟩⟩) := fun g => HLS.out (g.leaf j hlt)
        have HRZ := (((HRR.out.mod HM.out (by omega)).blw HB1.out).mod MS.out (by omega))
        have HBF : Hid (Blw w (set8 w1 (w.heap.size + 1 + 1) (j * 8) zf zf)) := Mod.blw (HBW.out.trans HB1.out) MS.out (fun i hi => by omega)
        clear HM HO HH1 HR1 HB1 HH2 MS HLS HBW HRR
        obtain ⟨w5, hw5⟩ : ∃ w5, w5 = set8 w1 (w.heap.size + 1 + 1) (j * 8) zf zf := ⟨_, rfl⟩
        rw [← hw5] at HRZ HBF
        simp only [set8, zf] at hw5
        rw [← hw5]
        clear hw5
        obtain ⟨t0, t1, t2, t3, t4⟩ := zget HRZ
        have f0 := HRZ.frozen 0; have f1 := HRZ.frozen 1; have f2 := HRZ.frozen 2; have f3 := HRZ.frozen 3; have f4 := HRZ.frozen 4
        clear HRZ
        go_wp2
        refine bodyPost_ret (v := .tuple #[.agg zero5, .bool false]) (by simp [results, Try.results103, go_sem, t0, t1, t2, t3, t4]) rfl ?_
        refine ⟨Or.inr ⟨HN.out, rfl⟩, ?_⟩
        exact set5_blw HBF.out (by omega) _ _ _ _ _
    · obtain rfl : j = kn := by omega
      obtain ⟨bb, oo, ea, -, -⟩ := HC.out.2 0 (by omega)
      subst ea
      have HLF : Hid (Row wr (w.heap.size + 1 + 1) (j * 8) (lc p m)) := HRW.out.congr (fun i hi => by
        have e1 : i / 8 < j := by omega
        unfold lc upTo
        simp only [e1, if_true])
      have HHW : Hid (Row wr (w.heap.size + 1 + 1 + 1) 5 (zrow (.slice (some ⟨w.heap.size + 1 + 1, 0, none⟩) j j))) := HH.out.mod HM.out (by omega)
      have HAW : Hid (Row wr w.heap.size 2 (fun i => if i = 0 then .slice (some ⟨bb, oo, none⟩) 4 q1 else .slice a2 j q2)) := HA.out.mod HM.out (by omega)
      have HRZ : Hid (Row wr (w.heap.size + 1) 5 (zrow (.slice none 0 0))) := HRR.out.mod HM.out (by omega)
      have HCW : Hid (IntsAt Y wr (some ⟨bb, oo, none⟩) 4 c) := HC.out.mod HM.out (fun x hx e => by have := hY x hx; omega)
      have HLO : Hid (∀ i, i < j → listOK ⟨j, len, p, m⟩ i) := HO.out
      clear HO HM HRW HC HL HH HA HRR HB3 hlt
      go_upto_region 12 with fail
      refine wp_region_noPanic ?_
      have P0 : ∀ w', Row w' w.heap.size 2 (fun i => if i = 0 then .slice (some ⟨bb, oo, none⟩) 4 q1 else .slice a2 j q2) → w'.cell? ⟨w.heap.size, 0, none⟩ = some (.slice (some ⟨bb, oo, none⟩) 4 q1) := fun w' hh => (get2 hh).1
      refine wp_region_held_drew (S := fun w' => Row w' w.heap.size 2 (fun i => if i = 0 then .slice (some ⟨bb, oo, none⟩) 4 q1 else .slice a2 j q2)) (by kernel_rfl) (HAW.out.blw (Blw.refl _).drew) (fun hB => ?_)
      clear hB
      have HWD : Hid (Blw wr wr.drew) := (Blw.refl _).drew
      replace HLF : Hid (Row wr.drew (w.heap.size + 1 + 1) (j * 8) (lc p m)) := HLF.out.blw HWD.out
      replace HHW : Hid (Row wr.drew (w.heap.size + 1 + 1 + 1) 5 (zrow (.slice (some ⟨w.heap.size + 1 + 1, 0, none⟩) j j))) := HHW.out.blw HWD.out
      replace HAW : Hid (Row wr.drew w.heap.size 2 (fun i => if i = 0 then .slice (some ⟨bb, oo, none⟩) 4 q1 else .slice a2 j q2)) := HAW.out.blw HWD.out
      replace HRZ : Hid (Row wr.drew (w.heap.size + 1) 5 (zrow (.slice none 0 0))) := HRZ.out.blw HWD.out
      replace HCW : Hid (IntsAt Y wr.drew (some ⟨bb, oo, none⟩) 4 c) := HCW.out.blw HWD.out
      replace HBW : Hid (Blw w wr.drew) := HBW.out.trans HWD.out
      clear HWD
      generalize wr.drew = wd at *
      refine wpAnyH_take (i := 0) (oi := { dst := some 46, op := Op.fieldAddr 136 (Operand.tmp 4) 0, type := 0, pos := _, after := #[], guard := none }) (v := (.pointer (some ⟨w.heap.size + 1 + 1 + 1, 0, none⟩))) rfl (by kernel_rfl) (by kernel_rfl) (by kernel_rfl) (fun _ _ _ h => h) (Or.inl ⟨by rfl, fun w' hS => by (try dsimp only at hS); go_simp⟩) HAW.out ?_
      simp only [Act.put, List.setIfInBounds_toArray, List.set_cons_zero, List.set_cons_succ]
      refine wpAnyH_take (i := 1) (oi := { dst := some 47, op := Op.slice 133 (Operand.tmp 46) none none none, type := 26, pos := _, after := #[{ on := 0, ground := Ground.data }], guard := none }) (v := (.slice (some ⟨w.heap.size + 1 + 1 + 1, 0, none⟩) 4 4)) rfl (by kernel_rfl) (by kernel_rfl) (by kernel_rfl) (fun _ _ _ h => h) (Or.inl ⟨by rfl, fun w' hS => by (try dsimp only at hS); go_simp⟩) HAW.out ?_
      simp only [Act.put, List.setIfInBounds_toArray, List.set_cons_zero, List.set_cons_succ]
      refine wpAnyH_take (i := 2) (oi := { dst := some 48, op := Op.fieldAddr 29 (Operand.tmp 1) 0, type := 0, pos := _, after := #[], guard := none }) (v := (.pointer (some ⟨w.heap.size, 0, none⟩))) rfl (by kernel_rfl) (by kernel_rfl) (by kernel_rfl) (fun _ _ _ h => h) (Or.inl ⟨by rfl, fun w' hS => by (try dsimp only at hS); go_simp⟩) HAW.out ?_
      simp only [Act.put, List.setIfInBounds_toArray, List.set_cons_zero, List.set_cons_succ]
      refine wpAnyH_take (i := 3) (oi := { dst := some 49, op := Op.load 26 (Operand.tmp 48), type := 26, pos := _, after := #[{ on := 2, ground := Ground.data }], guard := none }) (v := (.slice (some ⟨bb, oo, none⟩) 4 q1)) rfl (by kernel_rfl) (by kernel_rfl) (by kernel_rfl) (fun _ _ _ h => h) (Or.inl ⟨by rfl, fun w' hS => by (try dsimp only at hS); go_simp⟩) HAW.out ?_
      simp only [Act.put, List.setIfInBounds_toArray, List.set_cons_zero, List.set_cons_succ]
      refine wpAnyH_ready (rs := [4]) (by kernel_rfl) (by simp) ?_
      refine AllReadyH.cons (o := { dst := some 50, op := Op.call { callee := Callee.builtin Builtin.copy, args := #[Operand.tmp 47, Operand.tmp 49], argTypes := #[26, 26] }, type := 3, pos := _, after := #[{ on := 1, ground := Ground.data }, { on := 3, ground := Ground.data }], guard := none }) rfl (fun K hK => ?_) AllReadyH.nil
      obtain ⟨w6, hcp, hr6, hm6, -⟩ := run_copy_fn (P := Try.prog) wd 26 26 3 3 (w.heap.size + 1 + 1 + 1) 0 4 4 ⟨bb, oo, none⟩ 4 q1 4 (ic c) 5 (zrow (.slice (some ⟨w.heap.size + 1 + 1, 0, none⟩) j j)) Try.underlying26 (by kernel_rfl) rfl (fun t ht => by
        obtain ⟨b', o', e', -, hh⟩ := HCW.out.2 t ht
        cases e'
        rw [Addr.add_mid]
        exact hh) (fun t ht => rfl) HHW.out (by omega)
      have HR6 : Hid (Row w6 (w.heap.size + 1 + 1 + 1) 5 (row5f c (.slice (some ⟨w.heap.size + 1 + 1, 0, none⟩) j j))) := hr6.congr (fun i hi => by
        match i, hi with
        | 0, _ => rfl
        | 1, _ => rfl
        | 2, _ => rfl
        | 3, _ => rfl
        | 4, _ => rfl)
      have HA6 : Hid (Row w6 w.heap.size 2 (fun i => if i = 0 then .slice (some ⟨bb, oo, none⟩) 4 q1 else .slice a2 j q2)) := HAW.out.mod hm6 (by omega)
      have HL6 : Hid (Row w6 (w.heap.size + 1 + 1) (j * 8) (lc p m)) := HLF.out.mod hm6 (by omega)
      have HZ6 : Hid (Row w6 (w.heap.size + 1) 5 (zrow (.slice none 0 0))) := HRZ.out.mod hm6 (by omega)
      have HB6 : Hid (Blw w w6) := Mod.blw HBW.out hm6 (fun i hi => by omega)
      clear hr6 hm6 HAW HLF HRZ HBW HHW HCW
      go_simp
      refine hK.out _ _ HA6.out (fun hB => ?_)
      clear hK K hB hcp P0
      try simp only [Act.put, List.setIfInBounds_toArray, List.set_cons_zero, List.set_cons_succ]
      refine wpAnyH_done (by kernel_rfl) ?_ _
      refine NoPanic.normal ?_
      obtain ⟨s0, s1, s2, s3, s4⟩ := get5 HR6.out
      go_wp2_with fail
      clear s0 s1 s2 s3 s4
      refine (standWell_any c (w.heap.size + 1 + 1) j p m _ hk4 HL6.out).mono ?_
      rintro e w7 ⟨r, rfl, hr, hb7⟩
      have HGS : Hid (r = true ↔ BD.Good ⟨4, c, ⟨j, len, p, m⟩⟩) := hr.trans (good_sw rfl HK.out HLO.out).symm
      have HZ7 : Hid (Row w7 (w.heap.size + 1) 5 (zrow (.slice none 0 0))) := HZ6.out.blw hb7
      have HR7 : Hid (Row w7 (w.heap.size + 1 + 1 + 1) 5 (row5f c (.slice (some ⟨w.heap.size + 1 + 1, 0, none⟩) j j))) := HR6.out.blw hb7
      have HL7 : Hid (Row w7 (w.heap.size + 1 + 1) (j * 8) (lc p m)) := HL6.out.blw hb7
      have HB7 : Hid (Blw w w7) := HB6.out.trans hb7
      clear hr hb7 HZ6 HR6 HL6 HB6 HA6
      obtain ⟨t0, t1, t2, t3, t4⟩ := zget HZ7.out
      have f0 := HZ7.out.frozen 0; have f1 := HZ7.out.frozen 1; have f2 := HZ7.out.frozen 2; have f3 := HZ7.out.frozen 3; have f4 := HZ7.out.frozen 4
      cases r
      · have HN : Hid (¬ BD.Good ⟨4, c, ⟨j, len, p, m⟩⟩) := fun g => by have := HGS.out.2 g; simp at this
        clear HGS HL7 HR7
        go_wp2
        refine bodyPost_ret (v := .tuple #[.agg zero5, .bool false]) (by simp [results, Try.results103, go_sem, t0, t1, t2, t3, t4]) rfl ?_
        refine ⟨Or.inr ⟨HN.out, rfl⟩, ?_⟩
        exact set5_blw HB7.out (by omega) _ _ _ _ _
      · have HY : Hid (BD.Good ⟨4, c, ⟨j, len, p, m⟩⟩) := HGS.out.1 (by first | rfl | trivial)
        obtain ⟨s0, s1, s2, s3, s4⟩ := get5 HR7.out
        clear HGS HR7
        go_wp2
        refine bodyPost_ret (v := .tuple #[.agg (held5 c (w.heap.size + 1 + 1) j), .bool true]) (by simp [results, Try.results103, go_sem, t0, t1, t2, t3, t4]) rfl ?_
        refine ⟨Or.inl ⟨w.heap.size + 1 + 1, HY.out, rfl, ?_, by omega⟩, ?_⟩
        · exact ((((HL7.out.setOther (a := ⟨w.heap.size + 1, 0, none⟩) (by show w.heap.size + 1 + 1 ≠ w.heap.size + 1; omega) _).setOther (a := ⟨w.heap.size + 1, 1, none⟩) (by show w.heap.size + 1 + 1 ≠ w.heap.size + 1; omega) _).setOther (a := ⟨w.heap.size + 1, 2, none⟩) (by show w.heap.size + 1 + 1 ≠ w.heap.size + 1; omega) _).setOther (a := ⟨w.heap.size + 1, 3, none⟩) (by show w.heap.size + 1 + 1 ≠ w.heap.size + 1; omega) _).setOther (a := ⟨w.heap.size + 1, 4, none⟩) (by show w.heap.size + 1 + 1 ≠ w.heap.size + 1; omega) _
        · exact set5_blw HB7.out (by omega) _ _ _ _ _
end Go.Proofs.Ytbpdopcdhnemfaa
/- slices.Clone of numbers and of leaves. -/
namespace Go.Proofs.Ytbpdopcdhnemfaa
open Go.RowKit
set_option linter.unusedSimpArgs false
set_option linter.unusedVariables false
theorem eqnilIn (d t e b o n c : Nat) (ht : Try.prog.underlying t = some (.slice e)) (w : World) : (Op.equalIn (d + 1) t (.slice (some ⟨b, o, none⟩) n c) (.slice none 0 0)).run Try.prog w = .ok false w := by
  simp [Op.equalIn, run_underlying ht]
theorem eqnil (t e b o n c : Nat) (ht : Try.prog.underlying t = some (.slice e)) (w : World) : (binOp .eql t (.slice (some ⟨b, o, none⟩) n c) (.slice none 0 0)).run Try.prog w = .ok (.bool false) w := by
  have h1 : (Op.equal t (.slice (some ⟨b, o, none⟩) n c) (.slice none 0 0)).run Try.prog w = .ok false w := by
    exact eqnilIn 9999 t e b o n c ht w
  simp only [binOp]
  simp [h1]
set_option maxRecDepth 10000 in
set_option maxHeartbeats 1600000 in
theorem cloneI_any (b o n c : Nat) (f : Nat → Int) (Y : Nat → Prop) (w : World) (hn : n ≤ 1048576) (h : IntsAt Y w (some ⟨b, o, none⟩) n f) :
    Calls Try.prog 189 #[.slice (some ⟨b, o, none⟩) n c] w fun e w' => ∃ ao cap, e = .returned (.slice ao n cap) ∧ IntsOwn (fun x => w.heap.size ≤ x ∧ x < w'.heap.size) w' ao n f ∧ Blw w w' := by
  have hA : Blw w (w.alloc (.cells #[] 3)) := (Blw.refl _).alloc _
  have hE : (w.alloc (.cells #[] 3)).heap[w.heap.size]? = some (.cells #[] 3 (0, 0)) := heap_alloc_new w _
  have hsz : (w.alloc (.cells #[] 3)).heap.size = w.heap.size + 1 := by simp
  obtain ⟨ao, cap, w2, hrun, hB, hM⟩ := BufI.append (Buf.lit (X := fun b => b = w.heap.size) hE 1 rfl (ic (fun _ => 0))) c (h.blw hA) (by omega) 26
  rw [Nat.zero_add] at hrun hB
  rw [hsz] at hB
  obtain ⟨ao', cap', e', hO⟩ := BufI.own hB (by omega)
  cases e'
  have s2 := hM.size
  have HRN : Hid _ := hrun
  have FIN : Hid (∃ ao' cap', Ending.returned (Value.slice ao n cap) = .returned (.slice ao' n cap') ∧ IntsOwn (fun x => w.heap.size ≤ x ∧ x < w2.heap.size) w2 ao' n f ∧ Blw w w2) := ⟨ao, cap, rfl, (hO.mono (fun x hx => ⟨by omega, hx.2⟩)).congr (fun i hi => by simp [icat]), Mod.blw hA hM (fun i hi => by simp [Value.ownBlock] at hi; omega)⟩
  have hnil := eqnil 26 3 b o n c Try.underlying26
  clear hrun hB hO hM h hA hE hsz s2
  go_enter Try.func189, Try.ntmps189
  go_wp2_with (first | (at_builtin; refine wpList_app (.tmp 5) (.tmp 6) 26 (by rfl) ?_; refine ⟨_, _, HRN.out, ?_⟩) | fail)
  exact bodyPost_ret (v := .slice ao n cap) (by simp [results, Try.results189, go_sem]) rfl FIN.out
set_option maxRecDepth 10000 in
set_option maxHeartbeats 1600000 in
theorem cloneU_any (b o n c : Nat) (f g : Nat → Int) (Y : Nat → Prop) (w : World) (hn : n ≤ 1048576) (h : UndosAt Y w (some ⟨b, o, none⟩) n f g) :
    Calls Try.prog 192 #[.slice (some ⟨b, o, none⟩) n c] w fun e w' => ∃ ao cap, e = .returned (.slice ao n cap) ∧ UndosOwn (fun x => w.heap.size ≤ x ∧ x < w'.heap.size) w' ao n f g ∧ Blw w w' := by
  have hA : Blw w (w.alloc (.cells #[] 189)) := (Blw.refl _).alloc _
  have hE : (w.alloc (.cells #[] 189)).heap[w.heap.size]? = some (.cells #[] 189 (0, 0)) := heap_alloc_new w _
  have hsz : (w.alloc (.cells #[] 189)).heap.size = w.heap.size + 1 := by simp
  obtain ⟨ao, cap, w2, hrun, hB, hM⟩ := BufU.append (Buf.lit (X := fun b => b = w.heap.size) hE 2 rfl (uc (fun _ => 0) (fun _ => 0))) c (h.blw hA) (by omega) 147
  rw [Nat.zero_add] at hrun hB
  rw [hsz] at hB
  obtain ⟨ao', cap', e', hO⟩ := BufU.own hB (by omega)
  cases e'
  have s2 := hM.size
  have HRN : Hid _ := hrun
  have FIN : Hid (∃ ao' cap', Ending.returned (Value.slice ao n cap) = .returned (.slice ao' n cap') ∧ UndosOwn (fun x => w.heap.size ≤ x ∧ x < w2.heap.size) w2 ao' n f g ∧ Blw w w2) := ⟨ao, cap, rfl, (hO.mono (fun x hx => ⟨by omega, hx.2⟩)).congr (fun i hi => by simp [icat]), Mod.blw hA hM (fun i hi => by simp [Value.ownBlock] at hi; omega)⟩
  have hnil := eqnil 186 189 b o n c Try.underlying186
  clear hrun hB hO hM h hA hE hsz s2
  go_enter Try.func192, Try.ntmps192
  go_wp2_with (first | (at_builtin; refine wpList_app (.tmp 5) (.tmp 6) 186 (by rfl) ?_; refine ⟨_, _, HRN.out, ?_⟩) | fail)
  exact bodyPost_ret (v := .slice ao n cap) (by simp [results, Try.results192, go_sem]) rfl FIN.out
end Go.Proofs.Ytbpdopcdhnemfaa
/- A list of leaves given out. -/
namespace Go.Proofs.Ytbpdopcdhnemfaa
open Go.RowKit
set_option linter.unusedSimpArgs false
set_option linter.unusedVariables false
theorem row_eight (w : World) (f g : Nat → Int) (t : TypeId) : Row (w.alloc (.cells (eight f g) t)) w.heap.size (4 * 2) (uc f g) :=
  ⟨_, t, heap_alloc_new _ _, by simp, fun i hi => by
    match i, hi with
    | 0, _ => rfl
    | 1, _ => rfl
    | 2, _ => rfl
    | 3, _ => rfl
    | 4, _ => rfl
    | 5, _ => rfl
    | 6, _ => rfl
    | 7, _ => rfl⟩
set_option maxRecDepth 10000 in
set_option maxHeartbeats 1600000 in
theorem giveLeaves_any (f g : Nat → Int) (w : World) :
    Calls Try.prog 191 #[.agg (eight f g)] w fun e w' => ∃ ao cap, e = .returned (.slice ao 4 cap) ∧ UndosOwn (fun x => w.heap.size ≤ x ∧ x < w'.heap.size) w' ao 4 f g ∧ Blw w w' := by
  have hb0 : Blw w (w.alloc (.cells (eight f g) 202)) := (Blw.refl _).alloc _
  have hU : UndosAt (fun x => x = w.heap.size) (w.alloc (.cells (eight f g) 202)) (some ⟨w.heap.size, 0, none⟩) 4 f g := ⟨by omega, fun i hi => by
    obtain ⟨q0, q1⟩ := undo_get (row_eight w f g 202) hi
    exact ⟨_, 0, rfl, rfl, by rw [Nat.zero_add]; exact q0, by rw [Nat.zero_add]; exact q1⟩⟩
  have HU : Hid (UndosAt (fun x => x = w.heap.size) (w.alloc (.cells (eight f g) 202)) (some ⟨w.heap.size, 0, none⟩) 4 f g) := hU
  clear hU
  go_enter Try.func191, Try.ntmps191
  go_wp2_with fail
  refine (cloneU_any w.heap.size 0 4 4 f g _ _ (by omega) HU.out).mono ?_
  rintro e w1 ⟨ao, cap, rfl, own, hb1⟩
  have FIN : Hid (∃ ao' cap', Ending.returned (Value.slice ao 4 cap) = .returned (.slice ao' 4 cap') ∧ UndosOwn (fun x => w.heap.size ≤ x ∧ x < w1.heap.size) w1 ao' 4 f g ∧ Blw w w1) := ⟨ao, cap, rfl, own.mono (fun x hx => ⟨Nat.le_trans hb0.size hx.1, hx.2⟩), hb0.trans hb1⟩
  clear own hb1 HU
  go_wp2
  exact bodyPost_ret (v := .slice ao 4 cap) (by simp [results, Try.results191, go_sem]) rfl FIN.out
end Go.Proofs.Ytbpdopcdhnemfaa
/- All lists of leaves given out. -/
namespace Go.Proofs.Ytbpdopcdhnemfaa
open Go.RowKit
set_option linter.unusedSimpArgs false
set_option linter.unusedVariables false
/-- Lists of leaves that are given out one after another into a new list at z. -/
structure Cp (w wr : World) (z kn : Nat) (p m : Nat → Nat → Int) (A : Nat → Option Addr) (C : Nat → Nat) (Z : Nat → Nat → Prop) (j : Nat) : Prop where
  row : Row wr z kn (fun i => if i < j then .slice (A i) 4 (C i) else .slice none 0 0)
  own : ∀ i, i < j → UndosOwn (Z i) wr (A i) 4 (p i) (m i)
  sub : ∀ i, i < j → ∀ x, Z i x → z < x ∧ x < wr.heap.size
  dis : ∀ i i', i < j → i' < j → i ≠ i' → ∀ x, Z i x → ¬ Z i' x
  blw : Blw w wr
  lo : w.heap.size ≤ z
theorem Cp.next {w wr w1 : World} {z kn : Nat} {p m : Nat → Nat → Int} {A : Nat → Option Addr} {C : Nat → Nat} {Z : Nat → Nat → Prop} {j : Nat} (h : Cp w wr z kn p m A C Z j) (hj : j < kn) (hb : Blw wr w1) {ao : Option Addr} {cap : Nat} (ho : UndosOwn (fun x => wr.heap.size ≤ x ∧ x < w1.heap.size) w1 ao 4 (p j) (m j)) :
    Cp w (w1.setCell ⟨z, j, none⟩ (.slice ao 4 cap)) z kn p m (fun i => if i = j then ao else A i) (fun i => if i = j then cap else C i) (fun i x => if i = j then (wr.heap.size ≤ x ∧ x < w1.heap.size) else Z i x) (j + 1) := by
  have hz := h.row.lt
  have hs := hb.size
  have ms : Mod (fun x => x = z) w1 (w1.setCell ⟨z, j, none⟩ (.slice ao 4 cap)) := Mod.setCell (X := fun x => x = z) _ (p := ⟨z, j, none⟩) rfl _
  have hs2 := ms.size
  refine ⟨((h.row.blw hb).set j _).congr (fun i hi => ?_), fun i hi => ?_, fun i hi x hx => ?_, fun i i' hi hi' hne x hx hx' => ?_, Mod.blw (h.blw.trans hb) ms (fun i hi => by have := h.lo; omega), h.lo⟩
  · by_cases e : i = j
    · subst e; simp
    · by_cases e2 : i < j
      · simp [e, e2, Nat.lt_succ_of_lt e2]
      · have e3 : ¬ i < j + 1 := by omega
        simp [e, e2, e3]
  · by_cases e : i = j
    · subst e
      simp only [if_pos]
      exact ho.mod ms (fun x hx e => by omega)
    · simp only [if_neg e]
      exact ((h.own i (by omega)).blw hb).mod ms (fun x hx e' => by have := h.sub i (by omega) x hx; omega)
  · by_cases e : i = j
    · simp only [if_pos e] at hx; omega
    · simp only [if_neg e] at hx
      have := h.sub i (by omega) x hx; omega
  · by_cases e : i = j
    · have e' : ¬ i' = j := by omega
      simp only [if_pos e] at hx
      simp only [if_neg e'] at hx'
      have := h.sub i' (by omega) x hx'; omega
    · simp only [if_neg e] at hx
      by_cases e' : i' = j
      · simp only [if_pos e'] at hx'
        have := h.sub i (by omega) x hx; omega
      · simp only [if_neg e'] at hx'
        exact h.dis i i' (by omega) (by omega) hne x hx hx'
theorem Cp.ps {w wr : World} {z kn : Nat} {p m : Nat → Nat → Int} {A : Nat → Option Addr} {C : Nat → Nat} {Z : Nat → Nat → Prop} (h : Cp w wr z kn p m A C Z kn) (hk : kn ≤ 4) : PSOwn (fun x => w.heap.size ≤ x ∧ x < wr.heap.size) wr (some ⟨z, 0, none⟩) ⟨kn, fun _ => 4, p, m⟩ := by
  have hz := h.row.lt
  have hlo := h.lo
  refine ⟨by show kn ≤ _; omega, fun _ => ⟨z, A, C, Z, rfl, ⟨h.row.congr (fun i hi => by rw [if_pos hi]), h.own, fun i hi x hx => ?_, h.dis, ⟨hlo, hz⟩⟩⟩⟩
  have := h.sub i hi x hx
  exact ⟨⟨by omega, this.2⟩, by omega⟩
set_option maxRecDepth 10000 in
set_option maxHeartbeats 3200000 in
theorem each_any (zl kn : Nat) (p m : Nat → Nat → Int) (w : World) (hk : kn ≤ 4) (h : Row w zl (kn * 8) (lc p m)) :
    Calls Try.prog 190 #[.slice (some ⟨zl, 0, none⟩) kn kn, .func (.func 191) #[] #[]] w fun e w' => ∃ z, e = .returned (.slice (some ⟨z, 0, none⟩) kn kn) ∧ PSOwn (fun x => w.heap.size ≤ x ∧ x < w'.heap.size) w' (some ⟨z, 0, none⟩) ⟨kn, fun _ => 4, p, m⟩ ∧ Blw w w' := by
  have H : Hid (Row w zl (kn * 8) (lc p m)) := h
  have hmk := mkLists kn (by omega)
  clear h
  go_enter Try.func190, Try.ntmps190
  go_wp2_with fail
  clear hmk
  go_loopw [13] (fun i wr => ∃ j : Nat, j ≤ kn ∧ i = .int .i64 j ∧ ∃ A C Z, Cp w wr w.heap.size kn p m A C Z j) (fun i _ => kn - (intOf i).toNat)
  case atStart => exact ⟨0, Nat.zero_le _, rfl, fun _ => none, fun _ => 0, fun _ _ => False, ⟨(Row.made w (.slice none 0 0) kn 186).congr (fun i hi => by rw [if_neg (by omega)]), fun i hi => absurd hi (Nat.not_lt_zero _), fun i hi => absurd hi (Nat.not_lt_zero _), fun i i' hi => absurd hi (Nat.not_lt_zero _), (Blw.refl _).alloc _, Nat.le_refl _⟩⟩
  case round =>
    obtain ⟨j, hj, rfl, A, C, Z, hC⟩ := hrel
    have HC : Hid (Cp w wr w.heap.size kn p m A C Z j) := hC
    clear hC
    by_cases hlt : j < kn
    · have hlt' : (j : Int) < (kn : Int) := by omega
      obtain ⟨q0, q1, q2, q3, q4, q5, q6, q7⟩ := lc8 (H.out.blw HC.out.blw) hlt
      have HA : Hid (Blw wr (wr.alloc (.cells (eight (p j) (m j)) 202))) := (Blw.refl _).alloc _
      go_wp2_with fail
      clear q0 q1 q2 q3 q4 q5 q6 q7
      refine (giveLeaves_any (p j) (m j) _).mono ?_
      rintro e w1 ⟨ao, cap, rfl, own, hb1⟩
      have hbb := HA.out.trans hb1
      have HN : Hid (∃ A C Z, Cp w (w1.setCell ⟨w.heap.size, j, none⟩ (.slice ao 4 cap)) w.heap.size kn p m A C Z (j + 1)) := ⟨_, _, _, HC.out.next hlt hbb (own.mono (fun x hx => ⟨Nat.le_trans HA.out.size hx.1, hx.2⟩))⟩
      have rz := HC.out.row.blw hbb
      obtain ⟨vv, gv⟩ : ∃ v, w1.cell? ⟨w.heap.size, j, none⟩ = some v := ⟨_, rz.cell hlt⟩
      have gz := rz.frozen j
      clear HC own hb1 hbb rz HA
      go_wp2
      go_roundw
      case rel => exact ⟨j + 1, by omega, by go_num, HN.out⟩
      case measure => simp [intOf]; omega
    · obtain rfl : j = kn := by omega
      have FIN : Hid (∃ z, Ending.returned (Value.slice (some ⟨w.heap.size, 0, none⟩) j j) = .returned (.slice (some ⟨z, 0, none⟩) j j) ∧ PSOwn (fun x => w.heap.size ≤ x ∧ x < wr.heap.size) wr (some ⟨z, 0, none⟩) ⟨j, fun _ => 4, p, m⟩ ∧ Blw w wr) := ⟨_, rfl, HC.out.ps hk, HC.out.blw⟩
      clear HC
      go_wp2
      exact bodyPost_ret (v := .slice (some ⟨w.heap.size, 0, none⟩) j j) (by simp [results, Try.results190, go_sem]) rfl FIN.out
end Go.Proofs.Ytbpdopcdhnemfaa
/- The leaf at a place: the model's and the program's. -/
namespace Go.Proofs.Ytbpdopcdhnemfaa
open Go.RowKit
set_option linter.unusedSimpArgs false
set_option linter.unusedVariables false
def lfP (c : Nat → Int) (p : Nat → Nat → Int) (a : Nat) : Int := if 0 ≤ c (a / 4) then p (c (a / 4)).toNat (a % 4) else 0
theorem lfP_yes {c : Nat → Int} {p : Nat → Nat → Int} {a q : Nat} (h : c (a / 4) = (q : Int)) : lfP c p a = p q (a % 4) := by
  unfold lfP; rw [h, if_pos (by omega), Int.toNat_natCast]
theorem lfP_no {c : Nat → Int} {p : Nat → Nat → Int} {a : Nat} (h : ¬ 0 ≤ c (a / 4)) : lfP c p a = 0 := by unfold lfP; rw [if_neg h]
theorem set2w_blw {w W : World} {z : Nat} (h : Blw w W) (hz : w.heap.size ≤ z) (v0 v1 : Value) : Blw w ((W.setCell ⟨z, 0, none⟩ v0).setCell ⟨z, 1, none⟩ v1) := (h.setCell hz _).setCell hz _
set_option maxRecDepth 10000 in
set_option maxHeartbeats 3200000 in
theorem l6Find_any (b : BV) (c : Nat → Int) (kn : Nat) (len : Nat → Nat) (p m : Nat → Nat → Int) (a : Nat) (Y : Nat → Prop) (w : World) (g : BD.Good ⟨4, c, ⟨kn, len, p, m⟩⟩) (ha : a < 16) (h : BookAt Y w b ⟨4, c, ⟨kn, len, p, m⟩⟩) :
    Calls Try.prog 152 #[b.val ⟨4, c, ⟨kn, len, p, m⟩⟩, .int .i64 a] w fun e w' => e = .returned (.agg #[.int .i64 (lfP c p a), .int .i64 (lfP c m a)]) ∧ Blw w w' := by
  obtain ⟨a1, a2, q1, q2⟩ := b
  simp only [BV.val] at *
  have hb0 : Blw w ((w.alloc (.cells #[.slice a1 4 q1, .slice a2 kn q2] 29)).alloc (.cells #[.int .i64 0, .int .i64 0] 189)) := ((Blw.refl _).alloc _).alloc _
  have rA := (box2 w (.slice a1 4 q1) (.slice a2 kn q2) 29).blw ((Blw.refl _).alloc (.cells #[.int .i64 0, .int .i64 0] 189))
  have rR := box2 (w.alloc (.cells #[.slice a1 4 q1, .slice a2 kn q2] 29)) (.int .i64 0) (.int .i64 0) 189
  rw [World.size_alloc] at rR
  have hd : Int.tdiv (a : Int) 4 = ((a / 4 : Nat) : Int) := by rw [Int.tdiv_eq_ediv_of_nonneg (by omega)]; rfl
  have hr : Int.tmod (a : Int) 4 = ((a % 4 : Nat) : Int) := by rw [Int.tmod_eq_emod_of_nonneg (by omega)]; rfl
  have hd4 : a / 4 < 4 := by omega
  have hr4 : a % 4 < 4 := by omega
  have HC : Hid (IntsAt Y ((w.alloc (.cells #[.slice a1 4 q1, .slice a2 kn q2] 29)).alloc (.cells #[.int .i64 0, .int .i64 0] 189)) a1 4 c) := h.c.blw hb0
  have HL : Hid (PSAt Y ((w.alloc (.cells #[.slice a1 4 q1, .slice a2 kn q2] 29)).alloc (.cells #[.int .i64 0, .int .i64 0] 189)) a2 ⟨kn, len, p, m⟩) := h.l.blw hb0
  have hkn := h.l.1
  dsimp only at hkn
  clear h
  obtain ⟨bb, oo, ea, -, g1⟩ := HC.out.2 (a / 4) hd4
  subst ea
  clear HC
  have htop := g.top (a / 4) hd4
  dsimp only at htop
  have HGL : Hid (∀ i, i < kn → len i = 4) := fun i hi => (g.leaf i hi).1
  obtain ⟨p0, p1⟩ := get2 rA
  obtain ⟨t0, t1⟩ := get2 rR
  have f0 := rR.frozen 0
  have f1 := rR.frozen 1
  clear g
  have hd4' : ((a / 4 : Nat) : Int) < 4 := by omega
  have hr4' : ((a % 4 : Nat) : Int) < 4 := by omega
  by_cases h0 : 0 ≤ c (a / 4)
  · obtain ⟨q, hq⟩ : ∃ q : Nat, c (a / 4) = q := ⟨(c (a / 4)).toNat, by omega⟩
    have hqk : q < kn := by omega
    have hqk' : (q : Int) < (kn : Int) := by omega
    have E1 : Hid (lfP c p a = p q (a % 4)) := lfP_yes hq
    have E2 : Hid (lfP c m a = m q (a % 4)) := lfP_yes hq
    obtain ⟨b2, o2, aa, cc, ea, -, g2, g3⟩ := HL.out.2 q hqk
    dsimp only at g2 g3
    rw [HGL.out q hqk] at g2 g3
    subst ea
    obtain ⟨b3, o3, ea, -, g4, g5⟩ := g3.2 (a % 4) hr4
    subst ea
    rw [hq] at g1
    have HB : Hid (Blw w ((w.alloc (.cells #[.slice (some ⟨bb, oo, none⟩) 4 q1, .slice (some ⟨b2, o2, none⟩) kn q2] 29)).alloc (.cells #[.int .i64 0, .int .i64 0] 189))) := hb0
    clear h0 htop hq HL HGL g3 rA rR hb0
    generalize a / 4 = x at *
    generalize a % 4 = y at *
    go_enter Try.func152, Try.ntmps152
    go_wp2
    refine bodyPost_ret (v := .agg #[.int .i64 (p q y), .int .i64 (m q y)]) (by simp [results, Try.results152, go_sem, t0, t1]) rfl ?_
    refine ⟨by rw [E1.out, E2.out], ?_⟩
    first | exact ((Blw.refl _).alloc _).alloc _ | exact set2w_blw HB.out (by omega) _ _
  · have E1 : Hid (lfP c p a = 0) := lfP_no h0
    have E2 : Hid (lfP c m a = 0) := lfP_no h0
    have h0' : c (a / 4) < 0 := by omega
    clear h0 htop HL HGL rA rR
    generalize a / 4 = x at *
    generalize a % 4 = y at *
    generalize hcx : c x = cx at *
    go_enter Try.func152, Try.ntmps152
    go_wp2
    refine bodyPost_ret (v := .agg #[.int .i64 0, .int .i64 0]) (by simp [results, Try.results152, go_sem, t0, t1]) rfl ?_
    refine ⟨by rw [E1.out, E2.out], ?_⟩
    first | exact hb0 | exact ((Blw.refl _).alloc _).alloc _ | exact set2w_blw hb0 (by omega) _ _
end Go.Proofs.Ytbpdopcdhnemfaa
/- The leaf at a place: the program's. -/
namespace Go.Proofs.Ytbpdopcdhnemfaa
open Go.RowKit
set_option linter.unusedSimpArgs false
set_option linter.unusedVariables false
theorem row5_top {w : World} {z : Nat} {c : Nat → Int} {v : Value} (r : Row w z 5 (row5f c v)) {i : Nat} (hi : i < 4) : w.cell? ⟨z, i, none⟩ = some (.int .i64 (c i)) := by
  rw [r.cell (i := i) (by omega)]
  match i, hi with
  | 0, _ => rfl
  | 1, _ => rfl
  | 2, _ => rfl
  | 3, _ => rfl
theorem lc_at {w : World} {z n : Nat} {p m : Nat → Nat → Int} (r : Row w z (n * 8) (lc p m)) {k t : Nat} (hk : k < n) (ht : t < 4) : w.cell? ⟨z, k * 8 + t * 2, none⟩ = some (.int .i64 (p k t)) ∧ w.cell? ⟨z, k * 8 + t * 2 + 1, none⟩ = some (.int .i64 (m k t)) := by
  refine ⟨?_, ?_⟩
  · rw [r.cell (i := k * 8 + t * 2) (by omega)]
    unfold lc
    rw [if_pos (by omega), show (k * 8 + t * 2) / 8 = k by omega, show (k * 8 + t * 2) % 8 / 2 = t by omega]
  · rw [r.cell (i := k * 8 + t * 2 + 1) (by omega)]
    unfold lc
    rw [if_neg (by omega), show (k * 8 + t * 2 + 1) / 8 = k by omega, show (k * 8 + t * 2 + 1) % 8 / 2 = t by omega]
set_option maxRecDepth 10000 in
set_option maxHeartbeats 3200000 in
theorem leafAt_any (c : Nat → Int) (zl kn : Nat) (p m : Nat → Nat → Int) (a : Nat) (w : World) (hk : kn ≤ 4) (ht : ∀ i, i < 4 → -1 ≤ c i ∧ c i ≤ (kn : Int) - 1) (ha : a < 16) (h : Row w zl (kn * 8) (lc p m)) :
    Calls Try.prog 169 #[.agg (held5 c zl kn), .int .i64 a] w fun e w' => e = .returned (.agg #[.int .i64 (lfP c p a), .int .i64 (lfP c m a)]) ∧ Blw w w' := by
  have hb0 : Blw w ((w.alloc (.cells (held5 c zl kn) 136)).alloc (.cells #[.int .i64 0, .int .i64 0] 189)) := ((Blw.refl _).alloc _).alloc _
  have rA : Row ((w.alloc (.cells (held5 c zl kn) 136)).alloc (.cells #[.int .i64 0, .int .i64 0] 189)) w.heap.size 5 (row5f c (.slice (some ⟨zl, 0, none⟩) kn kn)) := (row5 w (.int .i64 (c 0)) (.int .i64 (c 1)) (.int .i64 (c 2)) (.int .i64 (c 3)) (.slice (some ⟨zl, 0, none⟩) kn kn) 136).blw ((Blw.refl _).alloc (.cells #[.int .i64 0, .int .i64 0] 189))
  have rR := box2 (w.alloc (.cells (held5 c zl kn) 136)) (.int .i64 0) (.int .i64 0) 189
  rw [World.size_alloc] at rR
  have rL := h.blw hb0
  have hd : Int.tdiv (a : Int) 4 = ((a / 4 : Nat) : Int) := by rw [Int.tdiv_eq_ediv_of_nonneg (by omega)]; rfl
  have hr : Int.tmod (a : Int) 4 = ((a % 4 : Nat) : Int) := by rw [Int.tmod_eq_emod_of_nonneg (by omega)]; rfl
  have hd4 : a / 4 < 4 := by omega
  have hr4 : a % 4 < 4 := by omega
  have g1 := row5_top rA hd4
  obtain ⟨-, -, -, -, g9⟩ := get5 rA
  have htop := ht (a / 4) hd4
  obtain ⟨t0, t1⟩ := get2 rR
  have f0 := rR.frozen 0
  have f1 := rR.frozen 1
  have hd4' : ((a / 4 : Nat) : Int) < 4 := by omega
  have hr4' : ((a % 4 : Nat) : Int) < 4 := by omega
  clear ht h rA rR
  by_cases h0 : 0 ≤ c (a / 4)
  · obtain ⟨q, hq⟩ : ∃ q : Nat, c (a / 4) = q := ⟨(c (a / 4)).toNat, by omega⟩
    have hqk : q < kn := by omega
    have hqk' : (q : Int) < (kn : Int) := by omega
    have E1 : Hid (lfP c p a = p q (a % 4)) := lfP_yes hq
    have E2 : Hid (lfP c m a = m q (a % 4)) := lfP_yes hq
    obtain ⟨g4, g5⟩ := lc_at rL hqk hr4
    have dq : ((q : Int) == -1) = false := by simp
    rw [hq] at g1
    clear h0 htop hq rL
    generalize a / 4 = x at *
    generalize a % 4 = y at *
    go_enter Try.func169, Try.ntmps169
    go_wp2
    refine bodyPost_ret (v := .agg #[.int .i64 (p q y), .int .i64 (m q y)]) (by simp [results, Try.results169, go_sem, t0, t1]) rfl ?_
    refine ⟨by rw [E1.out, E2.out], ?_⟩
    first | exact ((Blw.refl _).alloc _).alloc _ | exact set2w_blw hb0 (by omega) _ _
  · have E1 : Hid (lfP c p a = 0) := lfP_no h0
    have E2 : Hid (lfP c m a = 0) := lfP_no h0
    have hcm : c (a / 4) = -1 := by omega
    rw [hcm] at g1
    clear h0 htop rL hcm
    generalize a / 4 = x at *
    generalize a % 4 = y at *
    go_enter Try.func169, Try.ntmps169
    go_wp2
    refine bodyPost_ret (v := .agg #[.int .i64 0, .int .i64 0]) (by simp [results, Try.results169, go_sem, t0, t1]) rfl ?_
    refine ⟨by rw [E1.out, E2.out], ?_⟩
    first | exact hb0 | exact ((Blw.refl _).alloc _).alloc _ | exact set2w_blw hb0 (by omega) _ _
end Go.Proofs.Ytbpdopcdhnemfaa
/- What stands in a law: facts that no other block's change turns. -/
namespace Go.Proofs.Ytbpdopcdhnemfaa
open Go.RowKit
set_option linter.unusedSimpArgs false
set_option linter.unusedVariables false
/-- P holds of W, and of every world that differs from it in blocks outside X alone. -/
def St (X : Nat → Prop) (P : World → Prop) (W : World) : Prop := (∀ b, X b → b < W.heap.size) ∧ ∀ Z w', Mod Z W w' → (∀ b, X b → ¬ Z b) → P w'
theorem St.out {X : Nat → Prop} {P : World → Prop} {W : World} (h : St X P W) : P W := h.2 (fun _ => False) W (Mod.refl _ _) (fun _ _ => id)
theorem St.mod {X Z : Nat → Prop} {P : World → Prop} {W W' : World} (h : St X P W) (hm : Mod Z W W') (hx : ∀ b, X b → ¬ Z b) : St X P W' :=
  ⟨fun b hb => Nat.lt_of_lt_of_le (h.1 b hb) hm.size, fun Z' w' hm' hx' => h.2 (fun b => Z b ∨ Z' b) w' ((hm.mono (fun _ => Or.inl)).trans (hm'.mono (fun _ => Or.inr))) (fun b hb hz => hz.elim (hx b hb) (hx' b hb))⟩
theorem St.blw {X : Nat → Prop} {P : World → Prop} {W W' : World} (h : St X P W) (hb : Blw W W') : St X P W' := h.mod (hb.mod (fun _ => False)) (fun _ _ => id)
theorem St.mono {X Y : Nat → Prop} {P : World → Prop} {W : World} (h : St X P W) (hxy : ∀ b, X b → Y b) (hY : ∀ b, Y b → b < W.heap.size) : St Y P W :=
  ⟨hY, fun Z w' hm hx => h.2 Z w' hm (fun b hb => hx b (hxy b hb))⟩
/-- A law's argument: below a; the model's answer: below b; the argument's copy: below c; the program's answer: below d. -/
structure LawF (w W : World) (a b c d : Nat) (P1 P3 P4 P5 : World → Prop) : Prop where
  hB : Blw w W
  p1 : St (fun x => x < a) P1 W
  p3 : St (fun x => x < b) P3 W
  p4 : St (fun x => b ≤ x ∧ x < c) P4 W
  p5 : St (fun x => c ≤ x ∧ x < d) P5 W
  o : w.heap.size ≤ a ∧ a ≤ b ∧ b ≤ c ∧ c ≤ d ∧ d ≤ W.heap.size
theorem LawF.blw {w W W' : World} {a b c d : Nat} {P1 P3 P4 P5 : World → Prop} (S : LawF w W a b c d P1 P3 P4 P5) (hb : Blw W W') : LawF w W' a b c d P1 P3 P4 P5 := by
  have o := S.o
  have := hb.size
  exact ⟨S.hB.trans hb, S.p1.blw hb, S.p3.blw hb, S.p4.blw hb, S.p5.blw hb, by omega⟩
theorem LawF.mark4 {w W W' : World} {a b c d : Nat} {P1 P3 P4 P4' P5 : World → Prop} (S : LawF w W a b c d P1 P3 P4 P5) {X : Nat → Prop} (hm : Mod X W W') (hX : ∀ x, X x → b ≤ x ∧ x < c) (h4 : St (fun x => b ≤ x ∧ x < c) P4' W') : LawF w W' a b c d P1 P3 P4' P5 := by
  have o := S.o
  have := hm.size
  exact ⟨Mod.blw S.hB hm (fun i hi => by have := hX i hi; omega), S.p1.mod hm (fun x hx h => by have := hX x h; omega), S.p3.mod hm (fun x hx h => by have := hX x h; omega), h4, S.p5.mod hm (fun x hx h => by have := hX x h; omega), by omega⟩
theorem LawF.mark5 {w W W' : World} {a b c d : Nat} {P1 P3 P4 P5 P5' : World → Prop} (S : LawF w W a b c d P1 P3 P4 P5) {X : Nat → Prop} (hm : Mod X W W') (hX : ∀ x, X x → c ≤ x ∧ x < d) (h5 : St (fun x => c ≤ x ∧ x < d) P5' W') : LawF w W' a b c d P1 P3 P4 P5' := by
  have o := S.o
  have := hm.size
  exact ⟨Mod.blw S.hB hm (fun i hi => by have := hX i hi; omega), S.p1.mod hm (fun x hx h => by have := hX x h; omega), S.p3.mod hm (fun x hx h => by have := hX x h; omega), S.p4.mod hm (fun x hx h => by have := hX x h; omega), h5, by omega⟩
end Go.Proofs.Ytbpdopcdhnemfaa
/- What stands in a law on tables. -/
namespace Go.Proofs.Ytbpdopcdhnemfaa
open Go.RowKit
set_option linter.unusedSimpArgs false
set_option linter.unusedVariables false
/-- A book in its own box at z, all in blocks of X. -/
structure BB (X : Nat → Prop) (z : Nat) (b : BV) (B B' : BD) (w : World) : Prop where
  own : BookOwn (fun x => X x ∧ x ≠ z) w b B'
  box : Row w z 2 (fun i => if i = 0 then .slice b.a1 B.n b.c1 else .slice b.a2 B.D.n b.c2)
theorem BB.st {X : Nat → Prop} {z : Nat} {b : BV} {B B' : BD} {w : World} (h : BB X z b B B' w) (hz : X z) (hX : ∀ b, X b → b < w.heap.size) : St X (BB X z b B B') w :=
  ⟨hX, fun Z w' hm hx => ⟨h.own.mod hm (fun b hb => hx b hb.1), h.box.mod hm (hx z hz)⟩⟩
/-- The argument of a law on a book: it, and its box at z. -/
structure ArgB (n z : Nat) (b : BV) (B : BD) (w : World) : Prop where
  at_ : BookAt (fun x => x < n) w b B
  box : Row w z 2 (fun i => if i = 0 then .slice b.a1 B.n b.c1 else .slice b.a2 B.D.n b.c2)
theorem ArgB.st {n z a : Nat} {b : BV} {B : BD} {w : World} (h : ArgB n z b B w) (hn : n ≤ a) (hz : z < a) (ha : a ≤ w.heap.size) : St (fun x => x < a) (ArgB n z b B) w :=
  ⟨fun x hx => by omega, fun Z w' hm hx => ⟨h.at_.mod hm (fun b hb => hx b (by omega)), h.box.mod hm (hx z hz)⟩⟩
/-- What answers a book and a bool. -/
def GivesB (out : BD → Bool → Prop) (w : World) : Ending → World → Prop := fun e w' =>
  ∃ (b : BV) (R : BD) (r : Bool), e = .returned (.tuple #[b.val R, .bool r]) ∧ out R r ∧ R.n + (R.D.n + R.D.tot) ≤ 1048576 ∧ BookOwn (fun x => w.heap.size ≤ x ∧ x < w'.heap.size) w' b R ∧ Blw w w'
def GivesI (out : Nat → (Nat → Int) → Bool → Prop) (w : World) : Ending → World → Prop := fun e w' =>
  ∃ (ao : Option Addr) (n c : Nat) (f : Nat → Int) (r : Bool), e = .returned (.tuple #[.slice ao n c, .bool r]) ∧ out n f r ∧ n ≤ 1048576 ∧ IntsOwn (fun x => w.heap.size ≤ x ∧ x < w'.heap.size) w' ao n f ∧ Blw w w'
/-- A boxed answer. -/
theorem boxed {w W : World} {b : BV} {R : BD} (hb : Blw w W) (own : BookOwn (fun x => w.heap.size ≤ x ∧ x < W.heap.size) W b R) {lo : Nat} (hlo : lo ≤ w.heap.size) :
    BB (fun x => lo ≤ x ∧ x < W.heap.size + 1) W.heap.size b R R (W.alloc (.cells #[.slice b.a1 R.n b.c1, .slice b.a2 R.D.n b.c2] 29)) :=
  ⟨(own.blw ((Blw.refl _).alloc _)).mono (fun x hx => ⟨⟨by omega, by omega⟩, by omega⟩), box2 W _ _ 29⟩
end Go.Proofs.Ytbpdopcdhnemfaa
/- Tops that are filled; a held table given out. -/
namespace Go.Proofs.Ytbpdopcdhnemfaa
open Go.RowKit
set_option linter.unusedSimpArgs false
set_option linter.unusedVariables false
set_option maxHeartbeats 1600000 in
theorem fill_any (z : Nat) (c : Nat → Int) (v : Value) (x : Int) (w : World) (h : Row w z 5 (row5f c v)) :
    Calls Try.prog 200 #[.slice (some ⟨z, 0, none⟩) 4 4, .int .i64 x] w fun e w' => e = .returned (.tuple #[]) ∧ Row w' z 5 (row5f (fun _ => x) v) ∧ Mod (fun b => b = z) w w' := by
  go_enter Try.func200, Try.ntmps200
  go_wp2_with fail
  go_loopw [7] (fun i wr => ∃ j : Nat, j ≤ 4 ∧ i = .int .i64 j ∧ Row wr z 5 (fun i => if i < j then .int .i64 x else row5f c v i) ∧ Mod (fun b => b = z) w wr) (fun i _ => 4 - (intOf i).toNat)
  case atStart => exact ⟨0, by omega, rfl, h.congr (fun i hi => by simp), Mod.refl _ _⟩
  case round =>
    obtain ⟨j, hj, rfl, hr, hm⟩ := hrel
    by_cases hlt : j < 4
    · have hlt' : (j : Int) < 4 := by omega
      have g0 := hr.cell (i := j) (by omega)
      have f0 := hr.frozen j
      have HR : Hid (Row (wr.setCell ⟨z, j, none⟩ (.int .i64 x)) z 5 (fun i => if i < j + 1 then .int .i64 x else row5f c v i)) := (hr.set j _).congr (fun i hi => by
        by_cases e1 : i = j
        · subst e1; simp
        · by_cases e2 : i < j
          · have e3 : i < j + 1 := by omega
            simp only [e1, e2, e3, if_true, if_false]
          · have e3 : ¬ i < j + 1 := by omega
            simp only [e1, e2, e3, if_false])
      have HM : Hid (Mod (fun b => b = z) w (wr.setCell ⟨z, j, none⟩ (.int .i64 x))) := hm.trans (Mod.setCell (X := fun b => b = z) _ (p := ⟨z, j, none⟩) rfl _)
      clear hr hm
      go_wp2
      go_roundw
      case rel => exact ⟨j + 1, by omega, by go_num, HR.out, HM.out⟩
      case measure => simp [intOf]; omega
    · obtain rfl : j = 4 := by omega
      have HR : Hid (Row wr z 5 (row5f (fun _ => x) v)) := hr.congr (fun i hi => by
        match i, hi with
        | 0, _ => rfl
        | 1, _ => rfl
        | 2, _ => rfl
        | 3, _ => rfl
        | 4, _ => rfl)
      have HM : Hid (Mod (fun b => b = z) w wr) := hm
      clear hr hm
      go_wp2
      refine bodyPost_end (results_none rfl _ _ _) rfl ?_
      exact ⟨rfl, HR.out, HM.out⟩
theorem out_own {w w2 : World} {c : Nat → Int} {kn : Nat} {p m : Nat → Nat → Int} {a1 a2 : Option Addr} {q1 q2 z s1 s2 : Nat} {w1 : World} (h0 : w.heap.size ≤ z) (h1 : z < s1) (h2 : s1 ≤ s2) (h3 : s2 ≤ w2.heap.size) (hb : Blw w1 w2) (hs1 : w1.heap.size = s2) (o1 : IntsOwn (fun x => s1 ≤ x ∧ x < s2) w1 a1 4 c) (o2 : PSOwn (fun x => s2 ≤ x ∧ x < w2.heap.size) w2 a2 ⟨kn, fun _ => 4, p, m⟩) (v0 v1 : Value) :
    BookOwn (fun x => w.heap.size ≤ x ∧ x < ((w2.setCell ⟨z, 0, none⟩ v0).setCell ⟨z, 1, none⟩ v1).heap.size) ((w2.setCell ⟨z, 0, none⟩ v0).setCell ⟨z, 1, none⟩ v1) ⟨a1, a2, q1, q2⟩ ⟨4, c, ⟨kn, fun _ => 4, p, m⟩⟩ := by
  have hm := set2_mod (X := fun x => x = z) w2 rfl v0 v1
  have hs := hm.size
  exact ⟨fun x => s1 ≤ x ∧ x < s2, fun x => s2 ≤ x ∧ x < w2.heap.size, fun x hx => ⟨⟨by omega, by omega⟩, by omega⟩, fun x hx => ⟨by omega, by omega⟩, (o1.blw hb).mod hm (fun x hx => by omega), o2.mod hm (fun x hx => by omega)⟩
set_option maxRecDepth 10000 in
set_option maxHeartbeats 3200000 in
theorem giveOut_any (c : Nat → Int) (zl kn : Nat) (p m : Nat → Nat → Int) (w : World) (hk : kn ≤ 4) (h : Row w zl (kn * 8) (lc p m)) :
    Calls Try.prog 158 #[.agg (held5 c zl kn)] w fun e w' => ∃ b' : BV, e = .returned (b'.val ⟨4, c, ⟨kn, fun _ => 4, p, m⟩⟩) ∧ BookOwn (fun x => w.heap.size ≤ x ∧ x < w'.heap.size) w' b' ⟨4, c, ⟨kn, fun _ => 4, p, m⟩⟩ ∧ Blw w w' := by
  have hb0 : Blw w ((w.alloc (.cells (held5 c zl kn) 136)).alloc (.cells #[.slice none 0 0, .slice none 0 0] 29)) := ((Blw.refl _).alloc _).alloc _
  have rA : Row ((w.alloc (.cells (held5 c zl kn) 136)).alloc (.cells #[.slice none 0 0, .slice none 0 0] 29)) w.heap.size 5 (row5f c (.slice (some ⟨zl, 0, none⟩) kn kn)) := (row5 w (.int .i64 (c 0)) (.int .i64 (c 1)) (.int .i64 (c 2)) (.int .i64 (c 3)) (.slice (some ⟨zl, 0, none⟩) kn kn) 136).blw ((Blw.refl _).alloc _)
  have rR := box2 (w.alloc (.cells (held5 c zl kn) 136)) (.slice none 0 0) (.slice none 0 0) 29
  rw [World.size_alloc] at rR
  have rL := h.blw hb0
  clear h
  have hsz : ((w.alloc (.cells (held5 c zl kn) 136)).alloc (.cells #[.slice none 0 0, .slice none 0 0] 29)).heap.size = w.heap.size + 1 + 1 := by simp
  go_enter Try.func158, Try.ntmps158
  go_upto_region 1 with fail
  revert hb0 rA rR rL hsz
  generalize ((w.alloc (.cells (held5 c zl kn) 136)).alloc (.cells #[.slice none 0 0, .slice none 0 0] 29)) = w0
  intro hb0 rA rR rL hsz
  have HL : Hid (Row w0.drew zl (kn * 8) (lc p m)) := rL.blw (Blw.refl _).drew
  have HA : Hid (Row w0.drew w.heap.size 5 (row5f c (.slice (some ⟨zl, 0, none⟩) kn kn))) := rA.blw (Blw.refl _).drew
  have HR : Hid (Row w0.drew (w.heap.size + 1) 2 (fun i => if i = 0 then .slice none 0 0 else .slice none 0 0)) := rR.blw (Blw.refl _).drew
  have HB : Hid (Blw w w0.drew) := hb0.drew
  have HSZ : Hid (w0.drew.heap.size = w.heap.size + 1 + 1) := hsz
  have P4 : ∀ w', Row w' w.heap.size 5 (row5f c (.slice (some ⟨zl, 0, none⟩) kn kn)) → w'.cell? ⟨w.heap.size, 4, none⟩ = some (.slice (some ⟨zl, 0, none⟩) kn kn) := fun w' hh => (get5 hh).2.2.2.2
  clear hb0 rA rR rL hsz
  refine wp_region_noPanic ?_
  have hS0 := HA.out
  refine wp_region_held_drew (S := fun w' => Row w' w.heap.size 5 (row5f c (.slice (some ⟨zl, 0, none⟩) kn kn))) (by kernel_rfl) hS0 (fun hB => ?_)
  clear hB
  revert hS0
  generalize w0.drew = wd at *
  intro hS0
  refine wpAnyH_take (i := 0) (oi := { dst := some 3, op := Op.fieldAddr 136 (Operand.tmp 1) 0, type := 0, pos := _, after := #[], guard := none }) (v := (.pointer (some ⟨w.heap.size, 0, none⟩))) rfl (by kernel_rfl) (by kernel_rfl) (by kernel_rfl) (fun _ _ _ h => h) (Or.inl ⟨by rfl, fun w' hS => by (try dsimp only at hS); go_simp⟩) hS0 ?_
  simp only [Act.put, List.setIfInBounds_toArray, List.set_cons_zero, List.set_cons_succ]
  refine wpAnyH_take (i := 1) (oi := { dst := some 4, op := Op.slice 133 (Operand.tmp 3) none none none, type := 26, pos := _, after := #[{ on := 0, ground := Ground.data }], guard := none }) (v := (.slice (some ⟨w.heap.size, 0, none⟩) 4 4)) rfl (by kernel_rfl) (by kernel_rfl) (by kernel_rfl) (fun _ _ _ h => h) (Or.inl ⟨by rfl, fun w' hS => by (try dsimp only at hS); go_simp⟩) hS0 ?_
  simp only [Act.put, List.setIfInBounds_toArray, List.set_cons_zero, List.set_cons_succ]
  refine wpAnyH_take (i := 3) (oi := { dst := some 6, op := Op.fieldAddr 136 (Operand.tmp 1) 1, type := 0, pos := _, after := #[], guard := none }) (v := (.pointer (some ⟨w.heap.size, 4, none⟩))) rfl (by kernel_rfl) (by kernel_rfl) (by kernel_rfl) (fun _ _ _ h => h) (Or.inl ⟨by rfl, fun w' hS => by (try dsimp only at hS); go_simp⟩) hS0 ?_
  simp only [Act.put, List.setIfInBounds_toArray, List.set_cons_zero, List.set_cons_succ]
  refine wpAnyH_take (i := 4) (oi := { dst := some 7, op := Op.load 134 (Operand.tmp 6), type := 134, pos := _, after := #[{ on := 3, ground := Ground.data }], guard := none }) (v := (.slice (some ⟨zl, 0, none⟩) kn kn)) rfl (by kernel_rfl) (by kernel_rfl) (by kernel_rfl) (fun _ _ _ h => h) (Or.inl ⟨by rfl, fun w' hS => by (try dsimp only at hS); go_simp⟩) hS0 ?_
  simp only [Act.put, List.setIfInBounds_toArray, List.set_cons_zero, List.set_cons_succ]
  refine wpAnyH_ready (rs := [2]) (by kernel_rfl) (by simp) ?_
  refine AllReadyH.cons (o := { dst := some 5, op := Op.call { callee := Callee.value (Operand.func 189), args := #[Operand.tmp 4], argTypes := #[26] }, type := 26, pos := _, after := #[{ on := 1, ground := Ground.data }], guard := none }) rfl (fun K hK => ?_) AllReadyH.nil
  go_simp
  refine (cloneI_any w.heap.size 0 4 4 c (fun x => x = w.heap.size) _ (by omega) ⟨by omega, fun i hi => ⟨_, 0, rfl, rfl, by rw [Nat.zero_add]; exact row5_top HA.out hi⟩⟩).mono ?_
  rintro e w1 ⟨a1, q1, rfl, o1, hb1⟩
  have HL1 : Hid (Row w1 zl (kn * 8) (lc p m)) := HL.out.blw hb1
  have HR1 : Hid (Row w1 (w.heap.size + 1) 2 (fun i => if i = 0 then .slice none 0 0 else .slice none 0 0)) := HR.out.blw hb1
  have HB1 : Hid (Blw w w1) := HB.out.trans hb1
  have z1 := hb1.size
  rw [HSZ.out] at o1 z1
  have hS1 := HA.out.blw hb1
  refine hK.out _ _ hS1 (fun hB => ?_)
  clear hK K hB
  try simp only [Act.put, List.setIfInBounds_toArray, List.set_cons_zero, List.set_cons_succ]
  refine wpAnyH_ready (rs := [5]) (by kernel_rfl) (by simp) ?_
  refine AllReadyH.cons (o := { dst := some 8, op := Op.call { callee := Callee.value (Operand.func 190), args := #[Operand.tmp 7, Operand.func 191], argTypes := #[134, 225] }, type := 27, pos := _, after := #[{ on := 4, ground := Ground.data }, { on := 2, ground := Ground.chain }], guard := none }) rfl (fun K hK => ?_) AllReadyH.nil
  go_simp
  refine (each_any zl kn p m _ hk HL1.out).mono ?_
  rintro e w2 ⟨za, rfl, o2, hb2⟩
  have r2 := HR1.out.blw hb2
  have z2 := hb2.size
  have t0 := (get2 r2).1
  have t1 := (get2 r2).2
  have f0 := r2.frozen 0
  have f1 := r2.frozen 1
  have FIN : Hid _ := out_own (w := w) (q1 := q1) (q2 := kn) (z := w.heap.size + 1) (by omega) (by omega) z1 z2 hb2 rfl o1 o2 (.slice a1 4 q1) (.slice (some ⟨za, 0, none⟩) kn kn)
  have HBF : Hid _ := set2_blw (HB1.out.trans hb2) (B := w.heap.size + 1) (by omega) (.slice a1 4 q1) (.slice (some ⟨za, 0, none⟩) kn kn)
  have hS2 := hS1.blw hb2
  clear o1 o2 hb1 hb2 z1 z2 HL1 HR1 HB1
  refine hK.out _ _ hS2 (fun hB => ?_)
  clear hK K hB
  try simp only [Act.put, List.setIfInBounds_toArray, List.set_cons_zero, List.set_cons_succ]
  refine wpAnyH_take (i := 6) (oi := { dst := some 9, op := Op.build 29 #[(0, Operand.tmp 5), (1, Operand.tmp 8)], type := 29, pos := _, after := #[{ on := 2, ground := Ground.data }, { on := 5, ground := Ground.data }], guard := none }) (v := (.agg #[.slice a1 4 q1, .slice (some ⟨za, 0, none⟩) kn kn])) rfl (by kernel_rfl) (by kernel_rfl) (by kernel_rfl) (fun _ _ _ h => h) (Or.inl ⟨by rfl, fun w' hS => by (try dsimp only at hS); go_simp⟩) hS2 ?_
  simp only [Act.put, List.setIfInBounds_toArray, List.set_cons_zero, List.set_cons_succ]
  refine wpAnyH_ready (rs := [7]) (by kernel_rfl) (by simp) ?_
  refine AllReadyH.cons (o := { dst := none, op := Op.store 29 (Operand.tmp 2) (Operand.tmp 9), type := 0, pos := _, after := #[{ on := 6, ground := Ground.data }, { on := 5, ground := Ground.chain }, { on := 0, ground := Ground.phase }, { on := 1, ground := Ground.phase }, { on := 2, ground := Ground.phase }, { on := 3, ground := Ground.phase }, { on := 4, ground := Ground.phase }, { on := 5, ground := Ground.phase }, { on := 6, ground := Ground.phase }], guard := none }) rfl (fun K hK => ?_) AllReadyH.nil
  go_simp
  have hS3 := ((hS2.setOther (a := ⟨w.heap.size + 1, 0, none⟩) (by show w.heap.size ≠ w.heap.size + 1; omega) (.slice a1 4 q1)).setOther (a := ⟨w.heap.size + 1, 1, none⟩) (by show w.heap.size ≠ w.heap.size + 1; omega) (.slice (some ⟨za, 0, none⟩) kn kn))
  refine hK.out _ _ hS3 (fun hB => ?_)
  clear hK K hB
  try simp only [Act.put, List.setIfInBounds_toArray, List.set_cons_zero, List.set_cons_succ]
  refine wpAnyH_done (by kernel_rfl) ?_ _
  refine NoPanic.normal ?_
  clear hS0 hS1 hS2 hS3 HL HA HR HB HSZ P4 r2
  go_wp2
  refine bodyPost_ret (v := .agg #[.slice a1 4 q1, .slice (some ⟨za, 0, none⟩) kn kn]) (by simp [results, Try.results158, go_sem, t0, t1]) rfl ?_
  exact ⟨⟨a1, some ⟨za, 0, none⟩, q1, kn⟩, rfl, FIN.out, HBF.out⟩
end Go.Proofs.Ytbpdopcdhnemfaa
/- What answers a table and a bool. -/
namespace Go.Proofs.Ytbpdopcdhnemfaa
open Go.RowKit
set_option linter.unusedSimpArgs false
set_option linter.unusedVariables false
def upd (f : Nat → Int) (i : Nat) (v : Int) : Nat → Int := fun t => if t = i then v else f t
def upd2 (p : Nat → Nat → Int) (k j : Nat) (v : Int) : Nat → Nat → Int := fun a b => if a = k ∧ b = j then v else p a b
/-- What answers a table and a bool: V where ok, nothing else. -/
def resT (ok : Prop) (V R : BD) (r : Bool) : Prop := (ok ∧ R = V ∧ r = true) ∨ (¬ ok ∧ R = BD.zero ∧ r = false)
theorem resT_same {ok : Prop} {V R R' : BD} {b c : Bool} (h : resT ok V R b) (k : resT ok V R' c) : R = R' ∧ b = c := by
  rcases h with ⟨g, rfl, rfl⟩ | ⟨g, rfl, rfl⟩
  · rcases k with ⟨_, rfl, rfl⟩ | ⟨g', _, _⟩
    · exact ⟨rfl, rfl⟩
    · exact absurd g g'
  · rcases k with ⟨g', _⟩ | ⟨_, rfl, rfl⟩
    · exact absurd g' g
    · exact ⟨rfl, rfl⟩
theorem zero_givesT {out : BD → Bool → Prop} {w W : World} {z : Nat} (hz : w.heap.size ≤ z) (ho : out BD.zero false) (hb : Blw w W) :
    GivesB out w (.returned (.tuple #[BV.zero.val BD.zero, .bool false])) ((W.setCell ⟨z, 0, none⟩ (.slice none 0 0)).setCell ⟨z, 1, none⟩ (.slice none 0 0)) :=
  ⟨BV.zero, BD.zero, false, rfl, ho, by decide, BookOwn.zero _ _, set2_blw hb hz _ _⟩
theorem zero_givesT0 {out : BD → Bool → Prop} {w W : World} (ho : out BD.zero false) (hb : Blw w W) :
    GivesB out w (.returned (.tuple #[BV.zero.val BD.zero, .bool false])) W :=
  ⟨BV.zero, BD.zero, false, rfl, ho, by decide, BookOwn.zero _ _, hb⟩
theorem fin_givesT {out : BD → Bool → Prop} {X : Nat → Prop} {w W : World} {z : Nat} {b : BV} {R : BD} (hz : w.heap.size ≤ z) (ho : out R true) (hs : R.n + (R.D.n + R.D.tot) ≤ 1048576) (hb : Blw w W) (own : BookOwn X W b R) (hX : ∀ x, X x → w.heap.size ≤ x ∧ x ≠ z ∧ x < W.heap.size) :
    GivesB out w (.returned (.tuple #[b.val R, .bool true])) ((W.setCell ⟨z, 0, none⟩ (.slice b.a1 R.n b.c1)).setCell ⟨z, 1, none⟩ (.slice b.a2 R.D.n b.c2)) := by
  have hm := set2_mod (X := fun x => x = z) W rfl (.slice b.a1 R.n b.c1) (.slice b.a2 R.D.n b.c2)
  have := hm.size
  exact ⟨b, R, true, rfl, ho, hs, (own.mod hm (fun x hx e => (hX x hx).2.1 e)).mono (fun x hx => by have := hX x hx; omega), set2_blw hb hz _ _⟩
theorem tot4 {c : Nat → Int} {kn : Nat} {p m : Nat → Nat → Int} (h : kn ≤ 4) : (4 : Nat) + (kn + PD.tot ⟨kn, fun _ => 4, p, m⟩) ≤ 1048576 := by
  have : pre (fun _ => 4) kn ≤ pre (fun _ => 4) 4 := pre_mono _ h
  have e : pre (fun _ => 4) 4 = 16 := rfl
  show 4 + (kn + pre (fun _ => 4) kn) ≤ _
  omega
/-! ### Lists of leaves that are gathered -/
structure Tl (lo : Nat) (wr : World) (v : Value) (n : Nat) (A : Nat → Option Addr) (C : Nat → Nat) (p m : Nat → Nat → Int) (ZB : Nat → Prop) (Z : Nat → Nat → Prop) : Prop where
  buf : Buf 186 1 ZB wr v n (fun i => .slice (A i) 4 (C i))
  own : ∀ i, i < n → UndosOwn (Z i) wr (A i) 4 (p i) (m i)
  zb : ∀ x, ZB x → lo ≤ x ∧ x < wr.heap.size
  z : ∀ i, i < n → ∀ x, Z i x → (lo ≤ x ∧ x < wr.heap.size) ∧ ¬ ZB x
  dis : ∀ i j, i < n → j < n → i ≠ j → ∀ x, Z i x → ¬ Z j x
theorem Tl.nil (lo : Nat) (wr : World) (p m : Nat → Nat → Int) : Tl lo wr (.slice none 0 0) 0 (fun _ => none) (fun _ => 0) p m (fun _ => False) (fun _ _ => False) :=
  ⟨Buf.nil _ _ _ _ _, fun i hi => absurd hi (Nat.not_lt_zero _), fun _ h => h.elim, fun i hi => absurd hi (Nat.not_lt_zero _), fun i j hi => absurd hi (Nat.not_lt_zero _)⟩
theorem Tl.mod {lo : Nat} {wr w' : World} {v : Value} {n : Nat} {A : Nat → Option Addr} {C : Nat → Nat} {p m : Nat → Nat → Int} {ZB Q : Nat → Prop} {Z : Nat → Nat → Prop} (h : Tl lo wr v n A C p m ZB Z) (hm : Mod Q wr w') (hq : ∀ x, lo ≤ x → ¬ Q x) : Tl lo w' v n A C p m ZB Z := by
  have hs := hm.size
  exact ⟨h.buf.mod hm (fun x hx => hq x (h.zb x hx).1), fun i hi => (h.own i hi).mod hm (fun x hx => hq x (h.z i hi x hx).1.1), fun x hx => by have := h.zb x hx; omega, fun i hi x hx => by have := h.z i hi x hx; exact ⟨by omega, this.2⟩, h.dis⟩
theorem Tl.go {lo : Nat} {wr w' : World} {v : Value} {n : Nat} {A : Nat → Option Addr} {C : Nat → Nat} {p m : Nat → Nat → Int} {ZB : Nat → Prop} {Z : Nat → Nat → Prop} (h : Tl lo wr v n A C p m ZB Z) (hb : Blw wr w') : Tl lo w' v n A C p m ZB Z := h.mod (hb.mod (fun _ => False)) (fun _ _ => id)
theorem info78 : (Try.prog.info? 186).map (fun i => (i.zero, i.size, i.bytes)) = some (some (.slice none 0 0), 1, 24) := by kernel_rfl
theorem box1_cell (w : World) (u : Value) (t : TypeId) : (w.alloc (.cells #[u] t)).cell? ((⟨w.heap.size, 0, none⟩ : Addr).add 0) = some u :=
  (Row.of_cells (heap_alloc_new w (.cells #[u] t)) (fun _ => u) (fun i hi => by obtain rfl : i = 0 := by simpa using hi
                                                                                rfl)).cell (i := 0) (by simp)
theorem Tl.push {lo s0 : Nat} {wr w1 : World} {v : Value} {n : Nat} {A : Nat → Option Addr} {C : Nat → Nat} {p m : Nat → Nat → Int} {ZB : Nat → Prop} {Z : Nat → Nat → Prop} (h : Tl lo wr v n A C p m ZB Z) (hb : Blw wr w1) (hlo : lo ≤ s0) (hs0 : wr.heap.size ≤ s0) (hs9 : s0 ≤ w1.heap.size) {ao : Option Addr} {cap : Nat} (ho : UndosOwn (fun x => s0 ≤ x ∧ x < w1.heap.size) w1 ao 4 (p n) (m n)) (hn : n ≤ 1048576) :
    ∃ ao' cap' w2 ZB', (Builtin.append_ #[27, 27] 27 #[v, .slice (some ⟨w1.heap.size, 0, none⟩) 1 1]).run Try.prog (w1.alloc (.cells #[.slice ao 4 cap] 186)) = .ok (.slice ao' (n + 1) cap') w2 ∧ Tl lo w2 (.slice ao' (n + 1) cap') (n + 1) (fun i => if i = n then ao else A i) (fun i => if i = n then cap else C i) p m ZB' (fun i x => if i = n then (s0 ≤ x ∧ x < w1.heap.size) else Z i x) ∧ Mod ZB w1 w2 := by
  have hbA : Blw w1 (w1.alloc (.cells #[.slice ao 4 cap] 186)) := (Blw.refl _).alloc _
  have hb1 : Blw wr (w1.alloc (.cells #[.slice ao 4 cap] 186)) := hb.trans hbA
  have hX : Buf 186 1 ZB (w1.alloc (.cells #[.slice ao 4 cap] 186)) v n (fun i => .slice (A i) 4 (C i)) := h.buf.blw hb1
  obtain ⟨i0, hi0, hz0, hz1, hz2⟩ := info_parts info78
  have hsb := hb.size
  have hs1 : (w1.alloc (.cells #[.slice ao 4 cap] 186)).heap.size = w1.heap.size + 1 := by simp
  obtain ⟨ao', cap', w2, hrun, hB, hM0⟩ := Buf.append Try.underlying27 hi0 hz0 hz1 hz2 rfl (by decide) hX (ao := some ⟨w1.heap.size, 0, none⟩) (m := 1) 1 (G := fun _ => .slice ao 4 cap) (fun e => by cases e) (fun ad e j hj => by
      cases e
      obtain rfl : j = 0 := by omega
      exact box1_cell w1 _ 186) (fun j => rfl) (by omega) (by decide) 27
  have hM : Mod ZB (w1.alloc (.cells #[.slice ao 4 cap] 186)) w2 := hM0.mono (fun x hx => h.buf.2 x hx)
  rw [hs1] at hB
  have s2 := hM.size
  rw [hs1] at s2
  refine ⟨ao', cap', w2, _, hrun, ⟨hB.congr (fun i hi => ?_), fun i hi => ?_, fun x hx => ?_, fun i hi x hx => ?_, fun i i' hi hi' hne x hx hx' => ?_⟩, (hbA.mod ZB).trans hM⟩
  · simp only [cat, Nat.mul_one]
    by_cases e : i < n
    · have e2 : ¬ i = n := by omega
      simp only [e, e2, if_true, if_false]
    · have e2 : i = n := by omega
      simp only [e, e2, if_true, if_false, Nat.lt_irrefl]
  · by_cases e : i = n
    · subst e
      simp only [if_pos]
      exact (ho.blw hbA).mod hM (fun x hx hz => by have := h.zb x hz; omega)
    · simp only [if_neg e]
      exact ((h.own i (by omega)).blw hb1).mod hM (fun x hx hz => (h.z i (by omega) x hx).2 hz)
  · have hx2 : (ZB x ∨ x = w1.heap.size + 1) ∧ x < w2.heap.size := hx
    rcases hx2.1 with h1 | h1
    · have := h.zb x h1; omega
    · omega
  · by_cases e : i = n
    · simp only [if_pos e] at hx
      refine ⟨by omega, fun hc => ?_⟩
      have hc : (ZB x ∨ x = w1.heap.size + 1) ∧ x < w2.heap.size := hc
      rcases hc.1 with h1 | h1
      · have := h.zb x h1; omega
      · omega
    · simp only [if_neg e] at hx
      have hz := h.z i (by omega) x hx
      refine ⟨by omega, fun hc => ?_⟩
      have hc : (ZB x ∨ x = w1.heap.size + 1) ∧ x < w2.heap.size := hc
      rcases hc.1 with h1 | h1
      · exact hz.2 h1
      · omega
  · by_cases e : i = n
    · have e' : ¬ i' = n := by omega
      simp only [if_pos e] at hx
      simp only [if_neg e'] at hx'
      have := h.z i' (by omega) x hx'; omega
    · simp only [if_neg e] at hx
      by_cases e' : i' = n
      · simp only [if_pos e'] at hx'
        have := h.z i (by omega) x hx; omega
      · simp only [if_neg e'] at hx'
        exact h.dis i i' (by omega) (by omega) hne x hx hx'
theorem Tl.ps {lo : Nat} {wr : World} {v : Value} {n : Nat} {A : Nat → Option Addr} {C : Nat → Nat} {p m : Nat → Nat → Int} {ZB : Nat → Prop} {Z : Nat → Nat → Prop} (h : Tl lo wr v n A C p m ZB Z) (hn : n ≤ 1048576) :
    ∃ ao cap, v = .slice ao n cap ∧ PSOwn (fun x => lo ≤ x ∧ x < wr.heap.size) wr ao ⟨n, fun _ => 4, p, m⟩ := by
  obtain ⟨ao, cap, e, h1⟩ := h.buf.form
  refine ⟨ao, cap, e, by show n ≤ _; omega, fun h0 => ?_⟩
  obtain ⟨g, hg, ea, hr⟩ := h1 h0
  rw [Nat.mul_one] at hr
  refine ⟨g, A, C, Z, ea, ⟨hr, h.own, fun i hi x hx => ?_, h.dis, h.zb g hg⟩⟩
  have := h.z i hi x hx
  exact ⟨this.1, fun e => this.2 (by rw [e]; exact hg)⟩
theorem Tl.congr {lo : Nat} {wr : World} {v : Value} {n : Nat} {A : Nat → Option Addr} {C : Nat → Nat} {p m p' m' : Nat → Nat → Int} {ZB : Nat → Prop} {Z : Nat → Nat → Prop} (h : Tl lo wr v n A C p m ZB Z) (hp : ∀ i, i < n → ∀ j, j < 4 → p i j = p' i j ∧ m i j = m' i j) : Tl lo wr v n A C p' m' ZB Z :=
  ⟨h.buf, fun i hi => (h.own i hi).congr (fun j hj => hp i hi j hj), h.zb, h.z, h.dis⟩
end Go.Proofs.Ytbpdopcdhnemfaa
/- New tables: the program's and the model's. -/
namespace Go.Proofs.Ytbpdopcdhnemfaa
open Go.RowKit
set_option linter.unusedSimpArgs false
set_option linter.unusedVariables false
abbrev zz : Nat → Nat → Int := fun _ _ => 0
abbrev newB (k : Int) : BD := ⟨4, fun _ => -1, ⟨k.toNat, fun _ => 4, zz, zz⟩⟩
theorem lc_zero {w : World} {z n : Nat} (h : Row w z n (fun _ => .int .i64 0)) : Row w z n (lc zz zz) := h.congr (fun i hi => by unfold lc zz; split <;> rfl)
theorem zrow_5 {w : World} {z : Nat} {v : Value} (h : Row w z 5 (zrow v)) : Row w z 5 (row5f (fun _ => 0) v) := h.congr (fun i hi => by
    match i, hi with
    | 0, _ => rfl
    | 1, _ => rfl
    | 2, _ => rfl
    | 3, _ => rfl
    | 4, _ => rfl)
set_option maxRecDepth 10000 in
set_option maxHeartbeats 3200000 in
theorem emptyTable_any (kn : Nat) (w : World) (hk1 : 1 ≤ kn) (hk4 : kn ≤ 4) :
    Calls Try.prog 185 #[.int .i64 kn] w fun e w' => ∃ z, e = .returned (.agg (held5 (fun _ => -1) z kn)) ∧ Row w' z (kn * 8) (lc zz zz) ∧ w.heap.size ≤ z ∧ Blw w w' := by
  have hb0 : Blw w (w.alloc (.cells zero5 136)) := (Blw.refl _).alloc _
  have r0 := zrow5 w (.slice none 0 0) 136
  have hsz : (w.alloc (.cells zero5 136)).heap.size = w.heap.size + 1 := by simp
  go_enter Try.func185, Try.ntmps185
  have hmk := mk8 kn hk4
  go_upto_region 1 with fail
  revert hb0 r0 hsz
  generalize (w.alloc (.cells zero5 136)) = w0
  intro hb0 r0 hsz
  have HB0 : Hid (Blw w w0) := hb0
  have HR0 : Hid (Row w0 w.heap.size 5 (zrow (.slice none 0 0))) := r0
  have HSZ : Hid (w0.heap.size = w.heap.size + 1) := hsz
  clear hb0 r0 hsz
  go_wp2_with fail
  clear hmk
  have h1 : Blw w0 (w0.alloc (.cells (madeCells #[.int .i64 0, .int .i64 0, .int .i64 0, .int .i64 0, .int .i64 0, .int .i64 0, .int .i64 0, .int .i64 0] (kn * 8)) 202)) := (Blw.refl _).alloc _
  have rl := lc_zero (Row.made8 w0 (.int .i64 0) (kn * 8) 202)
  have h2 : Blw (w0.alloc (.cells (madeCells #[.int .i64 0, .int .i64 0, .int .i64 0, .int .i64 0, .int .i64 0, .int .i64 0, .int .i64 0, .int .i64 0] (kn * 8)) 202)) ((w0.alloc (.cells (madeCells #[.int .i64 0, .int .i64 0, .int .i64 0, .int .i64 0, .int .i64 0, .int .i64 0, .int .i64 0, .int .i64 0] (kn * 8)) 202)).alloc (.cells #[.int .i64 0, .int .i64 0, .int .i64 0, .int .i64 0, .slice (some ⟨w0.heap.size, 0, none⟩) kn kn] 136)) := (Blw.refl _).alloc _
  have rb := zrow_5 (zrow5 (w0.alloc (.cells (madeCells #[.int .i64 0, .int .i64 0, .int .i64 0, .int .i64 0, .int .i64 0, .int .i64 0, .int .i64 0, .int .i64 0] (kn * 8)) 202)) (.slice (some ⟨w0.heap.size, 0, none⟩) kn kn) 136)
  rw [World.size_alloc] at rb
  replace rl := rl.blw h2
  have hB := HB0.out.trans (h1.trans h2)
  have hR := HR0.out.blw (h1.trans h2)
  have hsz : ((w0.alloc (.cells (madeCells #[.int .i64 0, .int .i64 0, .int .i64 0, .int .i64 0, .int .i64 0, .int .i64 0, .int .i64 0, .int .i64 0] (kn * 8)) 202)).alloc (.cells #[.int .i64 0, .int .i64 0, .int .i64 0, .int .i64 0, .slice (some ⟨w0.heap.size, 0, none⟩) kn kn] 136)).heap.size = w0.heap.size + 1 + 1 := by simp
  clear h1 h2 HB0 HR0
  revert rl rb hB hR hsz
  generalize ((w0.alloc (.cells (madeCells #[.int .i64 0, .int .i64 0, .int .i64 0, .int .i64 0, .int .i64 0, .int .i64 0, .int .i64 0, .int .i64 0] (kn * 8)) 202)).alloc (.cells #[.int .i64 0, .int .i64 0, .int .i64 0, .int .i64 0, .slice (some ⟨w0.heap.size, 0, none⟩) kn kn] 136)) = w1
  have HZ0 : Hid (w.heap.size + 1 ≤ w0.heap.size) := by show _ ≤ _; rw [HSZ.out]; omega
  clear HSZ
  generalize w0.heap.size = z0 at *
  intro rb rl hB hR hsz
  refine (fill_any (z0 + 1) (fun _ => 0) _ (-1) w1 rb).mono ?_
  rintro e w2 ⟨rfl, rb2, hm⟩
  have hz0 := HZ0.out
  replace rl := rl.mod hm (by omega)
  replace hR := hR.mod hm (by omega)
  replace hB := Mod.blw hB hm (fun i hi => by omega)
  obtain ⟨p0, p1, p2, p3, p4⟩ := get5 rb2
  obtain ⟨t0, t1, t2, t3, t4⟩ := zget hR
  have f0 := hR.frozen 0; have f1 := hR.frozen 1; have f2 := hR.frozen 2; have f3 := hR.frozen 3; have f4 := hR.frozen 4
  have HL : Hid (Row w2 z0 (kn * 8) (lc zz zz)) := rl
  have HBF : Hid (Blw w w2) := hB
  clear rb rb2 hm hz0 hR rl hB
  go_wp2
  refine bodyPost_ret (v := .agg (held5 (fun _ => -1) z0 kn)) (by simp [results, Try.results185, go_sem, t0, t1, t2, t3, t4]) rfl ?_
  have hz := HZ0.out
  exact ⟨z0, rfl, ((((HL.out.setOther (a := ⟨w.heap.size, 0, none⟩) (by show z0 ≠ w.heap.size; omega) _).setOther (a := ⟨w.heap.size, 1, none⟩) (by show z0 ≠ w.heap.size; omega) _).setOther (a := ⟨w.heap.size, 2, none⟩) (by show z0 ≠ w.heap.size; omega) _).setOther (a := ⟨w.heap.size, 3, none⟩) (by show z0 ≠ w.heap.size; omega) _).setOther (a := ⟨w.heap.size, 4, none⟩) (by show z0 ≠ w.heap.size; omega) _, by omega, set5_blw HBF.out (Nat.le_refl _) _ _ _ _ _⟩
set_option maxRecDepth 10000 in
set_option maxHeartbeats 3200000 in
theorem implNew_any (k : Int) (w : World) : Calls Try.prog 144 #[.int .i64 k] w (GivesB (resT (cntOK k) (newB k)) w) := by
  have hb0 : Blw w (w.alloc (.cells #[.slice none 0 0, .slice none 0 0] 29)) := (Blw.refl _).alloc _
  have r0 := box2 w (.slice none 0 0) (.slice none 0 0) 29
  have hsz : (w.alloc (.cells #[.slice none 0 0, .slice none 0 0] 29)).heap.size = w.heap.size + 1 := by simp
  go_enter Try.func144, Try.ntmps144
  go_wp2_with fail
  revert hb0 r0 hsz
  generalize (w.alloc (.cells #[.slice none 0 0, .slice none 0 0] 29)) = w0
  intro hb0 r0 hsz
  refine (isCnt_any k _).mono ?_
  rintro e w0 ⟨r, rfl, hr, rfl⟩
  have HT : Hid (r = true ↔ cntOK k) := hr
  clear hr
  obtain ⟨t0, t1⟩ := get2 r0
  have f0 := r0.frozen 0
  have f1 := r0.frozen 1
  cases r
  · have HN : Hid (¬ cntOK k) := fun g => by have := HT.out.2 g; simp at this
    clear HT r0
    go_wp2
    exact bodyPost_ret (v := .tuple #[BV.zero.val BD.zero, .bool false]) (by simp [results, Try.results144, go_sem, t0, t1]) rfl (zero_givesT (z := w.heap.size) (Nat.le_refl _) (Or.inr ⟨HN.out, rfl, rfl⟩) hb0)
  have hc : cntOK k := HT.out.1 (by first | rfl | trivial)
  clear HT t0 t1 f0 f1
  obtain ⟨kn, hk, hk1, hk4⟩ : ∃ kn : Nat, k = kn ∧ 1 ≤ kn ∧ kn ≤ 4 := ⟨k.toNat, by unfold cntOK at hc; omega, by unfold cntOK at hc; omega, by unfold cntOK at hc; omega⟩
  subst hk
  have HC : Hid (cntOK (kn : Int)) := hc
  have HB0 : Hid (Blw w w0) := hb0
  have HR0 : Hid (Row w0 w.heap.size 2 (fun i => if i = 0 then .slice none 0 0 else .slice none 0 0)) := r0
  have HSZ : Hid (w0.heap.size = w.heap.size + 1) := hsz
  clear hc hb0 r0 hsz
  go_wp2_with fail
  refine (emptyTable_any kn _ hk1 hk4).mono ?_
  rintro e w2 ⟨z0, rfl, rl, hz0, hb2⟩
  replace HR0 : Hid (Row w2 w.heap.size 2 (fun i => if i = 0 then .slice none 0 0 else .slice none 0 0)) := HR0.out.blw hb2
  have HZ : Hid (w.heap.size + 1 ≤ w2.heap.size) := by have h1 := hb2.size; have h2 := HSZ.out; show _ ≤ _; omega
  replace HB0 : Hid (Blw w w2) := HB0.out.trans hb2
  clear hb2 hz0 HSZ
  go_wp2_with fail
  refine (giveOut_any (fun _ => -1) z0 kn zz zz w2 hk4 rl).mono ?_
  rintro e w3 ⟨b, rfl, own, hb3⟩
  have FIN : Hid _ := fin_givesT (out := resT (cntOK (kn : Int)) (newB (kn : Int))) (w := w) (W := w3) (z := w.heap.size) (b := b) (R := newB (kn : Int)) (Nat.le_refl _) (Or.inl ⟨HC.out, rfl, rfl⟩) (tot4 (c := fun _ => -1) (p := zz) (m := zz) hk4) (HB0.out.trans hb3) own (fun x hx => ⟨by have := HZ.out; omega, by have := HZ.out; omega, hx.2⟩)
  have hR := HR0.out.blw hb3
  obtain ⟨t0, t1⟩ := get2 hR
  have f0 := hR.frozen 0
  have f1 := hR.frozen 1
  clear own hb3 rl HB0 hR HR0 HZ
  go_wp2
  exact bodyPost_ret (v := .tuple #[b.val (newB (kn : Int)), .bool true]) (by simp [results, Try.results144, go_sem, t0, t1]) rfl FIN.out
end Go.Proofs.Ytbpdopcdhnemfaa
/- The first list at no top: the program's. -/
namespace Go.Proofs.Ytbpdopcdhnemfaa
open Go.RowKit
set_option linter.unusedSimpArgs false
set_option linter.unusedVariables false
set_option maxHeartbeats 1600000 in
theorem index_any (ao : Option Addr) (c0 n : Nat) (f : Nat → Int) (x : Int) (Y : Nat → Prop) (w : World) (h : IntsAt Y w ao n f) :
    Calls Try.prog 213 #[.slice ao n c0, .int .i64 x] w fun e w' => ∃ r : Int, e = .returned (.int .i64 r) ∧ (0 ≤ r ↔ hasLine n f x) ∧ w' = w := by
  have hn := h.1
  have H : Hid (IntsAt Y w ao n f) := h
  clear h
  go_enter Try.func213, Try.ntmps213
  go_wp2_with fail
  go_loopw [8] (fun i wr => ∃ j : Nat, j ≤ n ∧ i = .int .i64 j ∧ (∀ t, t < j → ¬ f t = x) ∧ wr = w) (fun i _ => n - (intOf i).toNat)
  case atStart => exact ⟨0, Nat.zero_le _, rfl, fun t ht => absurd ht (Nat.not_lt_zero _), rfl⟩
  case round =>
    obtain ⟨j, hj, rfl, hno, rfl⟩ := hrel
    have HO : Hid (∀ t, t < j → ¬ f t = x) := hno
    clear hno
    by_cases hlt : j < n
    · obtain ⟨b, o, e, -, q0⟩ := H.out.2 j hlt
      subst e
      by_cases hx : f j = x
      · have HN : Hid (0 ≤ (j : Int) ↔ hasLine n f x) := ⟨fun _ => ⟨j, hlt, hx⟩, fun _ => by omega⟩
        have d1 : (x == f j) = true := by simp [hx]
        clear hx HO
        go_wp2
        go_ret
        exact ⟨_, rfl, HN.out, rfl⟩
      · have d1 : (x == f j) = false := by simp; exact fun e => hx e.symm
        have HN : Hid (∀ t, t < j + 1 → ¬ f t = x) := fun t ht => by
          by_cases e : t = j
          · subst e; exact hx
          · exact HO.out t (by omega)
        clear hx HO
        go_wp2
        go_roundw
        case rel => exact ⟨j + 1, by omega, by go_num, HN.out, by first | trivial | rfl⟩
        case measure => simp [intOf]; omega
    · obtain rfl : j = n := by omega
      have HN : Hid (0 ≤ (-1 : Int) ↔ hasLine j f x) := ⟨fun h => by omega, fun ⟨t, ht, e⟩ => absurd e (HO.out t ht)⟩
      clear HO
      go_wp2
      go_ret
      exact ⟨_, rfl, HN.out, rfl⟩
set_option maxHeartbeats 800000 in
theorem contains_any (ao : Option Addr) (c0 n : Nat) (f : Nat → Int) (x : Int) (Y : Nat → Prop) (w : World) (h : IntsAt Y w ao n f) :
    Calls Try.prog 212 #[.slice ao n c0, .int .i64 x] w fun e w' => ∃ r, e = .returned (.bool r) ∧ (r = true ↔ hasLine n f x) ∧ w' = w := by
  have H : Hid (IntsAt Y w ao n f) := h
  clear h
  go_enter Try.func212, Try.ntmps212
  go_wp2_with fail
  refine (index_any ao c0 n f x Y _ H.out).mono ?_
  rintro e w1 ⟨r, rfl, hr, rfl⟩
  have HR : Hid (decide (r ≥ 0) = true ↔ hasLine n f x) := by rw [decide_eq_true_iff]; exact hr
  clear hr H
  go_wp2
  go_ret
  exact ⟨_, rfl, HR.out, rfl⟩
/-- The first list that stands at no top. -/
def isIdle (c : Nat → Int) (kn q : Nat) : Prop := q < kn ∧ ¬ hasLine 4 c (q : Int) ∧ ∀ k, k < q → hasLine 4 c (k : Int)
theorem idle_uniq {c : Nat → Int} {kn q q' : Nat} (h : isIdle c kn q) (h' : isIdle c kn q') : q = q' := by
  rcases Nat.lt_trichotomy q q' with e | e | e
  · exact absurd (h'.2.2 q e) h.2.1
  · exact e
  · exact absurd (h.2.2 q' e) h'.2.1
theorem no_idle {c : Nat → Int} {kn : Nat} (h : ∀ k, k < kn → hasLine 4 c (k : Int)) : ¬ ∃ q, isIdle c kn q := fun ⟨q, h1, h2, _⟩ => h2 (h q h1)
set_option maxRecDepth 10000 in
set_option maxHeartbeats 1600000 in
theorem idle_any (c : Nat → Int) (zl kn : Nat) (w : World) (hk : kn ≤ 4) :
    Calls Try.prog 211 #[.agg (held5 c zl kn)] w fun e w' => (∃ q : Nat, isIdle c kn q ∧ e = .returned (.tuple #[.int .i64 q, .bool true]) ∨ (¬ ∃ q, isIdle c kn q) ∧ e = .returned (.tuple #[.int .i64 0, .bool false])) ∧ Blw w w' := by
  have hA : Blw w (w.alloc (.cells (held5 c zl kn) 136)) := (Blw.refl _).alloc _
  have hr5 : Row (w.alloc (.cells (held5 c zl kn) 136)) w.heap.size 5 (row5f c (.slice (some ⟨zl, 0, none⟩) kn kn)) := row5 w (.int .i64 (c 0)) (.int .i64 (c 1)) (.int .i64 (c 2)) (.int .i64 (c 3)) (.slice (some ⟨zl, 0, none⟩) kn kn) 136
  go_enter Try.func211, Try.ntmps211
  obtain ⟨p0, p1, p2, p3, p4⟩ := get5 hr5
  go_wp2_with fail
  clear p0 p1 p2 p3 p4
  have HA : Hid (Blw w (w.alloc (.cells (held5 c zl kn) 136))) := hA
  have H5 : Hid (Row (w.alloc (.cells (held5 c zl kn) 136)) w.heap.size 5 (row5f c (.slice (some ⟨zl, 0, none⟩) kn kn))) := hr5
  have HI : Hid (IntsAt (fun x => x = w.heap.size) (w.alloc (.cells (held5 c zl kn) 136)) (some ⟨w.heap.size, 0, none⟩) 4 c) := ⟨by omega, fun i hi => ⟨_, 0, rfl, rfl, by rw [Nat.zero_add]; exact row5_top hr5 hi⟩⟩
  clear hA hr5
  generalize w.alloc (.cells (held5 c zl kn) 136) = w0 at *
  go_loopw [8] (fun i wr => ∃ j : Nat, j ≤ kn ∧ i = .int .i64 j ∧ (∀ k, k < j → hasLine 4 c (k : Int)) ∧ wr = w0) (fun i _ => kn - (intOf i).toNat)
  case atStart => exact ⟨0, Nat.zero_le _, rfl, fun t ht => absurd ht (Nat.not_lt_zero _), rfl⟩
  case round =>
    obtain ⟨j, hj, rfl, hno, rfl⟩ := hrel
    have HO : Hid (∀ k, k < j → hasLine 4 c (k : Int)) := hno
    clear hno
    by_cases hlt : j < kn
    · have hlt' : (j : Int) < (kn : Int) := by omega
      go_wp2_with fail
      refine (contains_any _ 4 4 c (j : Int) _ _ HI.out).mono ?_
      rintro e w1 ⟨r, rfl, hr, rfl⟩
      have HR : Hid (r = true ↔ hasLine 4 c (j : Int)) := hr
      clear hr
      cases r
      · have HN : Hid (isIdle c kn j) := ⟨hlt, fun g => by have := HR.out.2 g; simp at this, HO.out⟩
        clear HR HO
        go_wp2
        exact bodyPost_ret (v := .tuple #[.int .i64 (j : Int), .bool true]) (by simp [results, Try.results211, go_sem]) rfl ⟨⟨j, Or.inl ⟨HN.out, rfl⟩⟩, HA.out⟩
      · have HN : Hid (∀ k, k < j + 1 → hasLine 4 c (k : Int)) := fun k hk => by
          by_cases e : k = j
          · subst e; exact HR.out.1 (by first | rfl | trivial)
          · exact HO.out k (by omega)
        clear HR HO
        go_wp2
        go_roundw
        case rel => exact ⟨j + 1, by omega, by go_num, HN.out, by first | trivial | rfl⟩
        case measure => simp [intOf]; omega
    · obtain rfl : j = kn := by omega
      have HN : Hid (¬ ∃ q, isIdle c j q) := no_idle HO.out
      clear HO
      go_wp2
      exact bodyPost_ret (v := .tuple #[.int .i64 0, .bool false]) (by simp [results, Try.results211, go_sem]) rfl ⟨⟨0, Or.inr ⟨HN.out, rfl⟩⟩, HA.out⟩
end Go.Proofs.Ytbpdopcdhnemfaa
