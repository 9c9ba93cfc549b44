/- The program's test of tops. -/
import Derived.Test.YtjplodenflkghaaImplB
namespace Go.Proofs.Ytjplodenflkghaa
open Go.RowKit
set_option linter.unusedSimpArgs false
set_option linter.unusedVariables false
def isZero8 (f g : Nat → Int) : Prop := ∀ j, j < 4 → f j = 0 ∧ g j = 0
/-- How often a list stands at one of the first j tops. -/
def cn (c : Nat → Int) : Nat → Nat → Int
  | 0, _ => 0
  | j + 1, k => cn c j k + (if c j = (k : Int) then 1 else 0)
theorem cn_nonneg (c : Nat → Int) (k : Nat) : ∀ j, 0 ≤ cn c j k ∧ cn c j k ≤ j
  | 0 => by simp [cn]
  | j + 1 => by have := cn_nonneg c k j; simp only [cn]; split <;> omega
theorem cn_zero (c : Nat → Int) (k : Nat) : ∀ j, (cn c j k = 0 ↔ ¬ hasLine j c (k : Int))
  | 0 => by simp only [cn]; exact ⟨fun _ ⟨t, ht, _⟩ => absurd ht (Nat.not_lt_zero _), fun _ => trivial⟩
  | j + 1 => by
    have h1 := cn_zero c k j
    have h2 := (cn_nonneg c k j).1
    simp only [cn]
    by_cases e : c j = (k : Int)
    · rw [if_pos e]
      exact ⟨fun q => by omega, fun q => absurd ⟨j, by omega, e⟩ q⟩
    · rw [if_neg e]
      refine ⟨fun q ⟨t, ht, et⟩ => ?_, fun q => ?_⟩
      · by_cases e2 : t = j
        · subst e2; exact e et
        · exact h1.1 (by omega) ⟨t, by omega, et⟩
      · have := h1.2 (fun ⟨t, ht, et⟩ => q ⟨t, by omega, et⟩); omega
abbrev four (c : Nat → Int) : Array Value := #[.int .i64 (c 0), .int .i64 (c 1), .int .i64 (c 2), .int .i64 (c 3)]
theorem index4 (c : Nat → Int) (k : Nat) (hk : k < 4) (w : World) : (Instr.index 126 (.agg (four c)) (.int .i64 (k : Int))).run Try.prog w = .ok (.int .i64 (c k)) w := by
  match k, hk with
  | 0, _ => exact (show (Instr.index 126 (.agg (four c)) (.int .i64 0)).run Try.prog w = .ok (.int .i64 (c 0)) w by kernel_rfl)
  | 1, _ => exact (show (Instr.index 126 (.agg (four c)) (.int .i64 1)).run Try.prog w = .ok (.int .i64 (c 1)) w by kernel_rfl)
  | 2, _ => exact (show (Instr.index 126 (.agg (four c)) (.int .i64 2)).run Try.prog w = .ok (.int .i64 (c 2)) w by kernel_rfl)
  | 3, _ => exact (show (Instr.index 126 (.agg (four c)) (.int .i64 3)).run Try.prog w = .ok (.int .i64 (c 3)) w by kernel_rfl)
/-- The cells of a held table's lists. -/
def lc (p m : Nat → Nat → Int) : Nat → Value := fun i => if i % 2 = 0 then .int .i64 (p (i / 8) (i % 8 / 2)) else .int .i64 (m (i / 8) (i % 8 / 2))
theorem lc8 {w : World} {z n : Nat} {p m : Nat → Nat → Int} (r : Row w z (n * 8) (lc p m)) {k : Nat} (hk : k < n) :
    w.cell? ⟨z, k * 8, none⟩ = some (.int .i64 (p k 0)) ∧ w.cell? ⟨z, k * 8 + 1, none⟩ = some (.int .i64 (m k 0)) ∧ w.cell? ⟨z, k * 8 + 2, none⟩ = some (.int .i64 (p k 1)) ∧ w.cell? ⟨z, k * 8 + 3, none⟩ = some (.int .i64 (m k 1)) ∧
    w.cell? ⟨z, k * 8 + 4, none⟩ = some (.int .i64 (p k 2)) ∧ w.cell? ⟨z, k * 8 + 5, none⟩ = some (.int .i64 (m k 2)) ∧ w.cell? ⟨z, k * 8 + 6, none⟩ = some (.int .i64 (p k 3)) ∧ w.cell? ⟨z, k * 8 + 7, none⟩ = some (.int .i64 (m k 3)) := by
  have hh : ∀ t, t < 8 → w.cell? ⟨z, k * 8 + t, none⟩ = some (lc p m (k * 8 + t)) := fun t ht => r.cell (by omega)
  have ev : ∀ t, t < 8 → lc p m (k * 8 + t) = if t % 2 = 0 then .int .i64 (p k (t / 2)) else .int .i64 (m k (t / 2)) := fun t ht => by
    unfold lc
    rw [show (k * 8 + t) / 8 = k by omega, show (k * 8 + t) % 8 = t by omega, show (k * 8 + t) % 2 = t % 2 by omega]
  have h0 := hh 0 (by omega); have h1 := hh 1 (by omega); have h2 := hh 2 (by omega); have h3 := hh 3 (by omega)
  have h4 := hh 4 (by omega); have h5 := hh 5 (by omega); have h6 := hh 6 (by omega); have h7 := hh 7 (by omega)
  rw [ev 0 (by omega)] at h0; rw [ev 1 (by omega)] at h1; rw [ev 2 (by omega)] at h2; rw [ev 3 (by omega)] at h3
  rw [ev 4 (by omega)] at h4; rw [ev 5 (by omega)] at h5; rw [ev 6 (by omega)] at h6; rw [ev 7 (by omega)] at h7
  exact ⟨h0, h1, h2, h3, h4, h5, h6, h7⟩
theorem row5 (w : World) (a b c d e : Value) (t : TypeId) : Row (w.alloc (.cells #[a, b, c, d, e] t)) w.heap.size 5 (fun i => if i = 0 then a else if i = 1 then b else if i = 2 then c else if i = 3 then d else e) :=
  ⟨_, t, heap_alloc_new _ _, by simp, fun i hi => by
    match i, hi with
    | 0, _ => rfl
    | 1, _ => rfl
    | 2, _ => rfl
    | 3, _ => rfl
    | 4, _ => rfl⟩
theorem get5 {w : World} {B : Nat} {a b c d e : Value} (r : Row w B 5 (fun i => if i = 0 then a else if i = 1 then b else if i = 2 then c else if i = 3 then d else e)) : w.cell? ⟨B, 0, none⟩ = some a ∧ w.cell? ⟨B, 1, none⟩ = some b ∧ w.cell? ⟨B, 2, none⟩ = some c ∧ w.cell? ⟨B, 3, none⟩ = some d ∧ w.cell? ⟨B, 4, none⟩ = some e :=
  ⟨r.cell (i := 0) (by omega), r.cell (i := 1) (by omega), r.cell (i := 2) (by omega), r.cell (i := 3) (by omega), r.cell (i := 4) (by omega)⟩
theorem row_zero4 (w : World) (t : TypeId) : Row (w.alloc (.cells #[.int .i64 0, .int .i64 0, .int .i64 0, .int .i64 0] t)) w.heap.size 4 (fun _ => .int .i64 0) :=
  ⟨_, t, heap_alloc_new _ _, by simp, fun i hi => by
    match i, hi with
    | 0, _ => rfl
    | 1, _ => rfl
    | 2, _ => rfl
    | 3, _ => rfl⟩
abbrev held5 (c : Nat → Int) (zl kn : Nat) : Array Value := #[.int .i64 (c 0), .int .i64 (c 1), .int .i64 (c 2), .int .i64 (c 3), .slice (some ⟨zl, 0, none⟩) kn kn]
abbrev row5f (c : Nat → Int) (v : Value) : Nat → Value := fun i => if i = 0 then .int .i64 (c 0) else if i = 1 then .int .i64 (c 1) else if i = 2 then .int .i64 (c 2) else if i = 3 then .int .i64 (c 3) else v
def topIs (c : Nat → Int) (kn i : Nat) : Prop := (-1 ≤ c i ∧ c i ≤ (kn : Int) - 1) ∧ (0 ≤ c i → ¬ hasLine i c (c i))
def idleIs (c : Nat → Int) (p m : Nat → Nat → Int) (k : Nat) : Prop := ¬ hasLine 4 c (k : Int) → isZero8 (p k) (m k)
def swOK (c : Nat → Int) (kn : Nat) (p m : Nat → Nat → Int) : Prop := (∀ i, i < 4 → topIs c kn i) ∧ ∀ k, k < kn → idleIs c p m k
set_option maxRecDepth 10000 in
set_option maxHeartbeats 6400000 in
theorem standWell_of (HNS : Hid (∀ f g : Nat → Int, isZero8 f g → ∀ w, (binOp .neq 186 (.agg (eight f g)) (.agg (eight zf zf))).run Try.prog w = .ok (.bool false) w)) (HNO : Hid (∀ f g : Nat → Int, ¬ isZero8 f g → ∀ w, (binOp .neq 186 (.agg (eight f g)) (.agg (eight zf zf))).run Try.prog w = .ok (.bool true) w)) (c : Nat → Int) (zl kn : Nat) (p m : Nat → Nat → Int) (w : World) (hkn : kn ≤ 4) (h : Row w zl (kn * 8) (lc p m)) :
    Calls Try.prog 160 #[.agg (held5 c zl kn)] w fun e w' => ∃ r, e = .returned (.bool r) ∧ (r = true ↔ swOK c kn p m) ∧ Blw w w' := by
  have hb0 : Blw w ((w.alloc (.cells (held5 c zl kn) 129)).alloc (.cells #[.int .i64 0, .int .i64 0, .int .i64 0, .int .i64 0] 126)) := ((Blw.refl _).alloc _).alloc _
  have rB := (row5 w (.int .i64 (c 0)) (.int .i64 (c 1)) (.int .i64 (c 2)) (.int .i64 (c 3)) (.slice (some ⟨zl, 0, none⟩) kn kn) 129).blw ((Blw.refl _).alloc (.cells #[.int .i64 0, .int .i64 0, .int .i64 0, .int .i64 0] 126))
  have rC := row_zero4 (w.alloc (.cells (held5 c zl kn) 129)) 126
  rw [World.size_alloc] at rC
  have H : Hid (Row ((w.alloc (.cells (held5 c zl kn) 129)).alloc (.cells #[.int .i64 0, .int .i64 0, .int .i64 0, .int .i64 0] 126)) zl (kn * 8) (lc p m)) := h.blw hb0
  have hzl := h.lt
  clear h
  obtain ⟨p0, p1, p2, p3, p4⟩ := get5 rB
  go_enter Try.func160, Try.ntmps160
  go_wp2_with fail
  clear p0 p1 p2 p3 p4
  revert hb0 rB rC H
  generalize (w.alloc (.cells (held5 c zl kn) 129)).alloc (.cells #[.int .i64 0, .int .i64 0, .int .i64 0, .int .i64 0] 126) = w0
  intro hb0 rB rC H
  have HB0 : Hid (Blw w w0) := hb0
  have HRB : Hid (Row w0 w.heap.size 5 (row5f c (.slice (some ⟨zl, 0, none⟩) kn kn))) := rB
  have HRC : Hid (Row w0 (w.heap.size + 1) 4 (fun k => .int .i64 (cn c 0 k))) := rC
  clear hb0 rB rC
  go_loopw [10] (fun i wr => ∃ j : Nat, j ≤ 4 ∧ i = .int .i64 j ∧ (∀ i, i < j → topIs c kn i) ∧ Row wr (w.heap.size + 1) 4 (fun k => .int .i64 (cn c j k)) ∧ Mod (fun x => x = w.heap.size + 1) w0 wr) (fun i _ => 4 - (intOf i).toNat)
  case atStart => exact ⟨0, Nat.zero_le _, rfl, fun t ht => absurd ht (Nat.not_lt_zero _), HRC.out, Mod.refl _ _⟩
  case round =>
    obtain ⟨j, hj, rfl, hok, hrc, hm⟩ := hrel
    have HO : Hid (∀ i, i < j → topIs c kn i) := hok
    have HM : Hid (Mod (fun x => x = w.heap.size + 1) w0 wr) := hm
    have HRW : Hid (Row wr (w.heap.size + 1) 4 (fun k => .int .i64 (cn c j k))) := hrc
    have HBW : Hid (Blw w wr) := Mod.blw HB0.out hm (fun i hi => by omega)
    clear hok hm hrc HRC
    by_cases hlt : j < 4
    · have hlt' : (j : Int) < 4 := by omega
      have hix := index4 c j hlt
      by_cases h1 : c j = -1
      · have d1 : (c j == -1) = true := by simp [h1]
        have HN : Hid (∀ i, i < j + 1 → topIs c kn i) := fun i hi => by
          by_cases e : i = j
          · subst e; exact ⟨by omega, fun q => by omega⟩
          · exact HO.out i (by omega)
        have HRN : Hid (Row wr (w.heap.size + 1) 4 (fun k => .int .i64 (cn c (j + 1) k))) := HRW.out.congr (fun k hk => by simp only [cn]; rw [if_neg (by omega)]; simp)
        clear h1 HO HRW
        go_wp2
        go_roundw
        case rel => exact ⟨j + 1, by omega, by go_num, HN.out, HRN.out, HM.out⟩
        case measure => simp [intOf]; omega
      have d1 : (c j == -1) = false := by simp [h1]
      obtain ⟨p0, p1, p2, p3, p4⟩ := get5 (HRB.out.mod HM.out (by omega))
      by_cases h2 : c j < 0
      · have HN : Hid (¬ swOK c kn p m) := fun g => by have := (g.1 j hlt).1; omega
        clear h1 HO HRW
        go_wp2
        go_ret
        exact ⟨false, rfl, iff_f HN.out, HBW.out⟩
      obtain ⟨q, hq⟩ : ∃ q : Nat, c j = q := ⟨(c j).toNat, by omega⟩
      by_cases h3 : q < kn
      case neg =>
        have HN : Hid (¬ swOK c kn p m) := fun g => by have := (g.1 j hlt).1; omega
        have h3' : (kn : Int) ≤ (q : Int) := by omega
        rw [hq] at hix d1
        clear h1 h2 HO HRW
        go_wp2
        go_ret
        exact ⟨false, rfl, iff_f HN.out, HBW.out⟩
      have h3' : (q : Int) < (kn : Int) := by omega
      have hq4 : q < 4 := by omega
      have hq4' : (q : Int) < 4 := by omega
      have g0 : wr.cell? ⟨w.heap.size + 1, q, none⟩ = some (.int .i64 (cn c j q)) := HRW.out.cell hq4
      have gf := HRW.out.frozen q
      have hcz := cn_zero c q j
      obtain ⟨hc0, hc1⟩ := cn_nonneg c q j
      have HQ : Hid (c j = (q : Int)) := hq
      rw [hq] at hix d1
      by_cases h4 : cn c j q = 0
      · have HN : Hid (∀ i, i < j + 1 → topIs c kn i) := fun i hi => by
          by_cases e : i = j
          · subst e; exact ⟨by omega, fun _ => by rw [HQ.out]; exact hcz.1 h4⟩
          · exact HO.out i (by omega)
        have HRN : Hid (Row (wr.setCell ⟨w.heap.size + 1, q, none⟩ (.int .i64 (0 + 1))) (w.heap.size + 1) 4 (fun k => .int .i64 (cn c (j + 1) k))) := (HRW.out.set q _).congr (fun k hk => by
          simp only [cn]
          by_cases e : k = q
          · subst e; rw [if_pos rfl, if_pos HQ.out, h4]
          · rw [if_neg e, if_neg (by rw [HQ.out]; omega)]; simp)
        have HMN : Hid (Mod (fun x => x = w.heap.size + 1) w0 (wr.setCell ⟨w.heap.size + 1, q, none⟩ (.int .i64 (0 + 1)))) := HM.out.trans (Mod.setCell (X := fun x => x = w.heap.size + 1) _ (p := ⟨w.heap.size + 1, q, none⟩) rfl _)
        rw [h4] at g0
        clear h1 h2 hq HO HRW hcz hc0 hc1 h4
        go_wp2
        go_roundw
        case rel => exact ⟨j + 1, by omega, by go_num, HN.out, HRN.out, HMN.out⟩
        case measure => simp [intOf]; omega
      · have HN : Hid (¬ swOK c kn p m) := fun g => h4 (hcz.2 (by have := (g.1 j hlt).2 (by omega); rw [HQ.out] at this; exact this))
        have d4 : decide (cn c j q > 0) = true := by simp; omega
        clear h1 h2 hq HO HRW hcz hc0 hc1 h4
        go_wp2
        go_ret
        exact ⟨false, rfl, iff_f HN.out, HBW.out⟩
    · obtain rfl : j = 4 := by omega
      have HT : Hid (∀ i, i < 4 → topIs c kn i) := HO.out
      obtain ⟨p0, p1, p2, p3, p4⟩ := get5 (HRB.out.mod HM.out (by omega))
      replace H : Hid (Row wr zl (kn * 8) (lc p m)) := H.out.mod HM.out (by omega)
      go_wp2_with fail
      clear p0 p1 p2 p3 p4 HO HM HRB hlt HB0
      generalize wr = wM at *
      go_loopw [39] (fun i wq => ∃ s : Nat, s ≤ kn ∧ i = .int .i64 s ∧ (∀ i, i < s → idleIs c p m i) ∧ Blw wM wq) (fun i _ => kn - (intOf i).toNat)
      case atStart => exact ⟨0, Nat.zero_le _, rfl, fun t ht => absurd ht (Nat.not_lt_zero _), Blw.refl _⟩
      case round =>
        obtain ⟨s, hs, rfl, hok, hb⟩ := hrel
        have HO : Hid (∀ i, i < s → idleIs c p m i) := hok
        have HB : Hid (Blw wM wr) := hb
        clear hok hb
        by_cases hlt : s < kn
        · have hlt' : (s : Int) < (kn : Int) := by omega
          have hs4' : (s : Int) < 4 := by omega
          obtain ⟨q0, q1, q2, q3, q4, q5, q6, q7⟩ := lc8 (H.out.blw HB.out) hlt
          have g0 : (wr.alloc (.cells (eight (p s) (m s)) 186)).cell? ⟨w.heap.size + 1, s, none⟩ = some (.int .i64 (cn c 4 s)) := ((HRW.out.blw HB.out).blw ((Blw.refl _).alloc _)).cell (by omega)
          have hA : Blw wr (wr.alloc (.cells (eight (p s) (m s)) 186)) := (Blw.refl _).alloc _
          have HBN : Hid (Blw wM (wr.alloc (.cells (eight (p s) (m s)) 186))) := HB.out.trans hA
          have hcz := cn_zero c s 4
          clear hA
          by_cases h4 : cn c 4 s = 0
          · have d4 : (cn c 4 s == 0) = true := by simp [h4]
            have HNL : Hid (¬ hasLine 4 c (s : Int)) := hcz.1 h4
            by_cases hz : isZero8 (p s) (m s)
            · have HN : Hid (∀ i, i < s + 1 → idleIs c p m i) := fun i hi => by
                by_cases e : i = s
                · subst e; exact fun _ => hz
                · exact HO.out i (by omega)
              have hne := HNS.out (p s) (m s) hz
              clear hcz h4 HO hz
              go_wp2
              go_roundw
              case rel => exact ⟨s + 1, by omega, by go_num, HN.out, HBN.out⟩
              case measure => simp [intOf]; omega
            · have HN : Hid (¬ swOK c kn p m) := fun g => hz (g.2 s hlt HNL.out)
              have hne := HNO.out (p s) (m s) hz
              clear hcz h4 HO hz
              go_wp2
              go_ret
              exact ⟨false, rfl, iff_f HN.out, HBW.out.trans HBN.out⟩
          · have d4 : (cn c 4 s == 0) = false := by simp [h4]
            have HN : Hid (∀ i, i < s + 1 → idleIs c p m i) := fun i hi => by
              by_cases e : i = s
              · subst e; exact fun q => absurd (hcz.2 q) h4
              · exact HO.out i (by omega)
            clear hcz h4 HO
            go_wp2
            go_roundw
            case rel => exact ⟨s + 1, by omega, by go_num, HN.out, HBN.out⟩
            case measure => simp [intOf]; omega
        · obtain rfl : s = kn := by omega
          have HN : Hid (swOK c s p m) := ⟨HT.out, HO.out⟩
          clear HO HT
          go_wp2
          go_ret
          exact ⟨true, rfl, iff_t HN.out, HBW.out.trans HB.out⟩
end Go.Proofs.Ytjplodenflkghaa
