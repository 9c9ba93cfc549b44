/- Merged by program, in this order: Stand, Gs, Gu, Gm, Ip. -/
import Derived.Test.YtbpdopcdhnemfaaJoin2
/- The program's test of tops. -/
namespace Go.Proofs.Ytbpdopcdhnemfaa
open Go.RowKit
set_option linter.unusedSimpArgs false
set_option linter.unusedVariables false
def isZero8 (f g : Nat → Int) : Prop := ∀ j, j < 4 → f j = 0 ∧ g j = 0
/-- How often a list stands at one of the first j tops. -/
def cn (c : Nat → Int) : Nat → Nat → Int
  | 0, _ => 0
  | j + 1, k => cn c j k + (if c j = (k : Int) then 1 else 0)
theorem cn_nonneg (c : Nat → Int) (k : Nat) : ∀ j, 0 ≤ cn c j k ∧ cn c j k ≤ j
  | 0 => by simp [cn]
  | j + 1 => by have := cn_nonneg c k j; simp only [cn]; split <;> omega
theorem cn_zero (c : Nat → Int) (k : Nat) : ∀ j, (cn c j k = 0 ↔ ¬ hasLine j c (k : Int))
  | 0 => by simp only [cn]; exact ⟨fun _ ⟨t, ht, _⟩ => absurd ht (Nat.not_lt_zero _), fun _ => trivial⟩
  | j + 1 => by
    have h1 := cn_zero c k j
    have h2 := (cn_nonneg c k j).1
    simp only [cn]
    by_cases e : c j = (k : Int)
    · rw [if_pos e]
      exact ⟨fun q => by omega, fun q => absurd ⟨j, by omega, e⟩ q⟩
    · rw [if_neg e]
      refine ⟨fun q ⟨t, ht, et⟩ => ?_, fun q => ?_⟩
      · by_cases e2 : t = j
        · subst e2; exact e et
        · exact h1.1 (by omega) ⟨t, by omega, et⟩
      · have := h1.2 (fun ⟨t, ht, et⟩ => q ⟨t, by omega, et⟩); omega
abbrev four (c : Nat → Int) : Array Value := #[.int .i64 (c 0), .int .i64 (c 1), .int .i64 (c 2), .int .i64 (c 3)]
theorem index4 (c : Nat → Int) (k : Nat) (hk : k < 4) (w : World) : (Instr.index 133 (.agg (four c)) (.int .i64 (k : Int))).run Try.prog w = .ok (.int .i64 (c k)) w := by
  match k, hk with
  | 0, _ => exact (show (Instr.index 133 (.agg (four c)) (.int .i64 0)).run Try.prog w = .ok (.int .i64 (c 0)) w by kernel_rfl)
  | 1, _ => exact (show (Instr.index 133 (.agg (four c)) (.int .i64 1)).run Try.prog w = .ok (.int .i64 (c 1)) w by kernel_rfl)
  | 2, _ => exact (show (Instr.index 133 (.agg (four c)) (.int .i64 2)).run Try.prog w = .ok (.int .i64 (c 2)) w by kernel_rfl)
  | 3, _ => exact (show (Instr.index 133 (.agg (four c)) (.int .i64 3)).run Try.prog w = .ok (.int .i64 (c 3)) w by kernel_rfl)
/-- The cells of a held table's lists. -/
def lc (p m : Nat → Nat → Int) : Nat → Value := fun i => if i % 2 = 0 then .int .i64 (p (i / 8) (i % 8 / 2)) else .int .i64 (m (i / 8) (i % 8 / 2))
theorem lc8 {w : World} {z n : Nat} {p m : Nat → Nat → Int} (r : Row w z (n * 8) (lc p m)) {k : Nat} (hk : k < n) :
    w.cell? ⟨z, k * 8, none⟩ = some (.int .i64 (p k 0)) ∧ w.cell? ⟨z, k * 8 + 1, none⟩ = some (.int .i64 (m k 0)) ∧ w.cell? ⟨z, k * 8 + 2, none⟩ = some (.int .i64 (p k 1)) ∧ w.cell? ⟨z, k * 8 + 3, none⟩ = some (.int .i64 (m k 1)) ∧
    w.cell? ⟨z, k * 8 + 4, none⟩ = some (.int .i64 (p k 2)) ∧ w.cell? ⟨z, k * 8 + 5, none⟩ = some (.int .i64 (m k 2)) ∧ w.cell? ⟨z, k * 8 + 6, none⟩ = some (.int .i64 (p k 3)) ∧ w.cell? ⟨z, k * 8 + 7, none⟩ = some (.int .i64 (m k 3)) := by
  have hh : ∀ t, t < 8 → w.cell? ⟨z, k * 8 + t, none⟩ = some (lc p m (k * 8 + t)) := fun t ht => r.cell (by omega)
  have ev : ∀ t, t < 8 → lc p m (k * 8 + t) = if t % 2 = 0 then .int .i64 (p k (t / 2)) else .int .i64 (m k (t / 2)) := fun t ht => by
    unfold lc
    rw [show (k * 8 + t) / 8 = k by omega, show (k * 8 + t) % 8 = t by omega, show (k * 8 + t) % 2 = t % 2 by omega]
  have h0 := hh 0 (by omega); have h1 := hh 1 (by omega); have h2 := hh 2 (by omega); have h3 := hh 3 (by omega)
  have h4 := hh 4 (by omega); have h5 := hh 5 (by omega); have h6 := hh 6 (by omega); have h7 := hh 7 (by omega)
  rw [ev 0 (by omega)] at h0; rw [ev 1 (by omega)] at h1; rw [ev 2 (by omega)] at h2; rw [ev 3 (by omega)] at h3
  rw [ev 4 (by omega)] at h4; rw [ev 5 (by omega)] at h5; rw [ev 6 (by omega)] at h6; rw [ev 7 (by omega)] at h7
  exact ⟨h0, h1, h2, h3, h4, h5, h6, h7⟩
theorem row5 (w : World) (a b c d e : Value) (t : TypeId) : Row (w.alloc (.cells #[a, b, c, d, e] t)) w.heap.size 5 (fun i => if i = 0 then a else if i = 1 then b else if i = 2 then c else if i = 3 then d else e) :=
  ⟨_, t, heap_alloc_new _ _, by simp, fun i hi => by
    match i, hi with
    | 0, _ => rfl
    | 1, _ => rfl
    | 2, _ => rfl
    | 3, _ => rfl
    | 4, _ => rfl⟩
theorem get5 {w : World} {B : Nat} {a b c d e : Value} (r : Row w B 5 (fun i => if i = 0 then a else if i = 1 then b else if i = 2 then c else if i = 3 then d else e)) : w.cell? ⟨B, 0, none⟩ = some a ∧ w.cell? ⟨B, 1, none⟩ = some b ∧ w.cell? ⟨B, 2, none⟩ = some c ∧ w.cell? ⟨B, 3, none⟩ = some d ∧ w.cell? ⟨B, 4, none⟩ = some e :=
  ⟨r.cell (i := 0) (by omega), r.cell (i := 1) (by omega), r.cell (i := 2) (by omega), r.cell (i := 3) (by omega), r.cell (i := 4) (by omega)⟩
theorem row_zero4 (w : World) (t : TypeId) : Row (w.alloc (.cells #[.int .i64 0, .int .i64 0, .int .i64 0, .int .i64 0] t)) w.heap.size 4 (fun _ => .int .i64 0) :=
  ⟨_, t, heap_alloc_new _ _, by simp, fun i hi => by
    match i, hi with
    | 0, _ => rfl
    | 1, _ => rfl
    | 2, _ => rfl
    | 3, _ => rfl⟩
abbrev held5 (c : Nat → Int) (zl kn : Nat) : Array Value := #[.int .i64 (c 0), .int .i64 (c 1), .int .i64 (c 2), .int .i64 (c 3), .slice (some ⟨zl, 0, none⟩) kn kn]
abbrev row5f (c : Nat → Int) (v : Value) : Nat → Value := fun i => if i = 0 then .int .i64 (c 0) else if i = 1 then .int .i64 (c 1) else if i = 2 then .int .i64 (c 2) else if i = 3 then .int .i64 (c 3) else v
def topIs (c : Nat → Int) (kn i : Nat) : Prop := (-1 ≤ c i ∧ c i ≤ (kn : Int) - 1) ∧ (0 ≤ c i → ¬ hasLine i c (c i))
def idleIs (c : Nat → Int) (p m : Nat → Nat → Int) (k : Nat) : Prop := ¬ hasLine 4 c (k : Int) → isZero8 (p k) (m k)
def swOK (c : Nat → Int) (kn : Nat) (p m : Nat → Nat → Int) : Prop := (∀ i, i < 4 → topIs c kn i) ∧ ∀ k, k < kn → idleIs c p m k
set_option maxRecDepth 10000 in
set_option maxHeartbeats 6400000 in
theorem standWell_of (HNS : Hid (∀ f g : Nat → Int, isZero8 f g → ∀ w, (binOp .neq 202 (.agg (eight f g)) (.agg (eight zf zf))).run Try.prog w = .ok (.bool false) w)) (HNO : Hid (∀ f g : Nat → Int, ¬ isZero8 f g → ∀ w, (binOp .neq 202 (.agg (eight f g)) (.agg (eight zf zf))).run Try.prog w = .ok (.bool true) w)) (c : Nat → Int) (zl kn : Nat) (p m : Nat → Nat → Int) (w : World) (hkn : kn ≤ 4) (h : Row w zl (kn * 8) (lc p m)) :
    Calls Try.prog 168 #[.agg (held5 c zl kn)] w fun e w' => ∃ r, e = .returned (.bool r) ∧ (r = true ↔ swOK c kn p m) ∧ Blw w w' := by
  have hb0 : Blw w ((w.alloc (.cells (held5 c zl kn) 136)).alloc (.cells #[.int .i64 0, .int .i64 0, .int .i64 0, .int .i64 0] 133)) := ((Blw.refl _).alloc _).alloc _
  have rB := (row5 w (.int .i64 (c 0)) (.int .i64 (c 1)) (.int .i64 (c 2)) (.int .i64 (c 3)) (.slice (some ⟨zl, 0, none⟩) kn kn) 136).blw ((Blw.refl _).alloc (.cells #[.int .i64 0, .int .i64 0, .int .i64 0, .int .i64 0] 133))
  have rC := row_zero4 (w.alloc (.cells (held5 c zl kn) 136)) 133
  rw [World.size_alloc] at rC
  have H : Hid (Row ((w.alloc (.cells (held5 c zl kn) 136)).alloc (.cells #[.int .i64 0, .int .i64 0, .int .i64 0, .int .i64 0] 133)) zl (kn * 8) (lc p m)) := h.blw hb0
  have hzl := h.lt
  clear h
  obtain ⟨p0, p1, p2, p3, p4⟩ := get5 rB
  go_enter Try.func168, Try.ntmps168
  go_wp2_with fail
  clear p0 p1 p2 p3 p4
  revert hb0 rB rC H
  generalize (w.alloc (.cells (held5 c zl kn) 136)).alloc (.cells #[.int .i64 0, .int .i64 0, .int .i64 0, .int .i64 0] 133) = w0
  intro hb0 rB rC H
  have HB0 : Hid (Blw w w0) := hb0
  have HRB : Hid (Row w0 w.heap.size 5 (row5f c (.slice (some ⟨zl, 0, none⟩) kn kn))) := rB
  have HRC : Hid (Row w0 (w.heap.size + 1) 4 (fun k => .int .i64 (cn c 0 k))) := rC
  clear hb0 rB rC
  go_loopw [10] (fun i wr => ∃ j : Nat, j ≤ 4 ∧ i = .int .i64 j ∧ (∀ i, i < j → topIs c kn i) ∧ Row wr (w.heap.size + 1) 4 (fun k => .int .i64 (cn c j k)) ∧ Mod (fun x => x = w.heap.size + 1) w0 wr) (fun i _ => 4 - (intOf i).toNat)
  case atStart => exact ⟨0, Nat.zero_le _, rfl, fun t ht => absurd ht (Nat.not_lt_zero _), HRC.out, Mod.refl _ _⟩
  case round =>
    obtain ⟨j, hj, rfl, hok, hrc, hm⟩ := hrel
    have HO : Hid (∀ i, i < j → topIs c kn i) := hok
    have HM : Hid (Mod (fun x => x = w.heap.size + 1) w0 wr) := hm
    have HRW : Hid (Row wr (w.heap.size + 1) 4 (fun k => .int .i64 (cn c j k))) := hrc
    have HBW : Hid (Blw w wr) := Mod.blw HB0.out hm (fun i hi => by omega)
    clear hok hm hrc HRC
    by_cases hlt : j < 4
    · have hlt' : (j : Int) < 4 := by omega
      have hix := index4 c j hlt
      by_cases h1 : c j = -1
      · have d1 : (c j == -1) = true := by simp [h1]
        have HN : Hid (∀ i, i < j + 1 → topIs c kn i) := fun i hi => by
          by_cases e : i = j
          · subst e; exact ⟨by omega, fun q => by omega⟩
          · exact HO.out i (by omega)
        have HRN : Hid (Row wr (w.heap.size + 1) 4 (fun k => .int .i64 (cn c (j + 1) k))) := HRW.out.congr (fun k hk => by simp only [cn]; rw [if_neg (by omega)]; simp)
        clear h1 HO HRW
        go_wp2
        go_roundw
        case rel => exact ⟨j + 1, by omega, by go_num, HN.out, HRN.out, HM.out⟩
        case measure => simp [intOf]; omega
      have d1 : (c j == -1) = false := by simp [h1]
      obtain ⟨p0, p1, p2, p3, p4⟩ := get5 (HRB.out.mod HM.out (by omega))
      by_cases h2 : c j < 0
      · have HN : Hid (¬ swOK c kn p m) := fun g => by have := (g.1 j hlt).1; omega
        clear h1 HO HRW
        go_wp2
        go_ret
        exact ⟨false, rfl, iff_f HN.out, HBW.out⟩
      obtain ⟨q, hq⟩ : ∃ q : Nat, c j = q := ⟨(c j).toNat, by omega⟩
      by_cases h3 : q < kn
      case neg =>
        have HN : Hid (¬ swOK c kn p m) := fun g => by have := (g.1 j hlt).1; omega
        have h3' : (kn : Int) ≤ (q : Int) := by omega
        rw [hq] at hix d1
        clear h1 h2 HO HRW
        go_wp2
        go_ret
        exact ⟨false, rfl, iff_f HN.out, HBW.out⟩
      have h3' : (q : Int) < (kn : Int) := by omega
      have hq4 : q < 4 := by omega
      have hq4' : (q : Int) < 4 := by omega
      have g0 : wr.cell? ⟨w.heap.size + 1, q, none⟩ = some (.int .i64 (cn c j q)) := HRW.out.cell hq4
      have gf := HRW.out.frozen q
      have hcz := cn_zero c q j
      obtain ⟨hc0, hc1⟩ := cn_nonneg c q j
      have HQ : Hid (c j = (q : Int)) := hq
      rw [hq] at hix d1
      by_cases h4 : cn c j q = 0
      · have HN : Hid (∀ i, i < j + 1 → topIs c kn i) := fun i hi => by
          by_cases e : i = j
          · subst e; exact ⟨by omega, fun _ => by rw [HQ.out]; exact hcz.1 h4⟩
          · exact HO.out i (by omega)
        have HRN : Hid (Row (wr.setCell ⟨w.heap.size + 1, q, none⟩ (.int .i64 (0 + 1))) (w.heap.size + 1) 4 (fun k => .int .i64 (cn c (j + 1) k))) := (HRW.out.set q _).congr (fun k hk => by
          simp only [cn]
          by_cases e : k = q
          · subst e; rw [if_pos rfl, if_pos HQ.out, h4]
          · rw [if_neg e, if_neg (by rw [HQ.out]; omega)]; simp)
        have HMN : Hid (Mod (fun x => x = w.heap.size + 1) w0 (wr.setCell ⟨w.heap.size + 1, q, none⟩ (.int .i64 (0 + 1)))) := HM.out.trans (Mod.setCell (X := fun x => x = w.heap.size + 1) _ (p := ⟨w.heap.size + 1, q, none⟩) rfl _)
        rw [h4] at g0
        clear h1 h2 hq HO HRW hcz hc0 hc1 h4
        go_wp2
        go_roundw
        case rel => exact ⟨j + 1, by omega, by go_num, HN.out, HRN.out, HMN.out⟩
        case measure => simp [intOf]; omega
      · have HN : Hid (¬ swOK c kn p m) := fun g => h4 (hcz.2 (by have := (g.1 j hlt).2 (by omega); rw [HQ.out] at this; exact this))
        have d4 : decide (cn c j q > 0) = true := by simp; omega
        clear h1 h2 hq HO HRW hcz hc0 hc1 h4
        go_wp2
        go_ret
        exact ⟨false, rfl, iff_f HN.out, HBW.out⟩
    · obtain rfl : j = 4 := by omega
      have HT : Hid (∀ i, i < 4 → topIs c kn i) := HO.out
      obtain ⟨p0, p1, p2, p3, p4⟩ := get5 (HRB.out.mod HM.out (by omega))
      replace H : Hid (Row wr zl (kn * 8) (lc p m)) := H.out.mod HM.out (by omega)
      go_wp2_with fail
      clear p0 p1 p2 p3 p4 HO HM HRB hlt HB0
      generalize wr = wM at *
      go_loopw [39] (fun i wq => ∃ s : Nat, s ≤ kn ∧ i = .int .i64 s ∧ (∀ i, i < s → idleIs c p m i) ∧ Blw wM wq) (fun i _ => kn - (intOf i).toNat)
      case atStart => exact ⟨0, Nat.zero_le _, rfl, fun t ht => absurd ht (Nat.not_lt_zero _), Blw.refl _⟩
      case round =>
        obtain ⟨s, hs, rfl, hok, hb⟩ := hrel
        have HO : Hid (∀ i, i < s → idleIs c p m i) := hok
        have HB : Hid (Blw wM wr) := hb
        clear hok hb
        by_cases hlt : s < kn
        · have hlt' : (s : Int) < (kn : Int) := by omega
          have hs4' : (s : Int) < 4 := by omega
          obtain ⟨q0, q1, q2, q3, q4, q5, q6, q7⟩ := lc8 (H.out.blw HB.out) hlt
          have g0 : (wr.alloc (.cells (eight (p s) (m s)) 202)).cell? ⟨w.heap.size + 1, s, none⟩ = some (.int .i64 (cn c 4 s)) := ((HRW.out.blw HB.out).blw ((Blw.refl _).alloc _)).cell (by omega)
          have hA : Blw wr (wr.alloc (.cells (eight (p s) (m s)) 202)) := (Blw.refl _).alloc _
          have HBN : Hid (Blw wM (wr.alloc (.cells (eight (p s) (m s)) 202))) := HB.out.trans hA
          have hcz := cn_zero c s 4
          clear hA
          by_cases h4 : cn c 4 s = 0
          · have d4 : (cn c 4 s == 0) = true := by simp [h4]
            have HNL : Hid (¬ hasLine 4 c (s : Int)) := hcz.1 h4
            by_cases hz : isZero8 (p s) (m s)
            · have HN : Hid (∀ i, i < s + 1 → idleIs c p m i) := fun i hi => by
                by_cases e : i = s
                · subst e; exact fun _ => hz
                · exact HO.out i (by omega)
              have hne := HNS.out (p s) (m s) hz
              clear hcz h4 HO hz
              go_wp2
              go_roundw
              case rel => exact ⟨s + 1, by omega, by go_num, HN.out, HBN.out⟩
              case measure => simp [intOf]; omega
            · have HN : Hid (¬ swOK c kn p m) := fun g => hz (g.2 s hlt HNL.out)
              have hne := HNO.out (p s) (m s) hz
              clear hcz h4 HO hz
              go_wp2
              go_ret
              exact ⟨false, rfl, iff_f HN.out, HBW.out.trans HBN.out⟩
          · have d4 : (cn c 4 s == 0) = false := by simp [h4]
            have HN : Hid (∀ i, i < s + 1 → idleIs c p m i) := fun i hi => by
              by_cases e : i = s
              · subst e; exact fun q => absurd (hcz.2 q) h4
              · exact HO.out i (by omega)
            clear hcz h4 HO
            go_wp2
            go_roundw
            case rel => exact ⟨s + 1, by omega, by go_num, HN.out, HBN.out⟩
            case measure => simp [intOf]; omega
        · obtain rfl : s = kn := by omega
          have HN : Hid (swOK c s p m) := ⟨HT.out, HO.out⟩
          clear HO HT
          go_wp2
          go_ret
          exact ⟨true, rfl, iff_t HN.out, HBW.out.trans HB.out⟩
end Go.Proofs.Ytbpdopcdhnemfaa
/- Guests: what they read as, what is owned. -/
namespace Go.Proofs.Ytbpdopcdhnemfaa
open Go.RowKit
set_option linter.unusedSimpArgs false
set_option linter.unusedVariables false
theorem IntsAt.st9 {Y : Nat → Prop} {W : World} {ao : Option Addr} {n : Nat} {f : Nat → Int} (h : IntsAt Y W ao n f) (hY : ∀ b, Y b → b < W.heap.size) : St Y (fun W => IntsAt Y W ao n f) W :=
  ⟨hY, fun Z w' hm hx => h.mod hm hx⟩
theorem eqIntS_blw (a1 a2 : Option Addr) (c1 c2 : Nat) (n0 : Nat) (f : Nat → Int) {Y Z : Nat → Prop} (w : World) (h1 : IntsAt Y w a1 n0 f) (h2 : IntsAt Z w a2 n0 f) :
    Calls Try.prog 61 #[.slice a1 n0 c1, .slice a2 n0 c2] w fun e w' => e = .returned (.bool true) ∧ Blw w w' :=
  (eqIntS_same a1 a2 c1 c2 n0 f w h1 h2).mono (fun e w' h => ⟨h.1, by obtain ⟨n, hn⟩ := h.2; rw [hn]; exact drewN_blw w n⟩)
structure GV where
  a1 : Option Addr
  a2 : Option Addr
  c1 : Nat
  c2 : Nat
abbrev GV.zero : GV := ⟨none, none, 0, 0⟩
abbrev GD.zero : GD := ⟨0, 0, 0, fun _ => 0, 0, fun _ => 0, false⟩
abbrev GV.cells (v : GV) (D : GD) : Array Value := #[.int .i64 D.at_, .int .i64 D.acc, .slice v.a1 D.nc v.c1, .slice v.a2 D.nt v.c2, .bool D.d]
abbrev GV.val (v : GV) (D : GD) : Value := .agg (v.cells D)
abbrev gb (v : GV) (D : GD) : Nat → Value := fun i => if i = 0 then .int .i64 D.at_ else if i = 1 then .int .i64 D.acc else if i = 2 then .slice v.a1 D.nc v.c1 else if i = 3 then .slice v.a2 D.nt v.c2 else .bool D.d
structure GAt (Y : Nat → Prop) (w : World) (v : GV) (D : GD) : Prop where
  c : IntsAt Y w v.a1 D.nc D.c
  t : IntsAt Y w v.a2 D.nt D.t
structure GOwn (X : Nat → Prop) (w : World) (v : GV) (D : GD) : Prop where
  ex : ∃ X1 X2 : Nat → Prop, (∀ b, X1 b → X b ∧ ¬ X2 b) ∧ (∀ b, X2 b → X b) ∧ IntsOwn X1 w v.a1 D.nc D.c ∧ IntsOwn X2 w v.a2 D.nt D.t
theorem IntsOwn.mod' {X Z : Nat → Prop} {w w' : World} {ao : Option Addr} {n : Nat} {f : Nat → Int} (h : IntsOwn X w ao n f) (hb : Mod Z w w') (hxz : ∀ b, X b → ¬ Z b) : IntsOwn X w' ao n f :=
  ⟨h.1, fun hn => let ⟨b, hx, e, hr⟩ := h.2 hn; ⟨b, hx, e, hr.mod hb (hxz _ hx)⟩⟩
theorem IntsOwn.mono' {X Y : Nat → Prop} {w : World} {ao : Option Addr} {n : Nat} {f : Nat → Int} (h : IntsOwn X w ao n f) (hxy : ∀ b, X b → Y b) : IntsOwn Y w ao n f :=
  ⟨h.1, fun hn => let ⟨b, hx, e, hr⟩ := h.2 hn; ⟨b, hxy _ hx, e, hr⟩⟩
theorem IntsOwn.congr' {X : Nat → Prop} {w : World} {ao : Option Addr} {n : Nat} {f g : Nat → Int} (h : IntsOwn X w ao n f) (e : ∀ i, i < n → f i = g i) : IntsOwn X w ao n g :=
  ⟨h.1, fun hn => let ⟨b, hx, ea, hr⟩ := h.2 hn; ⟨b, hx, ea, hr.congr fun i hi => by rw [e i hi]⟩⟩
theorem IntsOwn.nil' (X : Nat → Prop) (w : World) (ao : Option Addr) (f : Nat → Int) : IntsOwn X w ao 0 f := ⟨by omega, fun h => absurd h (by omega)⟩
theorem IntsOwn.st9 {Y : Nat → Prop} {W : World} {ao : Option Addr} {n : Nat} {f : Nat → Int} (h : IntsOwn Y W ao n f) (hY : ∀ b, Y b → b < W.heap.size) : St Y (fun W => IntsOwn Y W ao n f) W :=
  ⟨hY, fun Z w' hm hx => h.mod' hm hx⟩
theorem GAt.blw {Y : Nat → Prop} {w w' : World} {v : GV} {D : GD} (h : GAt Y w v D) (hb : Blw w w') : GAt Y w' v D := ⟨h.c.blw hb, h.t.blw hb⟩
theorem GAt.mod {X Y : Nat → Prop} {w w' : World} {v : GV} {D : GD} (h : GAt Y w v D) (hb : Mod X w w') (hxy : ∀ k, Y k → ¬ X k) : GAt Y w' v D := ⟨h.c.mod hb hxy, h.t.mod hb hxy⟩
theorem GAt.mono {X Y : Nat → Prop} {w : World} {v : GV} {D : GD} (h : GAt X w v D) (hxy : ∀ b, X b → Y b) : GAt Y w v D := ⟨h.c.mono hxy, h.t.mono hxy⟩
theorem GOwn.at {X : Nat → Prop} {w : World} {v : GV} {D : GD} (h : GOwn X w v D) : GAt X w v D := by
  obtain ⟨X1, X2, d1, d2, hg, hh⟩ := h.ex
  exact ⟨hg.at.mono (fun b hb => (d1 b hb).1), hh.at.mono d2⟩
theorem GOwn.mod {X Z : Nat → Prop} {w w' : World} {v : GV} {D : GD} (h : GOwn X w v D) (hb : Mod Z w w') (hxz : ∀ b, X b → ¬ Z b) : GOwn X w' v D := by
  obtain ⟨X1, X2, d1, d2, hg, hh⟩ := h.ex
  exact ⟨X1, X2, d1, d2, hg.mod' hb (fun b hx => hxz b (d1 b hx).1), hh.mod' hb (fun b hx => hxz b (d2 b hx))⟩
theorem GOwn.blw {X : Nat → Prop} {w w' : World} {v : GV} {D : GD} (h : GOwn X w v D) (hb : Blw w w') : GOwn X w' v D := h.mod (hb.mod (fun _ => False)) (fun _ _ => id)
theorem GOwn.mono {X Y : Nat → Prop} {w : World} {v : GV} {D : GD} (h : GOwn X w v D) (hxy : ∀ b, X b → Y b) : GOwn Y w v D := by
  obtain ⟨X1, X2, d1, d2, hg, hh⟩ := h.ex
  exact ⟨X1, X2, fun b hb => ⟨hxy b (d1 b hb).1, (d1 b hb).2⟩, fun b hb => hxy b (d2 b hb), hg, hh⟩
theorem GOwn.zero (X : Nat → Prop) (w : World) : GOwn X w GV.zero GD.zero := ⟨fun _ => False, fun _ => False, fun _ h => h.elim, fun _ h => h.elim, IntsOwn.nil' _ _ _ _, IntsOwn.nil' _ _ _ _⟩
/-- Two rows of numbers that are apart. -/
theorem GOwn.two {X : Nat → Prop} {w : World} {z1 z2 : Nat} {D : GD} (n1 : D.nc ≤ 1048576) (n2 : D.nt ≤ 1048576) (h1 : Row w z1 D.nc (fun t => .int .i64 (D.c t))) (h2 : Row w z2 D.nt (fun t => .int .i64 (D.t t))) (x1 : X z1) (x2 : X z2) (ne : z1 ≠ z2) (c1 c2 : Nat) : GOwn X w ⟨some ⟨z1, 0, none⟩, some ⟨z2, 0, none⟩, c1, c2⟩ D :=
  ⟨fun x => x = z1, fun x => x = z2, fun b hb => ⟨hb ▸ x1, fun e => ne (hb.symm.trans e)⟩, fun b hb => hb ▸ x2, ⟨by omega, fun _ => ⟨z1, rfl, rfl, h1⟩⟩, ⟨by omega, fun _ => ⟨z2, rfl, rfl, h2⟩⟩⟩
theorem GOwn.alike {X : Nat → Prop} {w : World} {v : GV} {D E : GD} (h : GOwn X w v D) (e : D.Alike E) : GOwn X w v E := by
  obtain ⟨X1, X2, d1, d2, hg, hh⟩ := h.ex
  refine ⟨X1, X2, d1, d2, ?_, ?_⟩
  · rw [← e.nc]; exact hg.congr' e.c
  · rw [← e.nt]; exact hh.congr' e.t
theorem GAt.alike {X : Nat → Prop} {w : World} {v : GV} {D E : GD} (h : GAt X w v D) (e : D.Alike E) : GAt X w v E := by
  refine ⟨?_, ?_⟩
  · rw [← e.nc]; exact h.c.congr e.c
  · rw [← e.nt]; exact h.t.congr e.t
theorem val_alike {v : GV} {D E : GD} (e : D.Alike E) : v.val D = v.val E := by
  show Value.agg _ = Value.agg _
  unfold GV.cells
  rw [e.a, e.acc, e.nc, e.nt, e.d]
abbrev GD.small (D : GD) : Prop := D.nc + D.nt ≤ 1048576
def GD.marked (D : GD) (k : Int) : GD := { D with c := fun i => k + i, t := fun i => k + D.nc + i }
def GD.total (D : GD) : Nat := D.nc + D.nt
/-- A guest in its own box at z, all in blocks of X. -/
structure BBG (X : Nat → Prop) (z : Nat) (v : GV) (D D' : GD) (w : World) : Prop where
  own : GOwn (fun x => X x ∧ x ≠ z) w v D'
  box : Row w z 5 (gb v D)
theorem BBG.st {X : Nat → Prop} {z : Nat} {v : GV} {D D' : GD} {w : World} (h : BBG X z v D D' w) (hz : X z) (hX : ∀ b, X b → b < w.heap.size) : St X (BBG X z v D D') w :=
  ⟨hX, fun Z w' hm hx => ⟨h.own.mod hm (fun b hb => hx b hb.1), h.box.mod hm (hx z hz)⟩⟩
structure ArgG (n z : Nat) (v : GV) (D : GD) (w : World) : Prop where
  at_ : GAt (fun x => x < n) w v D
  box : Row w z 5 (gb v D)
theorem ArgG.st {n z a : Nat} {v : GV} {D : GD} {w : World} (h : ArgG n z v D w) (hn : n ≤ a) (hz : z < a) (ha : a ≤ w.heap.size) : St (fun x => x < a) (ArgG n z v D) w :=
  ⟨fun x hx => by omega, fun Z w' hm hx => ⟨h.at_.mod hm (fun b hb => hx b (by omega)), h.box.mod hm (hx z hz)⟩⟩
theorem GAt.st {Y : Nat → Prop} {v : GV} {D : GD} {W : World} (h : GAt Y W v D) (hY : ∀ b, Y b → b < W.heap.size) : St Y (fun W => GAt Y W v D) W := ⟨hY, fun Z w' hm hx => h.mod hm hx⟩
theorem GOwn.st {Y : Nat → Prop} {v : GV} {D : GD} {W : World} (h : GOwn Y W v D) (hY : ∀ b, Y b → b < W.heap.size) : St Y (fun W => GOwn Y W v D) W := ⟨hY, fun Z w' hm hx => h.mod hm hx⟩
end Go.Proofs.Ytbpdopcdhnemfaa
/- Guests: the laws' functions. -/
namespace Go.Proofs.Ytbpdopcdhnemfaa
open Go.RowKit
set_option linter.unusedSimpArgs false
set_option linter.unusedVariables false
set_option maxHeartbeats 1600000 in
theorem szGuest_any (v : GV) (D : GD) (Y : Nat → Prop) (left : Int) (w : World) (hl0 : 0 ≤ left) (hl1 : left ≤ 1048576) (h : GAt Y w v D) :
    Calls Try.prog 71 #[v.val D, .int .i64 left] w fun e w' => ∃ r : Int, e = .returned (.int .i64 r) ∧ Left left ((D.nc + D.nt : Nat)) r ∧ Blw w w' := by
  have n1 := h.c.1
  have n2 := h.t.1
  have HR : Hid (Row (w.alloc (.cells #[.int .i64 D.at_, .int .i64 D.acc, .slice v.a1 D.nc v.c1, .slice v.a2 D.nt v.c2, .bool D.d] 94)) w.heap.size 5 (gb v D)) := row5 w _ _ _ _ _ 94
  have HB : Hid (Blw w (w.alloc (.cells #[.int .i64 D.at_, .int .i64 D.acc, .slice v.a1 D.nc v.c1, .slice v.a2 D.nt v.c2, .bool D.d] 94))) := (Blw.refl _).alloc _
  clear h
  go_enter Try.func71, Try.ntmps71
  obtain ⟨p0, p1, p2, p3, p4⟩ := get5 HR.out
  go_wp2_with fail
  clear p0 p1 p2 p3 p4
  refine (szIntS_any _ _ _ left _ n1 hl0 hl1).mono ?_
  rintro e w1 ⟨r, rfl, hr, hb1⟩
  replace HR : Hid (Row w1 w.heap.size 5 (gb v D)) := HR.out.blw hb1
  replace HB : Hid (Blw w w1) := HB.out.trans hb1
  clear hb1
  rcases hr with rfl | ⟨g0, g1⟩
  · go_wp2
    go_ret
    exact ⟨_, rfl, Or.inl rfl, HB.out⟩
  have hnn : ¬ r < 0 := by omega
  have hr1 : r ≤ 1048576 := by omega
  have G1 : Hid (r + D.nc ≤ left) := g1
  clear g1
  obtain ⟨p0, p1, p2, p3, p4⟩ := get5 HR.out
  go_wp2_with fail
  clear p0 p1 p2 p3 p4
  refine (szIntS_any _ _ _ r _ n2 g0 hr1).mono ?_
  rintro e w2 ⟨r2, rfl, hr2, hb2⟩
  replace HB : Hid (Blw w w2) := HB.out.trans hb2
  clear hb2 hnn HR
  rcases hr2 with rfl | ⟨g2, g3⟩
  · go_wp2
    go_ret
    exact ⟨_, rfl, Or.inl rfl, HB.out⟩
  · have hnn : ¬ r2 < 0 := by omega
    have G3 : Hid (r2 + D.nt ≤ r) := g3
    clear g3
    go_wp2
    go_ret
    exact ⟨_, rfl, Or.inr ⟨g2, by have := G1.out; have := G3.out; omega⟩, HB.out⟩
set_option maxHeartbeats 1600000 in
theorem eqGuest_same (v u : GV) (D : GD) {X Y : Nat → Prop} (w : World) (h1 : GAt X w v D) (h2 : GAt Y w u D) :
    Calls Try.prog 73 #[v.val D, u.val D] w fun e w' => e = .returned (.bool true) ∧ Blw w w' := by
  have hb0 : Blw w ((w.alloc (.cells #[.int .i64 D.at_, .int .i64 D.acc, .slice v.a1 D.nc v.c1, .slice v.a2 D.nt v.c2, .bool D.d] 61)).alloc (.cells #[.int .i64 D.at_, .int .i64 D.acc, .slice u.a1 D.nc u.c1, .slice u.a2 D.nt u.c2, .bool D.d] 61)) := ((Blw.refl _).alloc _).alloc _
  have H1 : Hid (GAt X ((w.alloc (.cells #[.int .i64 D.at_, .int .i64 D.acc, .slice v.a1 D.nc v.c1, .slice v.a2 D.nt v.c2, .bool D.d] 61)).alloc (.cells #[.int .i64 D.at_, .int .i64 D.acc, .slice u.a1 D.nc u.c1, .slice u.a2 D.nt u.c2, .bool D.d] 61)) v D) := h1.blw hb0
  have H2 : Hid (GAt Y ((w.alloc (.cells #[.int .i64 D.at_, .int .i64 D.acc, .slice v.a1 D.nc v.c1, .slice v.a2 D.nt v.c2, .bool D.d] 61)).alloc (.cells #[.int .i64 D.at_, .int .i64 D.acc, .slice u.a1 D.nc u.c1, .slice u.a2 D.nt u.c2, .bool D.d] 61)) u D) := h2.blw hb0
  have R1 : Hid (Row ((w.alloc (.cells #[.int .i64 D.at_, .int .i64 D.acc, .slice v.a1 D.nc v.c1, .slice v.a2 D.nt v.c2, .bool D.d] 61)).alloc (.cells #[.int .i64 D.at_, .int .i64 D.acc, .slice u.a1 D.nc u.c1, .slice u.a2 D.nt u.c2, .bool D.d] 61)) w.heap.size 5 (gb v D)) := (row5 w _ _ _ _ _ 61).blw ((Blw.refl _).alloc _)
  have r2 := row5 (w.alloc (.cells #[.int .i64 D.at_, .int .i64 D.acc, .slice v.a1 D.nc v.c1, .slice v.a2 D.nt v.c2, .bool D.d] 61)) (.int .i64 D.at_) (.int .i64 D.acc) (.slice u.a1 D.nc u.c1) (.slice u.a2 D.nt u.c2) (.bool D.d) 61
  rw [World.size_alloc] at r2
  have R2 : Hid (Row ((w.alloc (.cells #[.int .i64 D.at_, .int .i64 D.acc, .slice v.a1 D.nc v.c1, .slice v.a2 D.nt v.c2, .bool D.d] 61)).alloc (.cells #[.int .i64 D.at_, .int .i64 D.acc, .slice u.a1 D.nc u.c1, .slice u.a2 D.nt u.c2, .bool D.d] 61)) (w.heap.size + 1) 5 (gb u D)) := r2
  have HB : Hid (Blw w ((w.alloc (.cells #[.int .i64 D.at_, .int .i64 D.acc, .slice v.a1 D.nc v.c1, .slice v.a2 D.nt v.c2, .bool D.d] 61)).alloc (.cells #[.int .i64 D.at_, .int .i64 D.acc, .slice u.a1 D.nc u.c1, .slice u.a2 D.nt u.c2, .bool D.d] 61))) := hb0
  clear h1 h2 r2 hb0
  have q1 : (D.at_ != D.at_) = false := by simp
  have q2 : (D.acc != D.acc) = false := by simp
  have q3 : (D.d != D.d) = false := by simp
  go_enter Try.func73, Try.ntmps73
  obtain ⟨p0, p1, p2, p3, p4⟩ := get5 R1.out
  obtain ⟨r0, r1, r2, r3, r4⟩ := get5 R2.out
  go_wp2_with fail
  clear p0 p1 p2 p3 p4 r0 r1 r2 r3 r4 q1 q2
  generalize ((w.alloc (.cells #[.int .i64 D.at_, .int .i64 D.acc, .slice v.a1 D.nc v.c1, .slice v.a2 D.nt v.c2, .bool D.d] 61)).alloc (.cells #[.int .i64 D.at_, .int .i64 D.acc, .slice u.a1 D.nc u.c1, .slice u.a2 D.nt u.c2, .bool D.d] 61)) = w0 at *
  refine (eqIntS_blw _ _ _ _ D.nc D.c _ H1.out.c H2.out.c).mono ?_
  rintro e w1 ⟨rfl, hb1⟩
  replace H1 : Hid (GAt X w1 v D) := H1.out.blw hb1
  replace H2 : Hid (GAt Y w1 u D) := H2.out.blw hb1
  replace R1 : Hid (Row w1 w.heap.size 5 (gb v D)) := R1.out.blw hb1
  replace R2 : Hid (Row w1 (w.heap.size + 1) 5 (gb u D)) := R2.out.blw hb1
  replace HB : Hid (Blw w w1) := HB.out.trans hb1
  clear hb1
  obtain ⟨p0, p1, p2, p3, p4⟩ := get5 R1.out
  obtain ⟨r0, r1, r2, r3, r4⟩ := get5 R2.out
  go_wp2_with fail
  clear p0 p1 p2 p3 p4 r0 r1 r2 r3 r4
  refine (eqIntS_blw _ _ _ _ D.nt D.t _ H1.out.t H2.out.t).mono ?_
  rintro e w2 ⟨rfl, hb1⟩
  replace R1 : Hid (Row w2 w.heap.size 5 (gb v D)) := R1.out.blw hb1
  replace R2 : Hid (Row w2 (w.heap.size + 1) 5 (gb u D)) := R2.out.blw hb1
  replace HB : Hid (Blw w w2) := HB.out.trans hb1
  clear hb1 H1 H2
  obtain ⟨p0, p1, p2, p3, p4⟩ := get5 R1.out
  obtain ⟨r0, r1, r2, r3, r4⟩ := get5 R2.out
  clear R1 R2
  go_wp2
  go_ret
  exact ⟨rfl, HB.out⟩
set_option maxHeartbeats 1600000 in
theorem markGuest_any (v : GV) (D : GD) (X : Nat → Prop) (k0 : Int) (w : World) (hS : D.small) (h0 : 0 ≤ k0) (h1 : k0 ≤ 16777216) (hX : ∀ b, X b → b < w.heap.size) (h : GOwn X w v D) :
    Calls Try.prog 75 #[v.val D, .int .i64 k0] w fun e w' => e = .returned (.int .i64 (k0 + D.total)) ∧ GOwn X w' v (D.marked k0) ∧ Mod X w w' := by
  unfold GD.small at hS
  obtain ⟨X1, X2, d1, d2, hc, hl⟩ := h.ex
  have hA : Blw w (w.alloc (.cells #[.int .i64 D.at_, .int .i64 D.acc, .slice v.a1 D.nc v.c1, .slice v.a2 D.nt v.c2, .bool D.d] 61)) := (Blw.refl _).alloc _
  have HC : Hid (IntsOwn X1 (w.alloc (.cells #[.int .i64 D.at_, .int .i64 D.acc, .slice v.a1 D.nc v.c1, .slice v.a2 D.nt v.c2, .bool D.d] 61)) v.a1 D.nc D.c) := hc.blw hA
  have HL : Hid (IntsOwn X2 (w.alloc (.cells #[.int .i64 D.at_, .int .i64 D.acc, .slice v.a1 D.nc v.c1, .slice v.a2 D.nt v.c2, .bool D.d] 61)) v.a2 D.nt D.t) := hl.blw hA
  have R1 : Hid (Row (w.alloc (.cells #[.int .i64 D.at_, .int .i64 D.acc, .slice v.a1 D.nc v.c1, .slice v.a2 D.nt v.c2, .bool D.d] 61)) w.heap.size 5 (gb v D)) := row5 w _ _ _ _ _ 61
  have HM : Hid (Mod X w (w.alloc (.cells #[.int .i64 D.at_, .int .i64 D.acc, .slice v.a1 D.nc v.c1, .slice v.a2 D.nt v.c2, .bool D.d] 61))) := hA.mod _
  clear h hc hl hA
  go_enter Try.func75, Try.ntmps75
  obtain ⟨p0, p1, p2, p3, p4⟩ := get5 R1.out
  go_wp2_with fail
  clear p0 p1 p2 p3 p4
  refine (markIntS_any _ _ D.nc D.c X1 k0 _ (by omega) (by omega) HC.out).mono ?_
  rintro e w1 ⟨rfl, hc1, hm1⟩
  have R2 := R1.out.mod hm1 (fun hh => by have := hX _ (d1 _ hh.1).1; omega)
  have HL1 : Hid (IntsOwn X2 w1 v.a2 D.nt D.t) := HL.out.mod' hm1 (fun x hx hh => (d1 x hh.1).2 hx)
  have HC1 : Hid (IntsOwn X1 w1 v.a1 D.nc (fun i => k0 + i)) := hc1
  replace HM : Hid (Mod X w w1) := HM.out.trans (hm1.mono (fun x hx => (d1 x hx.1).1))
  clear hc1 hm1 HC HL R1
  obtain ⟨p0, p1, p2, p3, p4⟩ := get5 R2
  clear R2
  go_wp2_with fail
  clear p0 p1 p2 p3 p4
  refine (markIntS_any _ _ D.nt D.t X2 (k0 + D.nc) _ (by omega) (by omega) HL1.out).mono ?_
  rintro e w2 ⟨rfl, hl2, hm2⟩
  have HC2 : Hid (IntsOwn X1 w2 v.a1 D.nc (fun i => k0 + i)) := HC1.out.mod' hm2 (fun x hx hh => (d1 x hx).2 hh.1)
  have HL2 : Hid (IntsOwn X2 w2 v.a2 D.nt (fun i => k0 + D.nc + i)) := hl2
  replace HM : Hid (Mod X w w2) := HM.out.trans (hm2.mono (fun x hx => d2 x hx.1))
  clear hl2 hm2 HL1 HC1
  go_wp2
  go_ret
  exact ⟨ret_int (by unfold GD.total; omega), ⟨X1, X2, d1, d2, HC2.out, HL2.out⟩, HM.out⟩
set_option maxHeartbeats 1600000 in
theorem heldGuest_any (v : GV) (D : GD) (X : Nat → Prop) (k0 : Int) (w : World) (hS : D.small) (h0 : 0 ≤ k0) (h1 : k0 ≤ 16777216) (h : GOwn X w v (D.marked k0)) :
    Calls Try.prog 76 #[v.val D, .int .i64 k0] w fun e w' => e = .returned (.int .i64 (k0 + D.total)) ∧ Blw w w' := by
  unfold GD.small at hS
  obtain ⟨X1, X2, d1, d2, hc, hl⟩ := h.ex
  have hA : Blw w (w.alloc (.cells #[.int .i64 D.at_, .int .i64 D.acc, .slice v.a1 D.nc v.c1, .slice v.a2 D.nt v.c2, .bool D.d] 61)) := (Blw.refl _).alloc _
  have HC : Hid (IntsAt X1 (w.alloc (.cells #[.int .i64 D.at_, .int .i64 D.acc, .slice v.a1 D.nc v.c1, .slice v.a2 D.nt v.c2, .bool D.d] 61)) v.a1 D.nc (fun i => k0 + i)) := (hc.blw hA).at
  have HL : Hid (IntsAt X2 (w.alloc (.cells #[.int .i64 D.at_, .int .i64 D.acc, .slice v.a1 D.nc v.c1, .slice v.a2 D.nt v.c2, .bool D.d] 61)) v.a2 D.nt (fun i => k0 + D.nc + i)) := (hl.blw hA).at
  have R1 : Hid (Row (w.alloc (.cells #[.int .i64 D.at_, .int .i64 D.acc, .slice v.a1 D.nc v.c1, .slice v.a2 D.nt v.c2, .bool D.d] 61)) w.heap.size 5 (gb v D)) := row5 w _ _ _ _ _ 61
  have HB : Hid (Blw w (w.alloc (.cells #[.int .i64 D.at_, .int .i64 D.acc, .slice v.a1 D.nc v.c1, .slice v.a2 D.nt v.c2, .bool D.d] 61))) := hA
  clear h hc hl hA
  go_enter Try.func76, Try.ntmps76
  obtain ⟨p0, p1, p2, p3, p4⟩ := get5 R1.out
  go_wp2_with fail
  clear p0 p1 p2 p3 p4
  refine (heldIntS_any _ _ D.nc X1 k0 _ (by omega) (by omega) HC.out).mono ?_
  rintro e w1 ⟨rfl, hb1⟩
  have R2 := R1.out.blw hb1
  replace HL : Hid (IntsAt X2 w1 v.a2 D.nt (fun i => k0 + D.nc + i)) := HL.out.blw hb1
  replace HB : Hid (Blw w w1) := HB.out.trans hb1
  clear hb1 HC R1
  obtain ⟨p0, p1, p2, p3, p4⟩ := get5 R2
  clear R2
  have k1 : ¬ (k0 + (D.nc : Int) < 0) := by omega
  go_wp2_with fail
  clear p0 p1 p2 p3 p4
  refine (heldIntS_any _ _ D.nt X2 (k0 + D.nc) _ (by omega) (by omega) HL.out).mono ?_
  rintro e w2 ⟨rfl, hb1⟩
  replace HB : Hid (Blw w w2) := HB.out.trans hb1
  clear hb1 HL k1
  have k2 : ¬ (k0 + (D.nc : Int) + (D.nt : Int) < 0) := by omega
  go_wp2
  go_ret
  exact ⟨ret_int (by unfold GD.total; omega), HB.out⟩
theorem set5 {w : World} {B : Nat} {a b c d e : Value} (r : Row w B 5 (fun i => if i = 0 then a else if i = 1 then b else if i = 2 then c else if i = 3 then d else e)) : (∀ u, Row (w.setCell ⟨B, 0, none⟩ u) B 5 (fun i => if i = 0 then u else if i = 1 then b else if i = 2 then c else if i = 3 then d else e)) ∧ (∀ u, Row (w.setCell ⟨B, 1, none⟩ u) B 5 (fun i => if i = 0 then a else if i = 1 then u else if i = 2 then c else if i = 3 then d else e)) ∧ (∀ u, Row (w.setCell ⟨B, 2, none⟩ u) B 5 (fun i => if i = 0 then a else if i = 1 then b else if i = 2 then u else if i = 3 then d else e)) ∧ (∀ u, Row (w.setCell ⟨B, 3, none⟩ u) B 5 (fun i => if i = 0 then a else if i = 1 then b else if i = 2 then c else if i = 3 then u else e)) := by
  refine ⟨fun u => (r.set 0 u).congr ?_, fun u => (r.set 1 u).congr ?_, fun u => (r.set 2 u).congr ?_, fun u => (r.set 3 u).congr ?_⟩ <;> intro i hi <;>
    (match i, hi with
    | 0, _ => rfl
    | 1, _ => rfl
    | 2, _ => rfl
    | 3, _ => rfl
    | 4, _ => rfl)
theorem set5_modG (W : World) (z : Nat) (v0 v1 v2 v3 v4 : Value) {X : Nat → Prop} (hz : X z) : Mod X W (((((W.setCell ⟨z, 0, none⟩ v0).setCell ⟨z, 1, none⟩ v1).setCell ⟨z, 2, none⟩ v2).setCell ⟨z, 3, none⟩ v3).setCell ⟨z, 4, none⟩ v4) :=
  ((((Mod.setCell _ (p := ⟨z, 0, none⟩) hz _).trans (Mod.setCell _ (p := ⟨z, 1, none⟩) hz _)).trans (Mod.setCell _ (p := ⟨z, 2, none⟩) hz _)).trans (Mod.setCell _ (p := ⟨z, 3, none⟩) hz _)).trans (Mod.setCell _ (p := ⟨z, 4, none⟩) hz _)
set_option maxRecDepth 10000 in
set_option maxHeartbeats 3200000 in
theorem toGuest_any (v : GV) (D : GD) (Y : Nat → Prop) (w : World) (hS : D.small) (h : GAt Y w v D) :
    Calls Try.prog 72 #[v.val D] w fun e w' => ∃ v' : GV, e = .returned (v'.val D) ∧ GOwn (fun x => w.heap.size ≤ x ∧ x < w'.heap.size) w' v' D ∧ Blw w w' := by
  unfold GD.small at hS
  have hb0 : Blw w (((w.alloc (.cells #[.int .i64 D.at_, .int .i64 D.acc, .slice v.a1 D.nc v.c1, .slice v.a2 D.nt v.c2, .bool D.d] 94)).alloc (.cells #[.int .i64 0, .int .i64 0, .slice none 0 0, .slice none 0 0, .bool false] 61)).alloc (.cells #[.int .i64 0, .int .i64 0, .slice none 0 0, .slice none 0 0, .bool false] 61)) := (((Blw.refl _).alloc _).alloc _).alloc _
  have r0 : Row (((w.alloc (.cells #[.int .i64 D.at_, .int .i64 D.acc, .slice v.a1 D.nc v.c1, .slice v.a2 D.nt v.c2, .bool D.d] 94)).alloc (.cells #[.int .i64 0, .int .i64 0, .slice none 0 0, .slice none 0 0, .bool false] 61)).alloc (.cells #[.int .i64 0, .int .i64 0, .slice none 0 0, .slice none 0 0, .bool false] 61)) w.heap.size 5 (gb v D) := (row5 w _ _ _ _ _ 94).blw (((Blw.refl _).alloc _).alloc _)
  have r1 := (row5 (w.alloc (.cells #[.int .i64 D.at_, .int .i64 D.acc, .slice v.a1 D.nc v.c1, .slice v.a2 D.nt v.c2, .bool D.d] 94)) (.int .i64 0) (.int .i64 0) (.slice none 0 0) (.slice none 0 0) (.bool false) 61).blw (w' := (((w.alloc (.cells #[.int .i64 D.at_, .int .i64 D.acc, .slice v.a1 D.nc v.c1, .slice v.a2 D.nt v.c2, .bool D.d] 94)).alloc (.cells #[.int .i64 0, .int .i64 0, .slice none 0 0, .slice none 0 0, .bool false] 61)).alloc (.cells #[.int .i64 0, .int .i64 0, .slice none 0 0, .slice none 0 0, .bool false] 61))) ((Blw.refl _).alloc _)
  have r2 := row5 ((w.alloc (.cells #[.int .i64 D.at_, .int .i64 D.acc, .slice v.a1 D.nc v.c1, .slice v.a2 D.nt v.c2, .bool D.d] 94)).alloc (.cells #[.int .i64 0, .int .i64 0, .slice none 0 0, .slice none 0 0, .bool false] 61)) (.int .i64 0) (.int .i64 0) (.slice none 0 0) (.slice none 0 0) (.bool false) 61
  rw [World.size_alloc] at r1
  rw [World.size_alloc, World.size_alloc] at r2
  have hz : (((w.alloc (.cells #[.int .i64 D.at_, .int .i64 D.acc, .slice v.a1 D.nc v.c1, .slice v.a2 D.nt v.c2, .bool D.d] 94)).alloc (.cells #[.int .i64 0, .int .i64 0, .slice none 0 0, .slice none 0 0, .bool false] 61)).alloc (.cells #[.int .i64 0, .int .i64 0, .slice none 0 0, .slice none 0 0, .bool false] 61)).heap.size = w.heap.size + 1 + 1 + 1 := by simp
  have HN : Hid (GAt Y (((w.alloc (.cells #[.int .i64 D.at_, .int .i64 D.acc, .slice v.a1 D.nc v.c1, .slice v.a2 D.nt v.c2, .bool D.d] 94)).alloc (.cells #[.int .i64 0, .int .i64 0, .slice none 0 0, .slice none 0 0, .bool false] 61)).alloc (.cells #[.int .i64 0, .int .i64 0, .slice none 0 0, .slice none 0 0, .bool false] 61)) v D) := h.blw hb0
  have HB : Hid (Blw w (((w.alloc (.cells #[.int .i64 D.at_, .int .i64 D.acc, .slice v.a1 D.nc v.c1, .slice v.a2 D.nt v.c2, .bool D.d] 94)).alloc (.cells #[.int .i64 0, .int .i64 0, .slice none 0 0, .slice none 0 0, .bool false] 61)).alloc (.cells #[.int .i64 0, .int .i64 0, .slice none 0 0, .slice none 0 0, .bool false] 61))) := hb0
  have R0 : Hid (Row (((w.alloc (.cells #[.int .i64 D.at_, .int .i64 D.acc, .slice v.a1 D.nc v.c1, .slice v.a2 D.nt v.c2, .bool D.d] 94)).alloc (.cells #[.int .i64 0, .int .i64 0, .slice none 0 0, .slice none 0 0, .bool false] 61)).alloc (.cells #[.int .i64 0, .int .i64 0, .slice none 0 0, .slice none 0 0, .bool false] 61)) w.heap.size 5 (gb v D)) := r0
  have R1 : Hid (Row (((w.alloc (.cells #[.int .i64 D.at_, .int .i64 D.acc, .slice v.a1 D.nc v.c1, .slice v.a2 D.nt v.c2, .bool D.d] 94)).alloc (.cells #[.int .i64 0, .int .i64 0, .slice none 0 0, .slice none 0 0, .bool false] 61)).alloc (.cells #[.int .i64 0, .int .i64 0, .slice none 0 0, .slice none 0 0, .bool false] 61)) (w.heap.size + 1) 5 (fun i => if i = 0 then .int .i64 0 else if i = 1 then .int .i64 0 else if i = 2 then .slice none 0 0 else if i = 3 then .slice none 0 0 else .bool false)) := r1
  have R2 : Hid (Row (((w.alloc (.cells #[.int .i64 D.at_, .int .i64 D.acc, .slice v.a1 D.nc v.c1, .slice v.a2 D.nt v.c2, .bool D.d] 94)).alloc (.cells #[.int .i64 0, .int .i64 0, .slice none 0 0, .slice none 0 0, .bool false] 61)).alloc (.cells #[.int .i64 0, .int .i64 0, .slice none 0 0, .slice none 0 0, .bool false] 61)) (w.heap.size + 1 + 1) 5 (fun i => if i = 0 then .int .i64 0 else if i = 1 then .int .i64 0 else if i = 2 then .slice none 0 0 else if i = 3 then .slice none 0 0 else .bool false)) := r2
  have HZ : Hid ((((w.alloc (.cells #[.int .i64 D.at_, .int .i64 D.acc, .slice v.a1 D.nc v.c1, .slice v.a2 D.nt v.c2, .bool D.d] 94)).alloc (.cells #[.int .i64 0, .int .i64 0, .slice none 0 0, .slice none 0 0, .bool false] 61)).alloc (.cells #[.int .i64 0, .int .i64 0, .slice none 0 0, .slice none 0 0, .bool false] 61)).heap.size = w.heap.size + 1 + 1 + 1) := hz
  have HW : Hid (GAt Y w v D) := h
  clear h hb0 r0 r1 r2 hz
  go_enter Try.func72, Try.ntmps72
  go_upto_region 2 with fail
  generalize (((w.alloc (.cells #[.int .i64 D.at_, .int .i64 D.acc, .slice v.a1 D.nc v.c1, .slice v.a2 D.nt v.c2, .bool D.d] 94)).alloc (.cells #[.int .i64 0, .int .i64 0, .slice none 0 0, .slice none 0 0, .bool false] 61)).alloc (.cells #[.int .i64 0, .int .i64 0, .slice none 0 0, .slice none 0 0, .bool false] 61)) = W0 at *
  have hm1 : Mod (fun x => x = w.heap.size + 1 + 1) W0 ((W0.setCell ⟨w.heap.size + 1 + 1, 0, none⟩ (.int .i64 D.at_)).setCell ⟨w.heap.size + 1 + 1, 1, none⟩ (.int .i64 D.acc)) := (Mod.setCell (X := fun x => x = w.heap.size + 1 + 1) _ (p := ⟨w.heap.size + 1 + 1, 0, none⟩) rfl _).trans (Mod.setCell (X := fun x => x = w.heap.size + 1 + 1) _ (p := ⟨w.heap.size + 1 + 1, 1, none⟩) rfl _)
  have S2 : Hid (Row ((W0.setCell ⟨w.heap.size + 1 + 1, 0, none⟩ (.int .i64 D.at_)).setCell ⟨w.heap.size + 1 + 1, 1, none⟩ (.int .i64 D.acc)) (w.heap.size + 1 + 1) 5 (fun i => if i = 0 then .int .i64 D.at_ else if i = 1 then .int .i64 D.acc else if i = 2 then .slice none 0 0 else if i = 3 then .slice none 0 0 else .bool false)) := (set5 ((set5 R2.out).1 _)).2.1 _
  have S0 : Hid (Row ((W0.setCell ⟨w.heap.size + 1 + 1, 0, none⟩ (.int .i64 D.at_)).setCell ⟨w.heap.size + 1 + 1, 1, none⟩ (.int .i64 D.acc)) w.heap.size 5 (gb v D)) := R0.out.mod hm1 (by omega)
  have S1 : Hid (Row ((W0.setCell ⟨w.heap.size + 1 + 1, 0, none⟩ (.int .i64 D.at_)).setCell ⟨w.heap.size + 1 + 1, 1, none⟩ (.int .i64 D.acc)) (w.heap.size + 1) 5 (fun i => if i = 0 then .int .i64 0 else if i = 1 then .int .i64 0 else if i = 2 then .slice none 0 0 else if i = 3 then .slice none 0 0 else .bool false)) := R1.out.mod hm1 (by omega)
  have HZ2 : Hid (((W0.setCell ⟨w.heap.size + 1 + 1, 0, none⟩ (.int .i64 D.at_)).setCell ⟨w.heap.size + 1 + 1, 1, none⟩ (.int .i64 D.acc)).heap.size = w.heap.size + 1 + 1 + 1) := by have := HZ.out; show _ = _; simpa using this
  have hz0 := HZ.out
  have HB2 : Hid (Blw w ((W0.setCell ⟨w.heap.size + 1 + 1, 0, none⟩ (.int .i64 D.at_)).setCell ⟨w.heap.size + 1 + 1, 1, none⟩ (.int .i64 D.acc))) := Mod.blw HB.out hm1 (fun i hi => by omega)
  have HN2 : Hid (GAt Y ((W0.setCell ⟨w.heap.size + 1 + 1, 0, none⟩ (.int .i64 D.at_)).setCell ⟨w.heap.size + 1 + 1, 1, none⟩ (.int .i64 D.acc)) v D) := HW.out.blw HB2.out
  obtain ⟨p0, p1, p2, p3, p4⟩ := get5 R0.out
  obtain ⟨q0, q1, q2, q3, q4⟩ := get5 R2.out
  have f0 := R2.out.frozen 0
  have f1 := R2.out.frozen 1
  obtain ⟨t0, t1, t2, t3, t4⟩ := get5 S0.out
  clear HN HB R0 R1 R2 HZ hz0 hm1
  go_wp2_with fail
  clear p0 p1 p2 p3 p4 q0 q1 q2 q3 q4 t0 t1 t2 t3 t4 f0 f1
  generalize ((W0.setCell ⟨w.heap.size + 1 + 1, 0, none⟩ (.int .i64 D.at_)).setCell ⟨w.heap.size + 1 + 1, 1, none⟩ (.int .i64 D.acc)) = w2 at *
  refine (toIntS_any _ _ D.nc D.c Y _ (by omega) HN2.out.c).mono ?_
  rintro e w1 ⟨rfl, hi, hb1⟩
  have hzz := HZ2.out
  rw [hzz] at hi ⊢
  have hlt := hi.lt
  have hm2 : Mod (fun x => x = w.heap.size + 1 + 1) w1 (w1.setCell ⟨w.heap.size + 1 + 1, 2, none⟩ (.slice (some ⟨w.heap.size + 1 + 1 + 1, 0, none⟩) D.nc D.nc)) := Mod.setCell (X := fun x => x = w.heap.size + 1 + 1) _ (p := ⟨w.heap.size + 1 + 1, 2, none⟩) rfl _
  have hs2 := hm2.size
  obtain ⟨p0, p1, p2, p3, p4⟩ := get5 (S0.out.blw hb1)
  obtain ⟨q0, q1, q2, q3, q4⟩ := get5 (S2.out.blw hb1)
  have f2 := (S2.out.blw hb1).frozen 2
  have T2 : Hid (Row (w1.setCell ⟨w.heap.size + 1 + 1, 2, none⟩ (.slice (some ⟨w.heap.size + 1 + 1 + 1, 0, none⟩) D.nc D.nc)) (w.heap.size + 1 + 1) 5 (fun i => if i = 0 then .int .i64 D.at_ else if i = 1 then .int .i64 D.acc else if i = 2 then .slice (some ⟨w.heap.size + 1 + 1 + 1, 0, none⟩) D.nc D.nc else if i = 3 then .slice none 0 0 else .bool false)) := (set5 (S2.out.blw hb1)).2.2.1 _
  have T0 : Hid (Row (w1.setCell ⟨w.heap.size + 1 + 1, 2, none⟩ (.slice (some ⟨w.heap.size + 1 + 1 + 1, 0, none⟩) D.nc D.nc)) w.heap.size 5 (gb v D)) := (S0.out.blw hb1).mod hm2 (by omega)
  have T1 : Hid (Row (w1.setCell ⟨w.heap.size + 1 + 1, 2, none⟩ (.slice (some ⟨w.heap.size + 1 + 1 + 1, 0, none⟩) D.nc D.nc)) (w.heap.size + 1) 5 (fun i => if i = 0 then .int .i64 0 else if i = 1 then .int .i64 0 else if i = 2 then .slice none 0 0 else if i = 3 then .slice none 0 0 else .bool false)) := (S1.out.blw hb1).mod hm2 (by omega)
  have TI : Hid (Row (w1.setCell ⟨w.heap.size + 1 + 1, 2, none⟩ (.slice (some ⟨w.heap.size + 1 + 1 + 1, 0, none⟩) D.nc D.nc)) (w.heap.size + 1 + 1 + 1) D.nc (fun t => .int .i64 (D.c t))) := hi.mod hm2 (by omega)
  have HB3 : Hid (Blw w (w1.setCell ⟨w.heap.size + 1 + 1, 2, none⟩ (.slice (some ⟨w.heap.size + 1 + 1 + 1, 0, none⟩) D.nc D.nc))) := Mod.blw (HB2.out.trans hb1) hm2 (fun i hi => by omega)
  have HN3 : Hid (GAt Y (w1.setCell ⟨w.heap.size + 1 + 1, 2, none⟩ (.slice (some ⟨w.heap.size + 1 + 1 + 1, 0, none⟩) D.nc D.nc)) v D) := HW.out.blw HB3.out
  have HZ3 : Hid (w.heap.size + 1 + 1 + 1 < (w1.setCell ⟨w.heap.size + 1 + 1, 2, none⟩ (.slice (some ⟨w.heap.size + 1 + 1 + 1, 0, none⟩) D.nc D.nc)).heap.size) := by show _ < _; omega
  obtain ⟨t0, t1, t2, t3, t4⟩ := get5 T0.out
  clear HN2 HB2 S0 S1 S2 HZ2 hb1 hm2 hi hlt hs2 hzz
  go_wp2_with fail
  clear p0 p1 p2 p3 p4 q0 q1 q2 q3 q4 t0 t1 t2 t3 t4 f2
  generalize (w1.setCell ⟨w.heap.size + 1 + 1, 2, none⟩ (.slice (some ⟨w.heap.size + 1 + 1 + 1, 0, none⟩) D.nc D.nc)) = w3 at *
  refine (toIntS_any _ _ D.nt D.t Y _ (by omega) HN3.out.t).mono ?_
  rintro e w4 ⟨rfl, hi, hb1⟩
  have hz3 := HZ3.out
  have hs4 := hb1.size
  have hlt := hi.lt
  generalize w3.heap.size = z3 at *
  obtain ⟨p0, p1, p2, p3, p4⟩ := get5 (T0.out.blw hb1)
  obtain ⟨q0, q1, q2, q3, q4⟩ := get5 (T2.out.blw hb1)
  obtain ⟨t0, t1, t2, t3, t4⟩ := get5 (T1.out.blw hb1)
  have f3 := (T2.out.blw hb1).frozen 3
  have f4 := (T2.out.blw hb1).frozen 4
  have g0 := (T1.out.blw hb1).frozen 0; have g1 := (T1.out.blw hb1).frozen 1; have g2 := (T1.out.blw hb1).frozen 2; have g3 := (T1.out.blw hb1).frozen 3; have g4 := (T1.out.blw hb1).frozen 4
  have HB4 : Hid (Blw w w4) := HB3.out.trans hb1
  have TI4 : Hid (Row w4 (w.heap.size + 1 + 1 + 1) D.nc (fun t => .int .i64 (D.c t))) := TI.out.blw hb1
  have TT4 : Hid (Row w4 z3 D.nt (fun t => .int .i64 (D.t t))) := hi
  have HZ4 : Hid (w.heap.size + 1 + 1 + 1 < z3 ∧ z3 < w4.heap.size) := ⟨hz3, hlt⟩
  clear HN3 HB3 T0 T1 T2 TI HZ3 hb1 hi hlt hz3 hs4 HW
  go_wp2
  refine bodyPost_ret (v := GV.val ⟨some ⟨w.heap.size + 1 + 1 + 1, 0, none⟩, some ⟨z3, 0, none⟩, D.nc, D.nt⟩ D) (by simp [results, Try.results72, go_sem, t0, t1, t2, t3, t4]) rfl ?_
  have m1 : Mod (fun x => x = w.heap.size + 1 ∨ x = w.heap.size + 1 + 1) w4 (((((((w4.setCell ⟨w.heap.size + 1 + 1, 3, none⟩ (.slice (some ⟨z3, 0, none⟩) D.nt D.nt)).setCell ⟨w.heap.size + 1 + 1, 4, none⟩ (.bool D.d)).setCell ⟨w.heap.size + 1, 0, none⟩ (.int .i64 D.at_)).setCell ⟨w.heap.size + 1, 1, none⟩ (.int .i64 D.acc)).setCell ⟨w.heap.size + 1, 2, none⟩ (.slice (some ⟨w.heap.size + 1 + 1 + 1, 0, none⟩) D.nc D.nc)).setCell ⟨w.heap.size + 1, 3, none⟩ (.slice (some ⟨z3, 0, none⟩) D.nt D.nt)).setCell ⟨w.heap.size + 1, 4, none⟩ (.bool D.d)) :=
    ((Mod.setCell _ (p := ⟨w.heap.size + 1 + 1, 3, none⟩) (Or.inr rfl) _).trans (Mod.setCell _ (p := ⟨w.heap.size + 1 + 1, 4, none⟩) (Or.inr rfl) _)).trans (set5_modG _ (w.heap.size + 1) _ _ _ _ _ (Or.inl rfl))
  have h4 := HZ4.out
  have h5 := m1.size
  exact ⟨_, rfl, GOwn.two (by omega) (by omega) (TI4.out.mod m1 (by omega)) (TT4.out.mod m1 (by omega)) ⟨by omega, by omega⟩ ⟨by omega, by omega⟩ (by omega) _ _, Mod.blw HB4.out m1 (fun i hi => by omega)⟩
end Go.Proofs.Ytbpdopcdhnemfaa
/- Small machines: the model's tests of programs and guests, and small tests of the program. -/
namespace Go.Proofs.Ytbpdopcdhnemfaa
open Go.RowKit
set_option linter.unusedSimpArgs false
set_option linter.unusedVariables false
set_option maxHeartbeats 400000 in
theorem l1All_yes (ao : Option Addr) (c n : Nat) (f : Nat → Int) (lo hi : Int) (Y : Nat → Prop) (w : World) (h : IntsAt Y w ao n f) (ha : ∀ i, i < n → lo ≤ f i ∧ f i ≤ hi) :
    Calls Try.prog 128 #[.slice ao n c, .int .i64 lo, .int .i64 hi] w fun e w' => e = .returned (.bool true) ∧ w' = w := by
  obtain ⟨hn, h⟩ := h
  go_enter Try.func128, Try.ntmps128
  go_wp2
  go_loop [11] (fun i => ∃ j : Nat, j ≤ n ∧ i = .int .i64 j) (fun i => n - (intOf i).toNat)
  case atStart => exact ⟨0, Nat.zero_le _, rfl⟩
  case round =>
    obtain ⟨j, hj, rfl⟩ := hrel
    by_cases hlt : j < n
    · obtain ⟨b, o, rfl, -, g1⟩ := h j hlt
      have hr := ha j hlt
      clear h ha
      go_wp2_with fail
      refine (l1In_yes _ _ _ _ hr.1 hr.2).mono ?_
      rintro e w' ⟨rfl, rfl⟩
      go_wp2
      go_round
      case rel => exact ⟨j + 1, by omega, by go_num⟩
      case measure => simp [intOf]; omega
    · go_wp2
      go_ret
      exact ⟨rfl, rfl⟩
set_option maxHeartbeats 400000 in
theorem l1All_no (ao : Option Addr) (c n : Nat) (f : Nat → Int) (lo hi : Int) (Y : Nat → Prop) (w : World) (h : IntsAt Y w ao n f) (i : Nat) (hi0 : i < n) (ha : ¬ (lo ≤ f i ∧ f i ≤ hi)) :
    Calls Try.prog 128 #[.slice ao n c, .int .i64 lo, .int .i64 hi] w fun e w' => e = .returned (.bool false) ∧ w' = w := by
  obtain ⟨hn, h⟩ := h
  have HA : Hid (¬ (lo ≤ f i ∧ f i ≤ hi)) := ha
  clear ha
  go_enter Try.func128, Try.ntmps128
  go_wp2
  go_loop [11] (fun ii => ∃ j : Nat, j ≤ i ∧ ii = .int .i64 j) (fun i => n - (intOf i).toNat)
  case atStart => exact ⟨0, Nat.zero_le _, rfl⟩
  case round =>
    obtain ⟨j, hj, rfl⟩ := hrel
    have hlt : j < n := by omega
    obtain ⟨b, o, rfl, -, g1⟩ := h j hlt
    clear h
    by_cases hr : lo ≤ f j ∧ f j ≤ hi
    · have hne : j ≠ i := fun e => HA.out (e ▸ hr)
      obtain ⟨hr1, hr2⟩ := hr
      go_wp2_with fail
      refine (l1In_yes _ _ _ _ hr1 hr2).mono ?_
      rintro e w' ⟨rfl, rfl⟩
      go_wp2
      go_round
      case rel => exact ⟨j + 1, by omega, by go_num⟩
      case measure => simp [intOf]; omega
    · have HR : Hid (¬ (lo ≤ f j ∧ f j ≤ hi)) := hr
      clear hr
      go_wp2_with fail
      refine (l1In_no _ _ _ _ HR.out).mono ?_
      rintro e w' ⟨rfl, rfl⟩
      go_wp2
      go_ret
      exact ⟨rfl, rfl⟩
set_option maxHeartbeats 400000 in
theorem l1Same_yes (a1 a2 : Option Addr) (c1 c2 n0 : Nat) (f g : Nat → Int) {Y Z : Nat → Prop} (w : World) (h1 : IntsAt Y w a1 n0 f) (h2 : IntsAt Z w a2 n0 g) (he : ∀ i, i < n0 → f i = g i) :
    Calls Try.prog 178 #[.slice a1 n0 c1, .slice a2 n0 c2] w fun e w' => e = .returned (.bool true) ∧ ∃ n, w' = w.drewN n := by
  replace h2 := h2.congr (fun i hi => (he i hi).symm)
  clear he
  obtain ⟨hl, h1⟩ := h1
  obtain ⟨-, h2⟩ := h2
  go_enter Try.func178, Try.ntmps178
  go_wp2
  go_loopw [13] (fun i wr => ∃ k n : Nat, k ≤ n0 ∧ i = .int .i64 k ∧ wr = w.drewN n) (fun i _ => n0 - (intOf i).toNat)
  case atStart => exact ⟨0, 0, Nat.zero_le _, rfl, rfl⟩
  case round =>
    obtain ⟨k, n, hk, rfl, rfl⟩ := hrel
    by_cases hlt : k < n0
    · obtain ⟨b, o, rfl, -, g1⟩ := h1 k hlt
      obtain ⟨b', o', rfl, -, g2⟩ := h2 k hlt
      clear h1 h2
      go_wp2
      go_quiet (fail)
      go_wp2
      go_roundw
      case rel => exact ⟨k + 1, _, by omega, by go_num, rfl⟩
      case measure => simp [intOf]; omega
    · go_wp2
      go_ret
      exact ⟨rfl, n, rfl⟩
set_option maxHeartbeats 400000 in
theorem l1Same_no (a1 a2 : Option Addr) (c1 c2 n0 : Nat) (f g : Nat → Int) {Y Z : Nat → Prop} (w : World) (h1 : IntsAt Y w a1 n0 f) (h2 : IntsAt Z w a2 n0 g) (i : Nat) (hi : i < n0) (he : ¬ f i = g i) :
    Calls Try.prog 178 #[.slice a1 n0 c1, .slice a2 n0 c2] w fun e w' => e = .returned (.bool false) ∧ ∃ n, w' = w.drewN n := by
  obtain ⟨hl, h1⟩ := h1
  obtain ⟨-, h2⟩ := h2
  have HE : Hid (¬ f i = g i) := he
  clear he
  go_enter Try.func178, Try.ntmps178
  go_wp2
  go_loopw [13] (fun ii wr => ∃ k n : Nat, k ≤ i ∧ ii = .int .i64 k ∧ wr = w.drewN n) (fun i _ => n0 - (intOf i).toNat)
  case atStart => exact ⟨0, 0, Nat.zero_le _, rfl, rfl⟩
  case round =>
    obtain ⟨k, n, hk, rfl, rfl⟩ := hrel
    have hlt : k < n0 := by omega
    obtain ⟨b, o, rfl, -, g1⟩ := h1 k hlt
    obtain ⟨b', o', rfl, -, g2⟩ := h2 k hlt
    clear h1 h2
    by_cases hf : f k = g k
    · have hne : k ≠ i := fun e => HE.out (e ▸ hf)
      rw [← hf] at g2
      clear hf
      go_wp2
      go_quiet (fail)
      go_wp2
      go_roundw
      case rel => exact ⟨k + 1, _, by omega, by go_num, rfl⟩
      case measure => simp [intOf]; omega
    · have hb : (f k != g k) = true := by simpa using hf
      clear hf
      go_wp2
      go_quiet (fail)
      go_wp2
      go_ret
      exact ⟨rfl, _, by simp only [World.drewN_drewN]; rfl⟩

theorem l1All_any (ao : Option Addr) (c n : Nat) (f : Nat → Int) (lo hi : Int) (Y : Nat → Prop) (w : World) (h : IntsAt Y w ao n f) :
    Calls Try.prog 128 #[.slice ao n c, .int .i64 lo, .int .i64 hi] w fun e w' => ∃ r, e = .returned (.bool r) ∧ (r = true ↔ ∀ i, i < n → lo ≤ f i ∧ f i ≤ hi) ∧ w' = w := by
  by_cases ha : ∀ i, i < n → lo ≤ f i ∧ f i ≤ hi
  · exact (l1All_yes ao c n f lo hi Y w h ha).mono fun e w' ⟨h1, h2⟩ => ⟨true, h1, ⟨fun _ => ha, fun _ => rfl⟩, h2⟩
  · obtain ⟨i, hi0, hn⟩ : ∃ i, i < n ∧ ¬ (lo ≤ f i ∧ f i ≤ hi) := Classical.byContradiction fun hx => ha fun i hi0 => Classical.byContradiction fun hy => hx ⟨i, hi0, hy⟩
    exact (l1All_no ao c n f lo hi Y w h i hi0 hn).mono fun e w' ⟨h1, h2⟩ => ⟨false, h1, iff_f ha, h2⟩
set_option maxHeartbeats 400000 in
theorem l9Word_any (n : Int) (w : World) : Calls Try.prog 127 #[.int .i64 n] w fun e w' => ∃ r, e = .returned (.bool r) ∧ (r = true ↔ wordOK n) ∧ w' = w := by
  go_enter Try.func127, Try.ntmps127
  go_wp2_with fail
  refine (l1In_any n 0 65535 _).mono ?_
  rintro e w' ⟨r, rfl, hr, rfl⟩
  have HR : Hid (r = true ↔ wordOK n) := hr
  clear hr
  go_wp2
  go_ret
  exact ⟨r, rfl, HR.out, rfl⟩
set_option maxHeartbeats 400000 in
theorem isWord_any (n : Int) (w : World) : Calls Try.prog 176 #[.int .i64 n] w fun e w' => ∃ r, e = .returned (.bool r) ∧ (r = true ↔ wordOK n) ∧ w' = w := by
  by_cases h1 : 0 ≤ n
  · by_cases h2 : n ≤ 65535
    · have H : Hid (wordOK n) := ⟨h1, by omega⟩
      have d1 : decide (n ≥ 0) = true := by simpa using h1
      have d2 : decide (n ≤ 65535) = true := by simp; omega
      clear h1 h2
      go_enter Try.func176, Try.ntmps176
      go_wp2
      go_ret
      exact ⟨true, rfl, iff_t H.out, rfl⟩
    · have H : Hid (¬ (wordOK n)) := fun g => h2 (by have := g.2; omega)
      have d1 : decide (n ≥ 0) = true := by simpa using h1
      have d2 : decide (n ≤ 65535) = false := by simp; omega
      clear h1 h2
      go_enter Try.func176, Try.ntmps176
      go_wp2
      go_ret
      exact ⟨false, rfl, iff_f H.out, rfl⟩
  · have H : Hid (¬ (wordOK n)) := fun g => h1 g.1
    have d1 : decide (n ≥ 0) = false := by simp; omega
    clear h1
    go_enter Try.func176, Try.ntmps176
    go_wp2
    go_ret
    exact ⟨false, rfl, iff_f H.out, rfl⟩
def roomOK (n : Int) : Prop := 0 ≤ n ∧ n ≤ 7
def stepsOK (n : Int) : Prop := 0 ≤ n ∧ n ≤ 60
set_option maxHeartbeats 400000 in
theorem isInRoom_any (n : Int) (w : World) : Calls Try.prog 196 #[.int .i64 n] w fun e w' => ∃ r, e = .returned (.bool r) ∧ (r = true ↔ roomOK n) ∧ w' = w := by
  by_cases h1 : 0 ≤ n
  · by_cases h2 : n < 8
    · have H : Hid (roomOK n) := ⟨h1, by omega⟩
      have d1 : decide (n ≥ 0) = true := by simpa using h1
      have d2 : decide (n < 8) = true := by simp; omega
      clear h1 h2
      go_enter Try.func196, Try.ntmps196
      go_wp2
      go_ret
      exact ⟨true, rfl, iff_t H.out, rfl⟩
    · have H : Hid (¬ (roomOK n)) := fun g => h2 (by have := g.2; omega)
      have d1 : decide (n ≥ 0) = true := by simpa using h1
      have d2 : decide (n < 8) = false := by simp; omega
      clear h1 h2
      go_enter Try.func196, Try.ntmps196
      go_wp2
      go_ret
      exact ⟨false, rfl, iff_f H.out, rfl⟩
  · have H : Hid (¬ (roomOK n)) := fun g => h1 g.1
    have d1 : decide (n ≥ 0) = false := by simp; omega
    clear h1
    go_enter Try.func196, Try.ntmps196
    go_wp2
    go_ret
    exact ⟨false, rfl, iff_f H.out, rfl⟩
set_option maxHeartbeats 400000 in
theorem isSteps_any (n : Int) (w : World) : Calls Try.prog 173 #[.int .i64 n] w fun e w' => ∃ r, e = .returned (.bool r) ∧ (r = true ↔ stepsOK n) ∧ w' = w := by
  by_cases h1 : 0 ≤ n
  · by_cases h2 : n ≤ 60
    · have H : Hid (stepsOK n) := ⟨h1, by omega⟩
      have d1 : decide (n ≥ 0) = true := by simpa using h1
      have d2 : decide (n ≤ 60) = true := by simp; omega
      clear h1 h2
      go_enter Try.func173, Try.ntmps173
      go_wp2
      go_ret
      exact ⟨true, rfl, iff_t H.out, rfl⟩
    · have H : Hid (¬ (stepsOK n)) := fun g => h2 (by have := g.2; omega)
      have d1 : decide (n ≥ 0) = true := by simpa using h1
      have d2 : decide (n ≤ 60) = false := by simp; omega
      clear h1 h2
      go_enter Try.func173, Try.ntmps173
      go_wp2
      go_ret
      exact ⟨false, rfl, iff_f H.out, rfl⟩
  · have H : Hid (¬ (stepsOK n)) := fun g => h1 g.1
    have d1 : decide (n ≥ 0) = false := by simp; omega
    clear h1
    go_enter Try.func173, Try.ntmps173
    go_wp2
    go_ret
    exact ⟨false, rfl, iff_f H.out, rfl⟩
set_option maxHeartbeats 800000 in
theorem areWords_any (ao : Option Addr) (c n : Nat) (f : Nat → Int) (Y : Nat → Prop) (w : World) (h : IntsAt Y w ao n f) :
    Calls Try.prog 177 #[.slice ao n c] w fun e w' => ∃ r, e = .returned (.bool r) ∧ (r = true ↔ ∀ i, i < n → wordOK (f i)) ∧ w' = w := by
  obtain ⟨hn, h⟩ := h
  have HH : Hid (∀ i, i < n → ∃ b o, ao = some ⟨b, o, none⟩ ∧ Y b ∧ w.cell? ⟨b, o + i, none⟩ = some (.int .i64 (f i))) := h
  clear h
  go_enter Try.func177, Try.ntmps177
  go_wp2
  go_loopw [7] (fun i wr => ∃ k : Nat, k ≤ n ∧ i = .int .i64 k ∧ (∀ t, t < k → wordOK (f t)) ∧ wr = w) (fun i _ => n - (intOf i).toNat)
  case atStart => exact ⟨0, Nat.zero_le _, rfl, fun t ht => absurd ht (Nat.not_lt_zero _), rfl⟩
  case round =>
    obtain ⟨k, hk, rfl, hok, rfl⟩ := hrel
    have HO : Hid (∀ t, t < k → wordOK (f t)) := hok
    clear hok
    by_cases hlt : k < n
    · obtain ⟨b, o, rfl, -, g1⟩ := HH.out k hlt
      have hlt' : (k : Int) < n := by omega
      go_wp2_with fail
      refine (isWord_any (f k) _).mono ?_
      rintro e w2 ⟨r, rfl, hr, rfl⟩
      have HR : Hid (r = true ↔ wordOK (f k)) := hr
      clear hr
      cases r
      · have H : Hid (¬ ∀ i, i < n → wordOK (f i)) := fun g => by have := HR.out.2 (g k hlt); cases this
        go_wp2
        go_ret
        exact ⟨false, rfl, iff_f H.out, rfl⟩
      · have HN : Hid (∀ t, t < k + 1 → wordOK (f t)) := fun t ht => by
          by_cases e : t = k
          · subst e; exact HR.out.1 (by first | rfl | trivial)
          · exact HO.out t (by omega)
        clear HO HR
        go_wp2
        go_roundw
        case rel => exact ⟨k + 1, by omega, by go_num, HN.out, by first | rfl | trivial⟩
        case measure => simp [intOf]; omega
    · obtain rfl : k = n := by omega
      go_wp2
      go_ret
      exact ⟨true, rfl, iff_t HO.out, rfl⟩
set_option maxHeartbeats 800000 in
theorem l9Ins_any (k a x : Int) (w : World) : Calls Try.prog 130 #[.agg #[.int .i64 k, .int .i64 a, .int .i64 x]] w fun e w' => ∃ r, e = .returned (.bool r) ∧ (r = true ↔ insOK k a x) ∧ Blw w w' := by
  have hb0 : Blw w (w.alloc (.cells #[.int .i64 k, .int .i64 a, .int .i64 x] 170)) := (Blw.refl _).alloc _
  have ex : ∀ j : Int, k = j → (k == j) = true := fun j h => by simp [h]
  have ne : ∀ j : Int, ¬ k = j → (k == j) = false := fun j h => by simp [h]
  by_cases k12 : k = 1 ∨ k = 2
  · have IFF : Hid (insOK k a x ↔ a = 0 ∧ wordOK x) := ⟨fun g => by rcases g with q | q | q | q <;> first | exact ⟨q.2.1, q.2.2⟩ | (exfalso; omega), fun g => Or.inl ⟨k12, g.1, g.2⟩⟩
    by_cases ha : a = 0
    · have da : (a == 0) = true := by simp [ha]
      have HA : Hid (a = 0) := ha
      clear ha
      rcases k12 with e | e
      all_goals
        subst e
        clear ex ne
        go_enter Try.func130, Try.ntmps130
        go_wp2_with fail
        refine (l9Word_any x _).mono ?_
        rintro e w' ⟨r, rfl, hr, rfl⟩
        have HR : Hid (r = true ↔ wordOK x) := hr
        clear hr da
        cases r
        · go_wp2
          go_ret
          exact ⟨false, rfl, iff_f (fun g => by have := HR.out.2 (IFF.out.1 g).2; cases this), hb0⟩
        · go_wp2
          go_ret
          exact ⟨true, rfl, iff_t (IFF.out.2 ⟨HA.out, HR.out.1 (by first | rfl | trivial)⟩), hb0⟩
    · have da : (a == 0) = false := by simp [ha]
      have HA : Hid (¬ a = 0) := ha
      clear ha
      rcases k12 with e | e
      all_goals
        subst e
        clear ex ne
        go_enter Try.func130, Try.ntmps130
        go_wp2
        go_ret
        exact ⟨false, rfl, iff_f (fun g => HA.out (IFF.out.1 g).1), hb0⟩
  have n1 : (k == 1) = false := ne 1 (fun e => k12 (Or.inl e))
  have n2 : (k == 2) = false := ne 2 (fun e => k12 (Or.inr e))
  by_cases k34 : k = 3 ∨ k = 4
  · have IFF : Hid (insOK k a x ↔ (0 ≤ a ∧ a ≤ 7) ∧ x = 0) := ⟨fun g => by rcases g with q | q | q | q <;> first | exact ⟨q.2.1, q.2.2⟩ | (exfalso; omega), fun g => Or.inr (Or.inl ⟨k34, g.1, g.2⟩)⟩
    clear k12 n1 n2
    rcases k34 with e | e
    all_goals
      subst e
      clear ex ne
      go_enter Try.func130, Try.ntmps130
      go_wp2_with fail
      refine (l1In_any a 0 7 _).mono ?_
      rintro e w' ⟨r, rfl, hr, rfl⟩
      have HR : Hid (r = true ↔ 0 ≤ a ∧ a ≤ 7) := hr
      clear hr
      cases r
      · go_wp2
        go_ret
        exact ⟨false, rfl, iff_f (fun g => by have := HR.out.2 (IFF.out.1 g).1; cases this), hb0⟩
      by_cases hx : x = 0
      · have dx : (x == 0) = true := by simp [hx]
        have HX : Hid (x = 0) := hx
        clear hx
        go_wp2
        go_ret
        exact ⟨true, rfl, iff_t (IFF.out.2 ⟨HR.out.1 (by first | rfl | trivial), HX.out⟩), hb0⟩
      · have dx : (x == 0) = false := by simp [hx]
        have HX : Hid (¬ x = 0) := hx
        clear hx
        go_wp2
        go_ret
        exact ⟨false, rfl, iff_f (fun g => HX.out (IFF.out.1 g).2), hb0⟩
  have n3 : (k == 3) = false := ne 3 (fun e => k34 (Or.inl e))
  have n4 : (k == 4) = false := ne 4 (fun e => k34 (Or.inr e))
  by_cases k5 : k = 5
  · have IFF : Hid (insOK k a x ↔ a = 0 ∧ 0 ≤ x ∧ x ≤ 15) := ⟨fun g => by rcases g with q | q | q | q <;> first | exact ⟨q.2.1, q.2.2⟩ | (exfalso; omega), fun g => Or.inr (Or.inr (Or.inl ⟨k5, g.1, g.2⟩))⟩
    clear k12 n1 n2 k34 n3 n4
    subst k5
    clear ex ne
    by_cases ha : a = 0
    · have da : (a == 0) = true := by simp [ha]
      have HA : Hid (a = 0) := ha
      clear ha
      go_enter Try.func130, Try.ntmps130
      go_wp2_with fail
      refine (l1In_any x 0 15 _).mono ?_
      rintro e w' ⟨r, rfl, hr, rfl⟩
      have HR : Hid (r = true ↔ 0 ≤ x ∧ x ≤ 15) := hr
      clear hr da
      cases r
      · go_wp2
        go_ret
        exact ⟨false, rfl, iff_f (fun g => by have := HR.out.2 (IFF.out.1 g).2; cases this), hb0⟩
      · go_wp2
        go_ret
        exact ⟨true, rfl, iff_t (IFF.out.2 ⟨HA.out, HR.out.1 (by first | rfl | trivial)⟩), hb0⟩
    · have da : (a == 0) = false := by simp [ha]
      have HA : Hid (¬ a = 0) := ha
      clear ha
      go_enter Try.func130, Try.ntmps130
      go_wp2
      go_ret
      exact ⟨false, rfl, iff_f (fun g => HA.out (IFF.out.1 g).1), hb0⟩
  have n5 : (k == 5) = false := ne 5 k5
  by_cases k67 : k = 6 ∨ k = 7
  · have IFF : Hid (insOK k a x ↔ a = 0 ∧ x = 0) := ⟨fun g => by rcases g with q | q | q | q <;> first | exact ⟨q.2.1, q.2.2⟩ | (exfalso; omega), fun g => Or.inr (Or.inr (Or.inr ⟨k67, g.1, g.2⟩))⟩
    clear k12 n1 n2 k34 n3 n4 k5 n5
    by_cases ha : a = 0
    · have da : (a == 0) = true := by simp [ha]
      have HA : Hid (a = 0) := ha
      clear ha
      by_cases hx : x = 0
      · have dx : (x == 0) = true := by simp [hx]
        have HX : Hid (x = 0) := hx
        clear hx
        rcases k67 with e | e
        all_goals
          subst e
          clear ex ne
          go_enter Try.func130, Try.ntmps130
          go_wp2
          go_ret
          exact ⟨true, rfl, iff_t (IFF.out.2 ⟨HA.out, HX.out⟩), hb0⟩
      · have dx : (x == 0) = false := by simp [hx]
        have HX : Hid (¬ x = 0) := hx
        clear hx
        rcases k67 with e | e
        all_goals
          subst e
          clear ex ne
          go_enter Try.func130, Try.ntmps130
          go_wp2
          go_ret
          exact ⟨false, rfl, iff_f (fun g => HX.out (IFF.out.1 g).2), hb0⟩
    · have da : (a == 0) = false := by simp [ha]
      have HA : Hid (¬ a = 0) := ha
      clear ha
      rcases k67 with e | e
      all_goals
        subst e
        clear ex ne
        go_enter Try.func130, Try.ntmps130
        go_wp2
        go_ret
        exact ⟨false, rfl, iff_f (fun g => HA.out (IFF.out.1 g).1), hb0⟩
  · have n6 : (k == 6) = false := ne 6 (fun e => k67 (Or.inl e))
    have n7 : (k == 7) = false := ne 7 (fun e => k67 (Or.inr e))
    have H : Hid (¬ insOK k a x) := fun g => by rcases g with q | q | q | q <;> omega
    clear ex ne k12 k34 k5 k67
    go_enter Try.func130, Try.ntmps130
    go_wp2
    go_ret
    exact ⟨false, rfl, iff_f H.out, hb0⟩
set_option maxHeartbeats 1600000 in
theorem specGoodP_any (ao : Option Addr) (c n : Nat) (F : Nat → Nat → Int) (Y : Nat → Prop) (w : World) (h : KAt 3 Y w ao n F) :
    Calls Try.prog 54 #[.slice ao n c] w fun e w' => ∃ r, e = .returned (.bool r) ∧ (r = true ↔ progOK n F) ∧ Blw w w' := by
  have H : Hid (KAt 3 Y w ao n F) := h
  have hn := h.1
  clear h
  go_enter Try.func54, Try.ntmps54
  go_wp2
  go_loopw [7] (fun i wr => ∃ j : Nat, j ≤ n ∧ i = .int .i64 j ∧ (∀ t, t < j → insOK (F t 0) (F t 1) (F t 2)) ∧ Blw w wr) (fun i _ => n - (intOf i).toNat)
  case atStart => exact ⟨0, Nat.zero_le _, rfl, fun t ht => absurd ht (Nat.not_lt_zero _), Blw.refl _⟩
  case round =>
    obtain ⟨j, hj, rfl, hok, hb⟩ := hrel
    have HO : Hid (∀ t, t < j → insOK (F t 0) (F t 1) (F t 2)) := hok
    have HB : Hid (Blw w wr) := hb
    clear hok hb
    by_cases hlt : j < n
    · obtain ⟨b, o, rfl, -, g⟩ := (H.out.blw HB.out).2 j hlt
      have g0 := g 0 (by omega)
      have g1 := g 1 (by omega)
      have g2 := g 2 (by omega)
      have hlt' : (j : Int) < n := by omega
      have hA : Blw wr (wr.alloc (.cells #[.int .i64 (F j 0), .int .i64 (F j 1), .int .i64 (F j 2)] 170)) := (Blw.refl _).alloc _
      replace HB : Hid (Blw w (wr.alloc (.cells #[.int .i64 (F j 0), .int .i64 (F j 1), .int .i64 (F j 2)] 170))) := HB.out.trans hA
      clear g hA
      rw [Nat.add_zero] at g0
      go_wp2_with fail
      refine (l9Ins_any (F j 0) (F j 1) (F j 2) _).mono ?_
      rintro e w1 ⟨r, rfl, hr, hb1⟩
      have HR : Hid (r = true ↔ insOK (F j 0) (F j 1) (F j 2)) := hr
      replace HB : Hid (Blw w w1) := HB.out.trans hb1
      clear hr hb1 g0 g1 g2
      cases r
      · have BAD : Hid (¬ progOK n F) := fun g => by have := HR.out.2 (g.i j hlt); cases this
        go_wp2
        go_ret
        exact ⟨false, rfl, iff_f BAD.out, HB.out⟩
      · have HN : Hid (∀ t, t < j + 1 → insOK (F t 0) (F t 1) (F t 2)) := fun t ht => by
          by_cases e : t = j
          · subst e; exact HR.out.1 (by first | rfl | trivial)
          · exact HO.out t (by omega)
        clear HO HR
        go_wp2
        go_roundw
        case rel => exact ⟨j + 1, by omega, by go_num, HN.out, HB.out⟩
        case measure => simp [intOf]; omega
    · obtain rfl : j = n := by omega
      go_wp2_with fail
      refine (l1In_any (j : Int) 1 16 _).mono ?_
      rintro e w1 ⟨r, rfl, hr, rfl⟩
      have HR : Hid (r = true ↔ progOK j F) := ⟨fun e => ⟨by have := hr.1 e; omega, by have := hr.1 e; omega, HO.out⟩, fun g => hr.2 ⟨by have := g.n1; omega, by have := g.n2; omega⟩⟩
      clear hr
      go_wp2
      go_ret
      exact ⟨r, rfl, HR.out, HB.out⟩
set_option maxHeartbeats 3200000 in
theorem specGoodG_any (v : GV) (D : GD) (Y : Nat → Prop) (w : World) (h : GAt Y w v D) :
    Calls Try.prog 52 #[v.val D] w fun e w' => ∃ r, e = .returned (.bool r) ∧ (r = true ↔ D.Good) ∧ Blw w w' := by
  have HR5 : Hid (Row (w.alloc (.cells #[.int .i64 D.at_, .int .i64 D.acc, .slice v.a1 D.nc v.c1, .slice v.a2 D.nt v.c2, .bool D.d] 61)) w.heap.size 5 (gb v D)) := row5 w _ _ _ _ _ 61
  have HB : Hid (Blw w (w.alloc (.cells #[.int .i64 D.at_, .int .i64 D.acc, .slice v.a1 D.nc v.c1, .slice v.a2 D.nt v.c2, .bool D.d] 61))) := (Blw.refl _).alloc _
  have HA : Hid (GAt Y (w.alloc (.cells #[.int .i64 D.at_, .int .i64 D.acc, .slice v.a1 D.nc v.c1, .slice v.a2 D.nt v.c2, .bool D.d] 61)) v D) := h.blw HB.out
  have hn1 := h.c.1
  have hn2 := h.t.1
  clear h
  go_enter Try.func52, Try.ntmps52
  obtain ⟨p0, p1, p2, p3, p4⟩ := get5 HR5.out
  go_wp2_with fail
  generalize (w.alloc (.cells #[.int .i64 D.at_, .int .i64 D.acc, .slice v.a1 D.nc v.c1, .slice v.a2 D.nt v.c2, .bool D.d] 61)) = w0 at *
  refine (l1In_any D.at_ 0 16 _).mono ?_
  rintro e w1 ⟨r, rfl, hr, rfl⟩
  have H1 : Hid (r = true ↔ 0 ≤ D.at_ ∧ D.at_ ≤ 16) := hr
  clear hr
  cases r
  · go_wp2
    go_ret
    exact ⟨false, rfl, iff_f (fun g => by have := H1.out.2 ⟨g.a0, g.a1⟩; cases this), HB.out⟩
  have G1 : Hid (0 ≤ D.at_ ∧ D.at_ ≤ 16) := H1.out.1 (by first | rfl | trivial)
  clear H1
  go_wp2_with fail
  refine (l9Word_any D.acc _).mono ?_
  rintro e w1 ⟨r, rfl, hr, rfl⟩
  have H1 : Hid (r = true ↔ wordOK D.acc) := hr
  clear hr
  cases r
  · go_wp2
    go_ret
    exact ⟨false, rfl, iff_f (fun g => by have := H1.out.2 g.acc; cases this), HB.out⟩
  have G2 : Hid (wordOK D.acc) := H1.out.1 (by first | rfl | trivial)
  clear H1
  by_cases h3 : D.nc = 8
  case neg =>
    have d3 : ((D.nc : Int) == 8) = false := by simp; omega
    have H : Hid (¬ D.Good) := fun g => h3 g.nc
    clear h3
    go_wp2
    go_ret
    exact ⟨false, rfl, iff_f H.out, HB.out⟩
  have d3 : ((D.nc : Int) == 8) = true := by simp [h3]
  have G3 : Hid (D.nc = 8) := h3
  clear h3
  go_wp2_with fail
  clear d3
  refine (l1All_any _ _ D.nc D.c 0 65535 Y _ HA.out.c).mono ?_
  rintro e w1 ⟨r, rfl, hr, rfl⟩
  have H1 : Hid (r = true ↔ ∀ i, i < D.nc → wordOK (D.c i)) := hr
  clear hr
  cases r
  · go_wp2
    go_ret
    exact ⟨false, rfl, iff_f (fun g => by have := H1.out.2 g.c; cases this), HB.out⟩
  have G4 : Hid (∀ i, i < D.nc → wordOK (D.c i)) := H1.out.1 (by first | rfl | trivial)
  clear H1
  by_cases h5 : D.nt ≤ 20
  case neg =>
    have d5 : decide ((D.nt : Int) ≤ 20) = false := by simp; omega
    have H : Hid (¬ D.Good) := fun g => h5 g.nt
    clear h5
    go_wp2
    go_ret
    exact ⟨false, rfl, iff_f H.out, HB.out⟩
  have d5 : decide ((D.nt : Int) ≤ 20) = true := by simp; omega
  have G5 : Hid (D.nt ≤ 20) := h5
  clear h5
  go_wp2_with fail
  clear d5 p0 p1 p2 p3 p4
  refine (l1All_any _ _ D.nt D.t 0 65535 Y _ HA.out.t).mono ?_
  rintro e w1 ⟨r, rfl, hr, rfl⟩
  have H1 : Hid (r = true ↔ D.Good) := ⟨fun e => ⟨G1.out.1, G1.out.2, G2.out, G3.out, G4.out, G5.out, hr.1 e⟩, fun g => hr.2 g.t⟩
  clear hr
  go_wp2
  go_ret
  exact ⟨r, rfl, H1.out, HB.out⟩
end Go.Proofs.Ytbpdopcdhnemfaa
/- Instructions: the program's. -/
namespace Go.Proofs.Ytbpdopcdhnemfaa
open Go.RowKit
set_option linter.unusedSimpArgs false
set_option linter.unusedVariables false
/-- An instruction as a value of its kind. -/
def iv (k a x : Int) : Value :=
  if k = 1 then .iface 228 (.agg #[.int .i64 x])
  else if k = 2 then .iface 229 (.agg #[.int .i64 x])
  else if k = 3 then .iface 231 (.agg #[.int .i64 a])
  else if k = 4 then .iface 232 (.agg #[.int .i64 a])
  else if k = 5 then .iface 234 (.agg #[.int .i64 x])
  else if k = 6 then .iface 236 (.agg #[])
  else .iface 237 (.agg #[])
theorem iv1 (a x : Int) : iv 1 a x = .iface 228 (.agg #[.int .i64 x]) := rfl
theorem iv2 (a x : Int) : iv 2 a x = .iface 229 (.agg #[.int .i64 x]) := rfl
theorem iv3 (a x : Int) : iv 3 a x = .iface 231 (.agg #[.int .i64 a]) := rfl
theorem iv4 (a x : Int) : iv 4 a x = .iface 232 (.agg #[.int .i64 a]) := rfl
theorem iv5 (a x : Int) : iv 5 a x = .iface 234 (.agg #[.int .i64 x]) := rfl
theorem iv6 (a x : Int) : iv 6 a x = .iface 236 (.agg #[]) := rfl
theorem iv7 (a x : Int) : iv 7 a x = .iface 237 (.agg #[]) := rfl
def fits (k a x : Int) : Prop := roomOK a ∧ wordOK x ∧ (1 ≤ k ∧ k ≤ 7) ∧ (k = 5 → x < 16)
def wa (k a : Int) : Int := if k = 3 ∨ k = 4 then a else 0
def wx (k x : Int) : Int := if k = 1 ∨ k = 2 ∨ k = 5 then x else 0
theorem insOK_iff (k a x : Int) : insOK k a x ↔ fits k a x ∧ wa k a = a ∧ wx k x = x := by
  constructor
  · rintro (⟨h1, h2, h3⟩ | ⟨h1, h2, h3⟩ | ⟨h1, h2, h3, h4⟩ | ⟨h1, h2, h3⟩)
    · obtain ⟨h4, h5⟩ := h3
      refine ⟨⟨⟨by omega, by omega⟩, ⟨h4, h5⟩, by omega, by omega⟩, ?_, ?_⟩ <;> simp only [wa, wx] <;> split <;> omega
    · refine ⟨⟨h2, ⟨by omega, by omega⟩, by omega, by omega⟩, ?_, ?_⟩ <;> simp only [wa, wx] <;> split <;> omega
    · refine ⟨⟨⟨by omega, by omega⟩, ⟨by omega, by omega⟩, by omega, by omega⟩, ?_, ?_⟩ <;> simp only [wa, wx] <;> split <;> omega
    · refine ⟨⟨⟨by omega, by omega⟩, ⟨by omega, by omega⟩, by omega, by omega⟩, ?_, ?_⟩ <;> simp only [wa, wx] <;> split <;> omega
  · rintro ⟨⟨⟨h1, h2⟩, h3, h4, h5⟩, h6, h7⟩
    unfold wa at h6
    unfold wx at h7
    rcases (show k = 1 ∨ k = 2 ∨ k = 3 ∨ k = 4 ∨ k = 5 ∨ k = 6 ∨ k = 7 by omega) with e | e | e | e | e | e | e <;> subst e <;> simp at h6 h7
    · exact Or.inl ⟨Or.inl rfl, by omega, h3⟩
    · exact Or.inl ⟨Or.inr rfl, by omega, h3⟩
    · exact Or.inr (Or.inl ⟨Or.inl rfl, ⟨h1, h2⟩, by omega⟩)
    · exact Or.inr (Or.inl ⟨Or.inr rfl, ⟨h1, h2⟩, by omega⟩)
    · exact Or.inr (Or.inr (Or.inl ⟨rfl, by omega, h3.1, by have := h5 rfl; omega⟩))
    · exact Or.inr (Or.inr (Or.inr ⟨Or.inl rfl, by omega, by omega⟩))
    · exact Or.inr (Or.inr (Or.inr ⟨Or.inr rfl, by omega, by omega⟩))
theorem tripEq (d : Nat) (a b c a' b' c' : Int) (w : World) : (Op.equalIn (d + 2) 170 (.agg #[.int .i64 a, .int .i64 b, .int .i64 c]) (.agg #[.int .i64 a', .int .i64 b', .int .i64 c'])).run Try.prog w = .ok ((a == a') && ((b == b') && (c == c'))) w := by
  have u : Try.prog.underlying 170 = some (.struct (Try.prog.fieldsOf 170)) := by kernel_rfl
  have hp : Try.prog.stoodInHeld 170 = false := by kernel_rfl
  have hf : (Try.prog.fieldsOf 170).map (fun f => (f.name, f.type, f.offset)) = #[("Kind", 3, 0), ("A", 3, 1), ("N", 3, 2)] := by kernel_rfl
  have p0 : ∀ w, (part 3 #[Value.int .i64 a, .int .i64 b, .int .i64 c] 0).run Try.prog w = .ok (.int .i64 a) w := fun w => by kernel_rfl
  have p1 : ∀ w, (part 3 #[Value.int .i64 a, .int .i64 b, .int .i64 c] 1).run Try.prog w = .ok (.int .i64 b) w := fun w => by kernel_rfl
  have p2 : ∀ w, (part 3 #[Value.int .i64 a, .int .i64 b, .int .i64 c] 2).run Try.prog w = .ok (.int .i64 c) w := fun w => by kernel_rfl
  have q0 : ∀ w, (part 3 #[Value.int .i64 a', .int .i64 b', .int .i64 c'] 0).run Try.prog w = .ok (.int .i64 a') w := fun w => by kernel_rfl
  have q1 : ∀ w, (part 3 #[Value.int .i64 a', .int .i64 b', .int .i64 c'] 1).run Try.prog w = .ok (.int .i64 b') w := fun w => by kernel_rfl
  have q2 : ∀ w, (part 3 #[Value.int .i64 a', .int .i64 b', .int .i64 c'] 2).run Try.prog w = .ok (.int .i64 c') w := fun w => by kernel_rfl
  have H : ∀ x y w, (Op.equalIn (d + 1) 3 (.int .i64 x) (.int .i64 y)).run Try.prog w = .ok (x == y) w := fun x y w => run_equalIn_int w d 3 .i64 .i64 x y Try.underlying3
  by_cases h0 : a = a' <;> by_cases h1 : b = b' <;> by_cases h2 : c = c' <;> simp [go_sem, h0, h1, h2]
theorem tripNe (a b c a' b' c' : Int) (w : World) : (binOp .neq 170 (.agg #[.int .i64 a, .int .i64 b, .int .i64 c]) (.agg #[.int .i64 a', .int .i64 b', .int .i64 c'])).run Try.prog w = .ok (.bool (!((a == a') && ((b == b') && (c == c'))))) w := by
  rw [run_neq_struct, tripEq 9998 a b c a' b' c' w]
  rfl
set_option maxHeartbeats 800000 in
theorem written1_any (x : Int) (w : World) : Calls Try.prog 229 #[.agg #[.int .i64 x]] w fun e w' => e = .returned (.agg #[.int .i64 1, .int .i64 0, .int .i64 x]) ∧ Blw w w' := by
  go_enter Try.func229, Try.ntmps229
  go_wp2
  refine bodyPost_ret (v := .agg #[.int .i64 1, .int .i64 0, .int .i64 x]) (by simp [results, Try.results229, go_sem]) rfl ⟨rfl, ?_⟩
  exact ((Blw.refl _).alloc _).alloc _
set_option maxHeartbeats 800000 in
theorem written2_any (x : Int) (w : World) : Calls Try.prog 230 #[.agg #[.int .i64 x]] w fun e w' => e = .returned (.agg #[.int .i64 2, .int .i64 0, .int .i64 x]) ∧ Blw w w' := by
  go_enter Try.func230, Try.ntmps230
  go_wp2
  refine bodyPost_ret (v := .agg #[.int .i64 2, .int .i64 0, .int .i64 x]) (by simp [results, Try.results230, go_sem]) rfl ⟨rfl, ?_⟩
  exact ((Blw.refl _).alloc _).alloc _
set_option maxHeartbeats 800000 in
theorem written3_any (a : Int) (w : World) : Calls Try.prog 231 #[.agg #[.int .i64 a]] w fun e w' => e = .returned (.agg #[.int .i64 3, .int .i64 a, .int .i64 0]) ∧ Blw w w' := by
  go_enter Try.func231, Try.ntmps231
  go_wp2
  refine bodyPost_ret (v := .agg #[.int .i64 3, .int .i64 a, .int .i64 0]) (by simp [results, Try.results231, go_sem]) rfl ⟨rfl, ?_⟩
  exact ((Blw.refl _).alloc _).alloc _
set_option maxHeartbeats 800000 in
theorem written4_any (a : Int) (w : World) : Calls Try.prog 232 #[.agg #[.int .i64 a]] w fun e w' => e = .returned (.agg #[.int .i64 4, .int .i64 a, .int .i64 0]) ∧ Blw w w' := by
  go_enter Try.func232, Try.ntmps232
  go_wp2
  refine bodyPost_ret (v := .agg #[.int .i64 4, .int .i64 a, .int .i64 0]) (by simp [results, Try.results232, go_sem]) rfl ⟨rfl, ?_⟩
  exact ((Blw.refl _).alloc _).alloc _
set_option maxHeartbeats 800000 in
theorem written5_any (x : Int) (w : World) : Calls Try.prog 233 #[.agg #[.int .i64 x]] w fun e w' => e = .returned (.agg #[.int .i64 5, .int .i64 0, .int .i64 x]) ∧ Blw w w' := by
  go_enter Try.func233, Try.ntmps233
  go_wp2
  refine bodyPost_ret (v := .agg #[.int .i64 5, .int .i64 0, .int .i64 x]) (by simp [results, Try.results233, go_sem]) rfl ⟨rfl, ?_⟩
  exact ((Blw.refl _).alloc _).alloc _
set_option maxHeartbeats 800000 in
theorem written6_any (w : World) : Calls Try.prog 234 #[.agg #[]] w fun e w' => e = .returned (.agg #[.int .i64 6, .int .i64 0, .int .i64 0]) ∧ Blw w w' := by
  go_enter Try.func234, Try.ntmps234
  go_wp2
  refine bodyPost_ret (v := .agg #[.int .i64 6, .int .i64 0, .int .i64 0]) (by simp [results, Try.results234, go_sem]) rfl ⟨rfl, ?_⟩
  exact ((Blw.refl _).alloc _).alloc _
set_option maxHeartbeats 800000 in
theorem written7_any (w : World) : Calls Try.prog 235 #[.agg #[]] w fun e w' => e = .returned (.agg #[.int .i64 7, .int .i64 0, .int .i64 0]) ∧ Blw w w' := by
  go_enter Try.func235, Try.ntmps235
  go_wp2
  refine bodyPost_ret (v := .agg #[.int .i64 7, .int .i64 0, .int .i64 0]) (by simp [results, Try.results235, go_sem]) rfl ⟨rfl, ?_⟩
  exact ((Blw.refl _).alloc _).alloc _
set_option maxHeartbeats 3200000 in
theorem readIns_any (k a x : Int) (w : World) : Calls Try.prog 180 #[.agg #[.int .i64 k, .int .i64 a, .int .i64 x]] w fun e w' => ∃ v r, e = .returned (.tuple #[v, .bool r]) ∧ (r = true → v = iv k a x) ∧ (r = true ↔ fits k a x) ∧ Blw w w' := by
  have HB : Hid (Blw w (w.alloc (.cells #[.int .i64 k, .int .i64 a, .int .i64 x] 170))) := (Blw.refl _).alloc _
  have HR : Hid (Row (w.alloc (.cells #[.int .i64 k, .int .i64 a, .int .i64 x] 170)) w.heap.size 3 (fun i => if i = 0 then .int .i64 k else if i = 1 then .int .i64 a else .int .i64 x)) := box3 w _ _ _ 170
  go_enter Try.func180, Try.ntmps180
  obtain ⟨p0, p1, p2⟩ := get3 HR.out
  go_wp2_with fail
  generalize (w.alloc (.cells #[.int .i64 k, .int .i64 a, .int .i64 x] 170)) = w0 at *
  refine (isInRoom_any a _).mono ?_
  rintro e w1 ⟨r, rfl, hr, rfl⟩
  have H1 : Hid (r = true ↔ roomOK a) := hr
  clear hr
  cases r
  · go_wp2
    refine bodyPost_ret (v := .tuple #[.nilIface, .bool false]) (by simp [results, Try.results180, go_sem]) rfl ⟨_, _, rfl, fun h => absurd h (by decide), iff_f (fun g => by have := H1.out.2 g.1; cases this), HB.out⟩
  have G1 : Hid (roomOK a) := H1.out.1 (by first | rfl | trivial)
  clear H1
  go_wp2_with fail
  refine (isWord_any x _).mono ?_
  rintro e w1 ⟨r, rfl, hr, rfl⟩
  have H1 : Hid (r = true ↔ wordOK x) := hr
  clear hr
  cases r
  · go_wp2
    refine bodyPost_ret (v := .tuple #[.nilIface, .bool false]) (by simp [results, Try.results180, go_sem]) rfl ⟨_, _, rfl, fun h => absurd h (by decide), iff_f (fun g => by have := H1.out.2 g.2.1; cases this), HB.out⟩
  have G2 : Hid (wordOK x) := H1.out.1 (by first | rfl | trivial)
  clear H1 HR
  by_cases d1 : k = 1
  · have HF : Hid (fits k a x) := ⟨G1.out, G2.out, by omega, by omega⟩
    have HI : Hid (iv k a x = .iface 228 (.agg #[.int .i64 x])) := by show _ = _; rw [d1]; rfl
    have e1 : (k == 1) = true := by simp [d1]
    clear d1 
    go_wp2
    refine bodyPost_ret (v := .tuple #[.iface 228 (.agg #[.int .i64 x]), .bool true]) (by simp [results, Try.results180, go_sem]) rfl ⟨_, _, rfl, fun _ => HI.out.symm, iff_t HF.out, HB.out⟩
  by_cases d2 : k = 2
  · have HF : Hid (fits k a x) := ⟨G1.out, G2.out, by omega, by omega⟩
    have HI : Hid (iv k a x = .iface 229 (.agg #[.int .i64 x])) := by show _ = _; rw [d2]; rfl
    have e2 : (k == 2) = true := by simp [d2]
    have n1 : (k == 1) = false := by simp; omega
    clear d2 d1
    go_wp2
    refine bodyPost_ret (v := .tuple #[.iface 229 (.agg #[.int .i64 x]), .bool true]) (by simp [results, Try.results180, go_sem]) rfl ⟨_, _, rfl, fun _ => HI.out.symm, iff_t HF.out, HB.out⟩
  by_cases d3 : k = 3
  · have HF : Hid (fits k a x) := ⟨G1.out, G2.out, by omega, by omega⟩
    have HI : Hid (iv k a x = .iface 231 (.agg #[.int .i64 a])) := by show _ = _; rw [d3]; rfl
    have e3 : (k == 3) = true := by simp [d3]
    have n1 : (k == 1) = false := by simp; omega
    have n2 : (k == 2) = false := by simp; omega
    clear d3 d1 d2
    go_wp2
    refine bodyPost_ret (v := .tuple #[.iface 231 (.agg #[.int .i64 a]), .bool true]) (by simp [results, Try.results180, go_sem]) rfl ⟨_, _, rfl, fun _ => HI.out.symm, iff_t HF.out, HB.out⟩
  by_cases d4 : k = 4
  · have HF : Hid (fits k a x) := ⟨G1.out, G2.out, by omega, by omega⟩
    have HI : Hid (iv k a x = .iface 232 (.agg #[.int .i64 a])) := by show _ = _; rw [d4]; rfl
    have e4 : (k == 4) = true := by simp [d4]
    have n1 : (k == 1) = false := by simp; omega
    have n2 : (k == 2) = false := by simp; omega
    have n3 : (k == 3) = false := by simp; omega
    clear d4 d1 d2 d3
    go_wp2
    refine bodyPost_ret (v := .tuple #[.iface 232 (.agg #[.int .i64 a]), .bool true]) (by simp [results, Try.results180, go_sem]) rfl ⟨_, _, rfl, fun _ => HI.out.symm, iff_t HF.out, HB.out⟩
  by_cases d5 : k = 5
  · have HI : Hid (iv k a x = .iface 234 (.agg #[.int .i64 x])) := by show _ = _; rw [d5]; rfl
    have e5 : (k == 5) = true := by simp [d5]
    have n1 : (k == 1) = false := by simp; omega
    have n2 : (k == 2) = false := by simp; omega
    have n3 : (k == 3) = false := by simp; omega
    have n4 : (k == 4) = false := by simp; omega
    have HIFF : Hid (decide (x < 16) = true ↔ fits k a x) := ⟨fun h => ⟨G1.out, G2.out, by omega, fun _ => by simpa using h⟩, fun g => by have := g.2.2.2 d5; simpa using this⟩
    clear d1 d2 d3 d4 d5
    go_upto_region 13 with fail
    refine wp_region_noPanic ?_
    refine wp_region_held_drew (S := fun w' => w'.cell? ⟨w.heap.size, 2, none⟩ = some (.int .i64 x)) (by kernel_rfl) (by simpa using p2) (fun hB => ?_)
    clear hB
    refine wpAnyH_take (i := 0) (oi := { dst := some 42, op := Op.fieldAddr 170 (Operand.tmp 1) 2, type := 0, pos := _, after := #[], guard := none }) (v := (.pointer (some ⟨w.heap.size, 2, none⟩))) rfl (by kernel_rfl) (by kernel_rfl) (by kernel_rfl) (fun _ _ _ h => h) (Or.inl ⟨by rfl, fun w' hS => by (try dsimp only at hS); go_simp⟩) (by simpa using p2) ?_
    simp only [Act.put, List.setIfInBounds_toArray, List.set_cons_zero, List.set_cons_succ]
    refine wpAnyH_take (i := 4) (oi := { dst := some 46, op := Op.fieldAddr 170 (Operand.tmp 1) 2, type := 0, pos := _, after := #[{ on := 7, ground := Ground.gcOnly Departure.lateStores }], guard := none }) (v := (.pointer (some ⟨w.heap.size, 2, none⟩))) rfl (by kernel_rfl) (by kernel_rfl) (by kernel_rfl) (fun _ _ _ h => h) (Or.inl ⟨by rfl, fun w' hS => by (try dsimp only at hS); go_simp⟩) (by simpa using p2) ?_
    simp only [Act.put, List.setIfInBounds_toArray, List.set_cons_zero, List.set_cons_succ]
    refine wpAnyH_take (i := 1) (oi := { dst := some 43, op := Op.load 3 (Operand.tmp 42), type := 3, pos := _, after := #[{ on := 0, ground := Ground.data }], guard := none }) (v := (.int .i64 x)) rfl (by kernel_rfl) (by kernel_rfl) (by kernel_rfl) (fun _ _ _ h => h) (Or.inl ⟨by rfl, fun w' hS => by (try dsimp only at hS); go_simp⟩) (by simpa using p2) ?_
    simp only [Act.put, List.setIfInBounds_toArray, List.set_cons_zero, List.set_cons_succ]
    refine wpAnyH_take (i := 5) (oi := { dst := some 47, op := Op.load 3 (Operand.tmp 46), type := 3, pos := _, after := #[{ on := 4, ground := Ground.data }, { on := 7, ground := Ground.gcOnly Departure.lateStores }], guard := none }) (v := (.int .i64 x)) rfl (by kernel_rfl) (by kernel_rfl) (by kernel_rfl) (fun _ _ _ h => h) (Or.inl ⟨by rfl, fun w' hS => by (try dsimp only at hS); go_simp⟩) (by simpa using p2) ?_
    simp only [Act.put, List.setIfInBounds_toArray, List.set_cons_zero, List.set_cons_succ]
    refine wpAnyH_take (i := 2) (oi := { dst := some 44, op := Op.build 234 #[(0, Operand.tmp 43)], type := 234, pos := _, after := #[{ on := 1, ground := Ground.data }], guard := none }) (v := (.agg #[.int .i64 x])) rfl (by kernel_rfl) (by kernel_rfl) (by kernel_rfl) (fun _ _ _ h => h) (Or.inl ⟨by rfl, fun w' hS => by (try dsimp only at hS); go_simp⟩) (by simpa using p2) ?_
    simp only [Act.put, List.setIfInBounds_toArray, List.set_cons_zero, List.set_cons_succ]
    refine wpAnyH_take (i := 6) (oi := { dst := some 48, op := Op.binOp BinOp.lss 3 (Operand.tmp 47) (Operand.const (Value.int IntKind.i64 16)) 3, type := 4, pos := _, after := #[{ on := 5, ground := Ground.data }, { on := 7, ground := Ground.gcOnly Departure.lateStores }], guard := none }) (v := (.bool (decide (x < 16)))) rfl (by kernel_rfl) (by kernel_rfl) (by kernel_rfl) (fun _ _ _ h => h) (Or.inl ⟨by rfl, fun w' hS => by (try dsimp only at hS); go_simp⟩) (by simpa using p2) ?_
    simp only [Act.put, List.setIfInBounds_toArray, List.set_cons_zero, List.set_cons_succ]
    refine wpAnyH_take (i := 3) (oi := { dst := some 45, op := Op.makeInterface 234 (Operand.tmp 44), type := 214, pos := _, after := #[{ on := 2, ground := Ground.data }], guard := none }) (v := (.iface 234 (.agg #[.int .i64 x]))) rfl (by kernel_rfl) (by kernel_rfl) (by kernel_rfl) (fun _ _ _ h => h) (Or.inl ⟨by rfl, fun w' hS => by (try dsimp only at hS); go_simp⟩) (by simpa using p2) ?_
    simp only [Act.put, List.setIfInBounds_toArray, List.set_cons_zero, List.set_cons_succ]
    refine wpAnyH_take (i := 7) (oi := { dst := some 2, op := Op.assign (Operand.tmp 45), type := 214, pos := _, after := #[{ on := 3, ground := Ground.data }, { on := 0, ground := Ground.phase }, { on := 1, ground := Ground.phase }, { on := 2, ground := Ground.phase }, { on := 3, ground := Ground.phase }, { on := 4, ground := Ground.textOnly Departure.lateStores }, { on := 5, ground := Ground.textOnly Departure.lateStores }, { on := 6, ground := Ground.textOnly Departure.lateStores }], guard := none }) (v := (.iface 234 (.agg #[.int .i64 x]))) rfl (by kernel_rfl) (by kernel_rfl) (by kernel_rfl) (fun _ _ _ h => h) (Or.inl ⟨by rfl, fun w' hS => by (try dsimp only at hS); go_simp⟩) (by simpa using p2) ?_
    simp only [Act.put, List.setIfInBounds_toArray, List.set_cons_zero, List.set_cons_succ]
    refine wpAnyH_take (i := 8) (oi := { dst := some 3, op := Op.assign (Operand.tmp 48), type := 4, pos := _, after := #[{ on := 6, ground := Ground.data }, { on := 7, ground := Ground.chain }, { on := 0, ground := Ground.phase }, { on := 1, ground := Ground.phase }, { on := 2, ground := Ground.phase }, { on := 3, ground := Ground.phase }, { on := 4, ground := Ground.phase }, { on := 5, ground := Ground.phase }, { on := 6, ground := Ground.phase }, { on := 7, ground := Ground.phase }], guard := none }) (v := (.bool (decide (x < 16)))) rfl (by kernel_rfl) (by kernel_rfl) (by kernel_rfl) (fun _ _ _ h => h) (Or.inl ⟨by rfl, fun w' hS => by (try dsimp only at hS); go_simp⟩) (by simpa using p2) ?_
    simp only [Act.put, List.setIfInBounds_toArray, List.set_cons_zero, List.set_cons_succ]
    refine wpAnyH_done (by kernel_rfl) ?_ _
    refine NoPanic.normal ?_
    go_wp2
    exact bodyPost_ret (v := .tuple #[.iface 234 (.agg #[.int .i64 x]), .bool (decide (x < 16))]) (by simp [results, Try.results180, go_sem]) rfl ⟨_, _, rfl, fun _ => HI.out.symm, HIFF.out, HB.out.drew⟩
  by_cases d6 : k = 6
  · have HF : Hid (fits k a x) := ⟨G1.out, G2.out, by omega, by omega⟩
    have HI : Hid (iv k a x = .iface 236 (.agg #[])) := by show _ = _; rw [d6]; rfl
    have e6 : (k == 6) = true := by simp [d6]
    have n1 : (k == 1) = false := by simp; omega
    have n2 : (k == 2) = false := by simp; omega
    have n3 : (k == 3) = false := by simp; omega
    have n4 : (k == 4) = false := by simp; omega
    have n5 : (k == 5) = false := by simp; omega
    clear d6 d1 d2 d3 d4 d5
    go_wp2
    refine bodyPost_ret (v := .tuple #[.iface 236 (.agg #[]), .bool true]) (by simp [results, Try.results180, go_sem]) rfl ⟨_, _, rfl, fun _ => HI.out.symm, iff_t HF.out, HB.out⟩
  by_cases d7 : k = 7
  · have HF : Hid (fits k a x) := ⟨G1.out, G2.out, by omega, by omega⟩
    have HI : Hid (iv k a x = .iface 237 (.agg #[])) := by show _ = _; rw [d7]; rfl
    have e7 : (k == 7) = true := by simp [d7]
    have n1 : (k == 1) = false := by simp; omega
    have n2 : (k == 2) = false := by simp; omega
    have n3 : (k == 3) = false := by simp; omega
    have n4 : (k == 4) = false := by simp; omega
    have n5 : (k == 5) = false := by simp; omega
    have n6 : (k == 6) = false := by simp; omega
    clear d7 d1 d2 d3 d4 d5 d6
    go_wp2
    refine bodyPost_ret (v := .tuple #[.iface 237 (.agg #[]), .bool true]) (by simp [results, Try.results180, go_sem]) rfl ⟨_, _, rfl, fun _ => HI.out.symm, iff_t HF.out, HB.out⟩
  have HF : Hid (¬ fits k a x) := fun g => by have := g.2.2.1; omega
  have n1 : (k == 1) = false := by simp; omega
  have n2 : (k == 2) = false := by simp; omega
  have n3 : (k == 3) = false := by simp; omega
  have n4 : (k == 4) = false := by simp; omega
  have n5 : (k == 5) = false := by simp; omega
  have n6 : (k == 6) = false := by simp; omega
  have n7 : (k == 7) = false := by simp; omega
  clear d1 d2 d3 d4 d5 d6 d7
  go_wp2
  refine bodyPost_ret (v := .tuple #[.nilIface, .bool false]) (by simp [results, Try.results180, go_sem]) rfl ⟨_, _, rfl, fun h => absurd h (by decide), iff_f HF.out, HB.out⟩
end Go.Proofs.Ytbpdopcdhnemfaa
