/- A timer put into a row, as the model does. -/
import Derived.Test.YtkmkidahaagbpaaOwn
namespace Go.Proofs.Ytkmkidahaagbpaa
open Go.RowKit
set_option linter.unusedSimpArgs false
set_option linter.unusedVariables false
theorem UndosAt.take {Y : Nat → Prop} {w : World} {g : Nat} {l : List Tm} (h : UndosAt Y w (some ⟨g, 0, none⟩) l.length (lf l) (la l)) (p : Nat) : UndosAt Y w (some ⟨g, 0, none⟩) (l.take p).length (lf (l.take p)) (la (l.take p)) := by
  have hle : (l.take p).length ≤ l.length := by rw [List.length_take]; omega
  refine ⟨Nat.le_trans hle h.1, fun i hi => ?_⟩
  obtain ⟨b, o, e, hY, c0, c1⟩ := h.2 i (by omega)
  have hn : nth (l.take p) i = nth l i := by
    rw [nth_get hi, nth_get (by omega)]; simp
  exact ⟨b, o, e, hY, by rw [c0]; simp only [lf, hn], by rw [c1]; simp only [la, hn]⟩
theorem UndosAt.drop {Y : Nat → Prop} {w : World} {g q : Nat} {l : List Tm} {p : Nat} (h : UndosAt Y w (some ⟨g, 0, none⟩) l.length (lf l) (la l)) (hq : p < l.length → q = p * 2) : UndosAt Y w (some ⟨g, q, none⟩) (l.drop p).length (lf (l.drop p)) (la (l.drop p)) := by
  refine ⟨by rw [List.length_drop]; have := h.1; omega, fun i hi => ?_⟩
  have hi2 : p + i < l.length := by rw [List.length_drop] at hi; omega
  obtain ⟨b, o, e, hY, c0, c1⟩ := h.2 (p + i) hi2
  cases e
  have hn : nth (l.drop p) i = nth l (p + i) := by
    rw [nth_get hi, nth_get hi2]; simp
  refine ⟨g, q, rfl, hY, ?_, ?_⟩
  · rw [hq (by omega), show p * 2 + i * 2 = 0 + (p + i) * 2 by omega, c0]; simp only [lf, hn]
  · rw [hq (by omega), show p * 2 + i * 2 + 1 = 0 + (p + i) * 2 + 1 by omega, c1]; simp only [la, hn]
theorem UndosAt.none0 (Y : Nat → Prop) (w : World) (ao : Option Addr) (f g : Nat → Int) : UndosAt Y w ao 0 f g := ⟨by omega, fun i hi => absurd hi (Nat.not_lt_zero _)⟩
theorem one_tm (w : World) (t : Tm) : UndosAt (fun b => b = w.heap.size) (w.alloc (.cells #[.int .i64 t.1, .int .i64 t.2] 39)) (some ⟨w.heap.size, 0, none⟩) [t].length (lf [t]) (la [t]) := by
  refine ⟨by simp, fun i hi => ?_⟩
  obtain rfl : i = 0 := by simpa using hi
  obtain ⟨q0, q1⟩ := get2 (box2 w (.int .i64 t.1) (.int .i64 t.2) 39)
  exact ⟨_, _, rfl, rfl, by first | exact q0 | (rw [Nat.zero_add]; exact q0), by first | exact q1 | (rw [Nat.zero_add]; exact q1)⟩
set_option maxRecDepth 100000 in
set_option maxHeartbeats 3200000 in
theorem l11Put_some (g c : Nat) (l : List Tm) (t : Tm) (Y : Nat → Prop) (w : World) (hn : l.length ≤ 1000) (hc : l.length ≤ c) (hcm : c ≤ maxLen) (h : UndosAt Y w (some ⟨g, 0, none⟩) l.length (lf l) (la l)) :
    Calls Try.prog 89 #[.slice (some ⟨g, 0, none⟩) l.length c, .agg #[.int .i64 t.1, .int .i64 t.2]] w fun e w' => ∃ a' c', e = .returned (.slice a' (ins l t).length c') ∧ Hid (LB (fun b => w.heap.size ≤ b) w' a' c' (ins l t) ∧ Blw w w') := by
  have hb0 : Blw w (w.alloc (.cells #[.int .i64 t.1, .int .i64 t.2] 39)) := (Blw.refl _).alloc _
  have r0 := box2 w (.int .i64 t.1) (.int .i64 t.2) 39
  obtain ⟨W0, hW0⟩ : ∃ W0, w.alloc (.cells #[.int .i64 t.1, .int .i64 t.2] 39) = W0 := ⟨_, rfl⟩
  rw [hW0] at hb0 r0
  have HU : Hid (UndosAt Y w (some ⟨g, 0, none⟩) l.length (lf l) (la l)) := h
  have HB0 : Hid (Blw w W0) := hb0
  have HBX : Hid (Row W0 w.heap.size 2 (fun i => if i = 0 then Value.int .i64 t.1 else .int .i64 t.2)) := r0
  have HLN : Hid (l.length ≤ 1000) := hn
  have HC : Hid (l.length ≤ c ∧ c ≤ maxLen) := ⟨hc, hcm⟩
  clear h hb0 r0 hc hcm
  go_enter Try.func89, Try.ntmps89
  go_upto_region 2 with fail
  try simp only [hW0]
  clear hW0
  go_loopw [5] (fun i wr => ∃ p : Nat, p ≤ l.length ∧ i = .int .i64 p ∧ p ≤ pos l t.1 ∧ Hid (Blw W0 wr)) (fun i _ => l.length - (intOf i).toNat)
  case atStart => exact ⟨0, Nat.zero_le _, rfl, Nat.zero_le _, Blw.refl _⟩
  case round =>
    obtain ⟨p, hp, rfl, hpp, hB⟩ := hrel
    by_cases hcc : p < l.length ∧ (nth l p).1 < t.1
    · go_upto_region 2 with fail
      go_cut [20] from 7 to 20 (fun s20 wx => s20 = .bool true ∧ Hid (Blw W0 wx))
      case first =>
        obtain ⟨bb, oo, e, -, g0, g1⟩ := (HU.out.blw (HB0.out.trans hB.out)).2 p hcc.1
        cases e
        simp only [lf, la] at g0 g1
        rw [Nat.zero_add] at g0
        obtain ⟨q0, q1⟩ := get2 (HBX.out.blw hB.out)
        have hd1 : decide ((p : Int) < (l.length : Int)) = true := decide_eq_true (by omega)
        have hd2 : decide ((nth l p).1 < t.1) = true := decide_eq_true hcc.2
        have hlt := hcc.1
        clear hcc g1 q1
        go_quiet (fail)
        go_wp2_with fail
        go_meet
        exact ⟨rfl, hB.out.drewN _⟩
      case rest =>
        obtain ⟨rfl, hcw⟩ := hcut
        have hnp : p < pos l t.1 := by
          rcases Nat.lt_or_eq_of_le hpp with h5 | h5
          · exact h5
          · exact absurd hcc.2 (h5 ▸ at_pos (l := l) (id := t.1) (by omega))
        have hlt := hcc.1
        clear hcc hB
        go_wp2_with fail
        go_roundw
        case rel => exact ⟨p + 1, by omega, by go_num, by omega, hcw.out⟩
        case measure => simp [intOf]; omega
    · go_upto_region 2 with fail
      go_cut [20] from 7 to 20 (fun s20 wx => s20 = .bool false ∧ Hid (Blw W0 wx))
      case first =>
        by_cases hlt : p < l.length
        · obtain ⟨bb, oo, e, -, g0, g1⟩ := (HU.out.blw (HB0.out.trans hB.out)).2 p hlt
          cases e
          simp only [lf, la] at g0 g1
          rw [Nat.zero_add] at g0
          obtain ⟨q0, q1⟩ := get2 (HBX.out.blw hB.out)
          have hd1 : decide ((p : Int) < (l.length : Int)) = true := decide_eq_true (by omega)
          have hd2 : decide ((nth l p).1 < t.1) = false := decide_eq_false (fun h5 => hcc ⟨hlt, h5⟩)
          clear hcc g1 q1
          go_quiet (fail)
          go_wp2_with fail
          go_meet
          exact ⟨rfl, hB.out.drewN _⟩
        · have hd1 : decide ((p : Int) < (l.length : Int)) = false := decide_eq_false (by omega)
          clear hcc
          go_quiet (fail)
          go_wp2_with fail
          go_meet
          exact ⟨rfl, hB.out.drewN _⟩
      case rest =>
        obtain ⟨rfl, hcw0⟩ := hcut
        have hnp : p = pos l t.1 := by
          rcases Nat.lt_or_eq_of_le hpp with h5 | h5
          · have h6 := pos_le l t.1
            exact absurd ⟨by omega, lt_pos h5⟩ hcc
          · exact h5
        have hpl : l.take p ++ [t] ++ l.drop p = ins l t := by rw [ins_eq, ← hnp]; simp
        have HPL : Hid (l.take p ++ [t] ++ l.drop p = ins l t) := hpl
        clear hpl
        have hcw := HB0.out.trans hcw0.out
        have hpc : p ≤ c := by have := HC.out; omega
        have hcm := HC.out.2
        have HBX : Hid (Row wc w.heap.size 2 (fun i => if i = 0 then Value.int .i64 t.1 else .int .i64 t.2)) := HBX.out.blw hcw0.out
        clear hnp hpp hcc
        by_cases hcp : c = p
        · have hcp2 := HC.out.1
          obtain rfl : p = l.length := by omega
          obtain rfl : c = l.length := hcp
          clear hcp2
          have hbw : Blw w wc := hcw
          have hA1 : Blw w (wc.alloc (.cells #[] 39)) := hbw.alloc _
          have hlit : LB (fun b => b = wc.heap.size) (wc.alloc (.cells #[] 39)) (some ⟨wc.heap.size, 0, none⟩) 0 [] := Buf.litE (heap_alloc_new wc (.cells #[] 39)) 2 _
          have hszw := hbw.size
          obtain ⟨x1, d1, v1, hrun1, hB1, hm1⟩ := LB.app hlit (m := l.take l.length) l.length ((HU.out.blw hA1).take l.length) (by have h5 := HLN.out; have h6 : (l.take l.length).length ≤ l.length := (by rw [List.length_take]; omega); simp only [List.length_nil]; omega) 31
          rw [List.nil_append] at hrun1 hB1
          simp only [List.length_nil] at hrun1
          have hbv1 : Blw w v1 := Mod.blw hA1 hm1 (fun i e => by simp [Value.ownBlock] at e; omega)
          have hB1' : LB (fun b => w.heap.size ≤ b) v1 x1 d1 (l.take l.length) := hB1.mono (fun b hb => by rcases hb.1 with h6 | h6; (have h7 : b = wc.heap.size := h6; omega); (have h7 : b = wc.heap.size + 1 := by rw [h6, World.size_alloc]); omega)
          have hs1 := hbv1.size
          obtain ⟨x2, d2, v2, hrun2, hB2, hm2⟩ := LB.app (hB1'.blw ((Blw.refl v1).alloc (.cells #[.int .i64 t.1, .int .i64 t.2] 39))) (m := [t]) 1 (one_tm v1 t) (by have h5 := HLN.out; have h6 : (l.take l.length).length ≤ l.length := (by rw [List.length_take]; omega); simp only [List.length_singleton]; omega) 31
          have hbv2 : Blw w v2 := Mod.blw (hbv1.alloc _) hm2 (fun i e => hB1'.2 i e)
          have hB2' : LB (fun b => w.heap.size ≤ b) v2 x2 d2 (l.take l.length ++ [t]) := hB2.mono (fun b hb => by rcases hb.1 with h6 | h6; exact h6; (have h7 : b = v1.heap.size + 1 := by rw [h6, World.size_alloc]); omega)
          obtain ⟨x3, d3, v3, hrun3, hB3, hm3⟩ := LB.app hB2' (m := l.drop l.length) (0) ((HU.out.blw hbv2).drop (q := 0) (fun h5 => by omega)) (by have h5 := HLN.out; have h6 : (l.take l.length).length ≤ l.length := (by rw [List.length_take]; omega); have h7 : (l.drop l.length).length ≤ l.length := (by rw [List.length_drop]; omega); simp only [List.length_append, List.length_singleton]; omega) 31
          have hs2 := hbv2.size
          have hFIN : Hid (LB (fun b => w.heap.size ≤ b) v3 x3 d3 (l.take l.length ++ [t] ++ l.drop l.length) ∧ Blw w v3) := ⟨hB3.mono (fun b hb => by rcases hb.1 with h6 | h6; exact h6; omega), Mod.blw hbv2 hm3 (fun i e => hB2'.2 i e)⟩
          rw [HPL.out] at hFIN hrun3
          have hlt : (l.take l.length).length = l.length := by rw [List.length_take]; omega
          have hld : (l.drop l.length).length = 0 := by rw [List.length_drop]; omega
          rw [hlt] at hrun1 hrun2
          rw [hld] at hrun3
          simp only [List.length_singleton] at hrun2
          obtain ⟨L2, hL2⟩ : ∃ L, l.take l.length ++ [t] = L := ⟨_, rfl⟩
          rw [hL2] at hrun2 hrun3
          have hwv1 : Blw wc v1 := Mod.blw ((Blw.refl wc).alloc _) hm1 (fun i e => by simp [Value.ownBlock] at e; omega)
          obtain ⟨y0, y1⟩ := get2 (HBX.out.blw hwv1)
          clear hwv1 hm1 hm2 hm3 hB1 hB1' hB2 hB2' hB3 hlit hA1 hbv1 hbv2 hs1 hs2 hszw hL2 hlt hld
          have hp0 : (0 : Int) ≤ (l.length : Nat) := by omega
          have hp1 : ((l.length : Nat) : Int) ≤ (l.length : Int) := by omega
          go_wp2_with (first | (at_builtin; refine wpList_append_run rfl _ _ 31 rfl _ _ rfl rfl hrun1 ?_; clear hrun1) | (at_builtin; refine wpList_append_run rfl _ _ 31 rfl _ _ rfl rfl hrun2 ?_; clear hrun2) | (at_builtin; refine wpList_append_run rfl _ _ 31 rfl _ _ rfl rfl hrun3 ?_))
          go_ret
          first | exact ⟨x3, d3, rfl, hFIN.out⟩ | exact ⟨x3, ⟨d3, rfl⟩, hFIN.out⟩ | exact ⟨⟨x3, d3, rfl⟩, hFIN.out⟩
        · have hbw : Blw w wc := hcw
          have hA1 : Blw w (wc.alloc (.cells #[] 39)) := hbw.alloc _
          have hlit : LB (fun b => b = wc.heap.size) (wc.alloc (.cells #[] 39)) (some ⟨wc.heap.size, 0, none⟩) 0 [] := Buf.litE (heap_alloc_new wc (.cells #[] 39)) 2 _
          have hszw := hbw.size
          obtain ⟨x1, d1, v1, hrun1, hB1, hm1⟩ := LB.app hlit (m := l.take p) c ((HU.out.blw hA1).take p) (by have h5 := HLN.out; have h6 : (l.take p).length ≤ l.length := (by rw [List.length_take]; omega); simp only [List.length_nil]; omega) 31
          rw [List.nil_append] at hrun1 hB1
          simp only [List.length_nil] at hrun1
          have hbv1 : Blw w v1 := Mod.blw hA1 hm1 (fun i e => by simp [Value.ownBlock] at e; omega)
          have hB1' : LB (fun b => w.heap.size ≤ b) v1 x1 d1 (l.take p) := hB1.mono (fun b hb => by rcases hb.1 with h6 | h6; (have h7 : b = wc.heap.size := h6; omega); (have h7 : b = wc.heap.size + 1 := by rw [h6, World.size_alloc]); omega)
          have hs1 := hbv1.size
          obtain ⟨x2, d2, v2, hrun2, hB2, hm2⟩ := LB.app (hB1'.blw ((Blw.refl v1).alloc (.cells #[.int .i64 t.1, .int .i64 t.2] 39))) (m := [t]) 1 (one_tm v1 t) (by have h5 := HLN.out; have h6 : (l.take p).length ≤ l.length := (by rw [List.length_take]; omega); simp only [List.length_singleton]; omega) 31
          have hbv2 : Blw w v2 := Mod.blw (hbv1.alloc _) hm2 (fun i e => hB1'.2 i e)
          have hB2' : LB (fun b => w.heap.size ≤ b) v2 x2 d2 (l.take p ++ [t]) := hB2.mono (fun b hb => by rcases hb.1 with h6 | h6; exact h6; (have h7 : b = v1.heap.size + 1 := by rw [h6, World.size_alloc]); omega)
          obtain ⟨x3, d3, v3, hrun3, hB3, hm3⟩ := LB.app hB2' (m := l.drop p) (c - p) ((HU.out.blw hbv2).drop (q := (p * 2)) (fun h5 => by omega)) (by have h5 := HLN.out; have h6 : (l.take p).length ≤ l.length := (by rw [List.length_take]; omega); have h7 : (l.drop p).length ≤ l.length := (by rw [List.length_drop]; omega); simp only [List.length_append, List.length_singleton]; omega) 31
          have hs2 := hbv2.size
          have hFIN : Hid (LB (fun b => w.heap.size ≤ b) v3 x3 d3 (l.take p ++ [t] ++ l.drop p) ∧ Blw w v3) := ⟨hB3.mono (fun b hb => by rcases hb.1 with h6 | h6; exact h6; omega), Mod.blw hbv2 hm3 (fun i e => hB2'.2 i e)⟩
          rw [HPL.out] at hFIN hrun3
          have hlt : (l.take p).length = p := by rw [List.length_take]; omega
          have hld : (l.drop p).length = l.length - p := by rw [List.length_drop]
          rw [hlt] at hrun1 hrun2
          rw [hld] at hrun3
          simp only [List.length_singleton] at hrun2
          obtain ⟨L2, hL2⟩ : ∃ L, l.take p ++ [t] = L := ⟨_, rfl⟩
          rw [hL2] at hrun2 hrun3
          have hwv1 : Blw wc v1 := Mod.blw ((Blw.refl wc).alloc _) hm1 (fun i e => by simp [Value.ownBlock] at e; omega)
          obtain ⟨y0, y1⟩ := get2 (HBX.out.blw hwv1)
          clear hwv1 hm1 hm2 hm3 hB1 hB1' hB2 hB2' hB3 hlit hA1 hbv1 hbv2 hs1 hs2 hszw hL2 hlt hld
          have hp0 : (0 : Int) ≤ (p : Nat) := by omega
          have hp1 : ((p : Nat) : Int) ≤ (l.length : Int) := by omega
          go_wp2_with (first | (at_builtin; refine wpList_append_run rfl _ _ 31 rfl _ _ rfl rfl hrun1 ?_; clear hrun1) | (at_builtin; refine wpList_append_run rfl _ _ 31 rfl _ _ rfl rfl hrun2 ?_; clear hrun2) | (at_builtin; refine wpList_append_run rfl _ _ 31 rfl _ _ rfl rfl hrun3 ?_))
          go_ret
          first | exact ⟨x3, d3, rfl, hFIN.out⟩ | exact ⟨x3, ⟨d3, rfl⟩, hFIN.out⟩ | exact ⟨⟨x3, d3, rfl⟩, hFIN.out⟩
set_option maxRecDepth 100000 in
set_option maxHeartbeats 1600000 in
theorem l11Put_none (t : Tm) (w : World) :
    Calls Try.prog 89 #[.slice none 0 0, .agg #[.int .i64 t.1, .int .i64 t.2]] w fun e w' => ∃ a' c', e = .returned (.slice a' 1 c') ∧ Hid (LB (fun b => w.heap.size ≤ b) w' a' c' [t] ∧ Blw w w') := by
  have hb0 : Blw w (w.alloc (.cells #[.int .i64 t.1, .int .i64 t.2] 39)) := (Blw.refl _).alloc _
  have r0 := box2 w (.int .i64 t.1) (.int .i64 t.2) 39
  obtain ⟨W0, hW0⟩ : ∃ W0, w.alloc (.cells #[.int .i64 t.1, .int .i64 t.2] 39) = W0 := ⟨_, rfl⟩
  rw [hW0] at hb0 r0
  have HB0 : Hid (Blw w W0) := hb0
  have HBX : Hid (Row W0 w.heap.size 2 (fun i => if i = 0 then Value.int .i64 t.1 else .int .i64 t.2)) := r0
  clear hb0 r0
  go_enter Try.func89, Try.ntmps89
  go_upto_region 2 with fail
  try simp only [hW0]
  clear hW0
  go_loopw [5] (fun i wr => i = .int .i64 0 ∧ Hid (Blw W0 wr)) (fun i _ => 1)
  case atStart => exact ⟨rfl, Blw.refl _⟩
  case round =>
    obtain ⟨rfl, hB⟩ := hrel
    go_upto_region 2 with fail
    go_cut [20] from 7 to 20 (fun s20 wx => s20 = .bool false ∧ Hid (Blw W0 wx))
    case first =>
      go_quiet (fail)
      go_wp2_with fail
      go_meet
      exact ⟨rfl, hB.out.drewN _⟩
    case rest =>
      obtain ⟨rfl, hcw0⟩ := hcut
      have hcw := HB0.out.trans hcw0.out
      have HBX : Hid (Row wc w.heap.size 2 (fun i => if i = 0 then Value.int .i64 t.1 else .int .i64 t.2)) := HBX.out.blw hcw0.out
      have hszw := hcw.size
      have hlit : LB (fun b => b = wc.heap.size) (wc.alloc (.cells #[] 39)) (some ⟨wc.heap.size, 0, none⟩) 0 [] := Buf.litE (heap_alloc_new wc (.cells #[] 39)) 2 _
      obtain ⟨x1, d1, v1, hrun1, hB1, hm1⟩ := LB.app hlit (m := []) 0 (UndosAt.none0 (fun _ => False) _ none _ _) (by simp) 31
      have hbv1 : Blw w v1 := Mod.blw (hcw.alloc _) hm1 (fun i e => by simp [Value.ownBlock] at e; omega)
      have hB1' : LB (fun b => w.heap.size ≤ b) v1 x1 d1 [] := hB1.mono (fun b hb => by rcases hb.1 with h6 | h6; (have h7 : b = wc.heap.size := h6; omega); (have h7 : b = wc.heap.size + 1 := by rw [h6, World.size_alloc]); omega)
      have hwv1 : Blw wc v1 := Mod.blw ((Blw.refl wc).alloc _) hm1 (fun i e => by simp [Value.ownBlock] at e; omega)
      obtain ⟨y0, y1⟩ := get2 (HBX.out.blw hwv1)
      have hs1 := hbv1.size
      obtain ⟨x2, d2, v2, hrun2, hB2, hm2⟩ := LB.app (hB1'.blw ((Blw.refl v1).alloc (.cells #[.int .i64 t.1, .int .i64 t.2] 39))) (m := [t]) 1 (one_tm v1 t) (by simp) 31
      have hbv2 : Blw w v2 := Mod.blw (hbv1.alloc _) hm2 (fun i e => hB1'.2 i e)
      have hB2' : LB (fun b => w.heap.size ≤ b) v2 x2 d2 [t] := hB2.mono (fun b hb => by rcases hb.1 with h6 | h6; exact h6; (have h7 : b = v1.heap.size + 1 := by rw [h6, World.size_alloc]); omega)
      have hs2 := hbv2.size
      obtain ⟨x3, d3, v3, hrun3, hB3, hm3⟩ := LB.app hB2' (m := []) 0 (UndosAt.none0 (fun _ => False) _ none _ _) (by simp) 31
      have hFIN : Hid (LB (fun b => w.heap.size ≤ b) v3 x3 d3 [t] ∧ Blw w v3) := ⟨hB3.mono (fun b hb => by rcases hb.1 with h6 | h6; exact h6; omega), Mod.blw hbv2 hm3 (fun i e => hB2'.2 i e)⟩
      simp only [List.length_nil, List.length_singleton, List.nil_append, List.append_nil] at hrun1 hrun2 hrun3
      clear hm1 hm2 hm3 hB1 hB1' hB2 hB2' hB3 hlit hbv1 hbv2 hs1 hs2 hszw hwv1
      go_wp2_with (first | (at_builtin; refine wpList_append_run rfl _ _ 31 rfl _ _ rfl rfl hrun1 ?_; clear hrun1) | (at_builtin; refine wpList_append_run rfl _ _ 31 rfl _ _ rfl rfl hrun2 ?_; clear hrun2) | (at_builtin; refine wpList_append_run rfl _ _ 31 rfl _ _ rfl rfl hrun3 ?_))
      go_ret
      first | exact ⟨x3, d3, rfl, hFIN.out⟩ | exact ⟨x3, ⟨d3, rfl⟩, hFIN.out⟩ | exact ⟨⟨x3, d3, rfl⟩, hFIN.out⟩
theorem l11Put_any (ao : Option Addr) (c : Nat) (l : List Tm) (t : Tm) (X : Nat → Prop) (w : World) (hn : l.length ≤ 1000) (h : LB X w ao c l) :
    Calls Try.prog 89 #[.slice ao l.length c, .agg #[.int .i64 t.1, .int .i64 t.2]] w fun e w' => ∃ a' c', e = .returned (.slice a' (ins l t).length c') ∧ Hid (LB (fun b => w.heap.size ≤ b) w' a' c' (ins l t) ∧ Blw w w') := by
  rcases Buf.rowE h with ⟨h0, h1, h2⟩ | ⟨g', f', h0, _, h1, h2, _⟩
  · obtain rfl := List.length_eq_zero_iff.1 h1
    subst h0 h2
    exact l11Put_none t w
  · subst h0
    exact l11Put_some g' c l t X w hn h1 h2 (LB.at h (by omega))
end Go.Proofs.Ytkmkidahaagbpaa
