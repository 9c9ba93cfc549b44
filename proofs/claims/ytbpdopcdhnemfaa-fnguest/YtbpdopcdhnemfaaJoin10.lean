/- Merged by program, in this order: Dg, Ds, Goc, Exc. -/
import Derived.Test.YtbpdopcdhnemfaaJoin9
/- What FnGuest draws and asks. -/
namespace Go.Proofs.Ytbpdopcdhnemfaa
open Go.RowKit
set_option linter.unusedSimpArgs false
set_option linter.unusedVariables false
set_option maxHeartbeats 800000 in
theorem numberOf_any (ao : Option Addr) (n cc : Nat) (f : Nat → Int) (Y : Nat → Prop) (w : World) (h : BytesAt Y w ao n f) :
    Calls Try.prog 43 #[.slice ao n cc] w fun r w' => ∃ x : Nat, r = .returned (.int .i64 x) ∧ x < 1000003 ∧ w' = w := by
  have HH : Hid (BytesAt Y w ao n f) := h
  have hn := h.1
  clear h
  go_enter Try.func43, Try.ntmps43
  go_wp2_with fail
  go_loopw [3, 8] (fun v i wr => ∃ k x : Nat, k ≤ n ∧ i = .int .i64 k ∧ v = .int .i64 x ∧ x < 1000003 ∧ wr = w) (fun _ i _ => n - (intOf i).toNat)
  case atStart => exact ⟨0, 0, Nat.zero_le _, rfl, rfl, by omega, rfl⟩
  case round =>
    obtain ⟨k, x, hk, rfl, rfl, hx, rfl⟩ := hrel
    by_cases hlt : k < n
    · have hlt' : (k : Int) < n := by omega
      obtain ⟨b, o, rfl, -, q, x0, x1⟩ := HH.out.2 k hlt
      obtain ⟨y, hy⟩ := Int.eq_ofNat_of_zero_le x0
      rw [hy] at q x0 x1
      obtain ⟨z, hz, hz3⟩ : ∃ z : Nat, (31 * (x : Int) + y) % 1000003 = z ∧ z < 1000003 := ⟨(31 * x + y) % 1000003, by omega, by omega⟩
      have hm : (31 * (x : Int) + y).tmod 1000003 = z := by rw [Int.tmod_eq_emod_of_nonneg (by omega)]; exact hz
      clear hy
      go_wp2
      go_roundw
      case rel => exact ⟨k + 1, z, by omega, by go_num, by first | rfl | (congr 1), hz3, by first | rfl | trivial⟩
      case measure => simp [intOf]; omega
    · obtain rfl : k = n := by omega
      go_wp2
      go_ret
      exact ⟨x, rfl, hx, rfl⟩
set_option maxHeartbeats 800000 in
theorem has_any (ao : Option Addr) (c n : Nat) (f : Nat → Int) (x : Int) (Y : Nat → Prop) (w : World) (h : IntsAt Y w ao n f) :
    Calls Try.prog 45 #[.slice ao n c, .int .i64 x] w fun e w' => ∃ r, e = .returned (.bool r) ∧ (r = true ↔ isIn n f x) ∧ w' = w := by
  have H : Hid (IntsAt Y w ao n f) := h
  have hnn := h.1
  clear h
  go_enter Try.func45, Try.ntmps45
  go_wp2_with fail
  go_loopw [9] (fun i wr => ∃ k : Nat, k ≤ n ∧ i = .int .i64 k ∧ wr = w ∧ ∀ t, t < k → ¬ f t = x) (fun i _ => n - (intOf i).toNat)
  case atStart => exact ⟨0, Nat.zero_le _, rfl, rfl, fun t ht => absurd ht (Nat.not_lt_zero _)⟩
  case round =>
    obtain ⟨k, hk, rfl, rfl, ho⟩ := hrel
    have HO : Hid (∀ t, t < k → ¬ f t = x) := ho
    clear ho
    by_cases hlt : k < n
    · have hlt' : (k : Int) < n := by omega
      obtain ⟨b, o, rfl, -, g1⟩ := H.out.2 k hlt
      by_cases he : f k = x
      · have d1 : (f k == x) = true := by simp [he]
        have HI : Hid (isIn n f x) := ⟨k, hlt, he⟩
        clear he H
        go_wp2
        go_ret
        exact ⟨true, rfl, ⟨fun _ => HI.out, fun _ => rfl⟩, by first | rfl | trivial⟩
      · have d1 : (f k == x) = false := by simp [he]
        have HN : Hid (∀ t, t < k + 1 → ¬ f t = x) := fun t ht => by
          by_cases e : t = k
          · rw [e]; exact he
          · exact HO.out t (by omega)
        clear he HO H
        go_wp2
        go_roundw
        case rel => exact ⟨k + 1, by omega, by go_num, by first | trivial | rfl, HN.out⟩
        case measure => simp [intOf]; omega
    · obtain rfl : k = n := by omega
      go_wp2
      go_ret
      exact ⟨false, rfl, ⟨(fun e => by cases e), fun g => by obtain ⟨t, h1, h2⟩ := g; exact absurd h2 (HO.out t h1)⟩, by first | rfl | trivial⟩
theorem sameInts_any (a1 a2 : Option Addr) (c1 c2 n m : Nat) (f g : Nat → Int) {Y Z : Nat → Prop} (w : World) (h1 : IntsAt Y w a1 n f) (h2 : IntsAt Z w a2 m g) :
    Calls Try.prog 20 #[.slice a1 n c1, .slice a2 m c2] w fun e w' => ∃ r, e = .returned (.bool r) ∧ (r = true ↔ n = m ∧ ∀ i, i < n → f i = g i) ∧ Blw w w' := by
  by_cases hn : n = m
  · subst hn
    by_cases he : ∀ i, i < n → f i = g i
    · exact (sameInts_yes a1 a2 c1 c2 n f g w h1 h2 he).mono (fun e w' h => ⟨true, h.1, ⟨fun _ => ⟨rfl, he⟩, fun _ => rfl⟩, by obtain ⟨q, hq⟩ := h.2; rw [hq]; exact Blw.drewN (Blw.refl w) q⟩)
    · obtain ⟨i, hi, hne⟩ : ∃ i, i < n ∧ ¬ f i = g i := Classical.byContradiction fun hx => he fun i hi => Classical.byContradiction fun hy => hx ⟨i, hi, hy⟩
      exact (sameInts_no a1 a2 c1 c2 n f g w h1 h2 i hi hne).mono (fun e w' h => ⟨false, h.1, ⟨(fun e => by cases e), fun q => absurd q.2 he⟩, by obtain ⟨q, hq⟩ := h.2; rw [hq]; exact Blw.drewN (Blw.refl w) q⟩)
  · have d1 : ((n : Int) != (m : Int)) = true := by simp; omega
    have HN : Hid (¬ n = m) := hn
    clear hn h1 h2
    go_enter Try.func20, Try.ntmps20
    go_wp2
    go_ret
    exact ⟨false, rfl, ⟨(fun e => by cases e), fun q => absurd q.1 HN.out⟩, Blw.refl _⟩
set_option maxRecDepth 10000 in
set_option maxHeartbeats 6400000 in
theorem sameGuest_any (v v9 : GV) (D E : GD) {Y Z : Nat → Prop} (w : World) (h1 : GAt Y w v D) (h2 : GAt Z w v9 E) :
    Calls Try.prog 42 #[v.val D, v9.val E] w fun e w' => ∃ r, e = .returned (.bool r) ∧ (r = true ↔ D.Alike E) ∧ Blw w w' := by
  have HB : Hid (Blw w ((w.alloc (.cells #[.int .i64 D.at_, .int .i64 D.acc, .slice v.a1 D.nc v.c1, .slice v.a2 D.nt v.c2, .bool D.d] 61)).alloc (.cells #[.int .i64 E.at_, .int .i64 E.acc, .slice v9.a1 E.nc v9.c1, .slice v9.a2 E.nt v9.c2, .bool E.d] 61))) := ((Blw.refl _).alloc _).alloc _
  have R0 : Hid (Row ((w.alloc (.cells #[.int .i64 D.at_, .int .i64 D.acc, .slice v.a1 D.nc v.c1, .slice v.a2 D.nt v.c2, .bool D.d] 61)).alloc (.cells #[.int .i64 E.at_, .int .i64 E.acc, .slice v9.a1 E.nc v9.c1, .slice v9.a2 E.nt v9.c2, .bool E.d] 61)) w.heap.size 5 (gb v D)) := (row5 w _ _ _ _ _ 61).blw ((Blw.refl _).alloc _)
  have r1 := row5 (w.alloc (.cells #[.int .i64 D.at_, .int .i64 D.acc, .slice v.a1 D.nc v.c1, .slice v.a2 D.nt v.c2, .bool D.d] 61)) (.int .i64 E.at_) (.int .i64 E.acc) (.slice v9.a1 E.nc v9.c1) (.slice v9.a2 E.nt v9.c2) (.bool E.d) 61
  rw [World.size_alloc] at r1
  have R1 : Hid (Row ((w.alloc (.cells #[.int .i64 D.at_, .int .i64 D.acc, .slice v.a1 D.nc v.c1, .slice v.a2 D.nt v.c2, .bool D.d] 61)).alloc (.cells #[.int .i64 E.at_, .int .i64 E.acc, .slice v9.a1 E.nc v9.c1, .slice v9.a2 E.nt v9.c2, .bool E.d] 61)) (w.heap.size + 1) 5 (gb v9 E)) := r1
  have HW : Hid (GAt Y ((w.alloc (.cells #[.int .i64 D.at_, .int .i64 D.acc, .slice v.a1 D.nc v.c1, .slice v.a2 D.nt v.c2, .bool D.d] 61)).alloc (.cells #[.int .i64 E.at_, .int .i64 E.acc, .slice v9.a1 E.nc v9.c1, .slice v9.a2 E.nt v9.c2, .bool E.d] 61)) v D ∧ GAt Z ((w.alloc (.cells #[.int .i64 D.at_, .int .i64 D.acc, .slice v.a1 D.nc v.c1, .slice v.a2 D.nt v.c2, .bool D.d] 61)).alloc (.cells #[.int .i64 E.at_, .int .i64 E.acc, .slice v9.a1 E.nc v9.c1, .slice v9.a2 E.nt v9.c2, .bool E.d] 61)) v9 E) := ⟨h1.blw HB.out, h2.blw HB.out⟩
  clear h1 h2 r1
  go_enter Try.func42, Try.ntmps42
  go_upto_region 1 with fail
  generalize ((w.alloc (.cells #[.int .i64 D.at_, .int .i64 D.acc, .slice v.a1 D.nc v.c1, .slice v.a2 D.nt v.c2, .bool D.d] 61)).alloc (.cells #[.int .i64 E.at_, .int .i64 E.acc, .slice v9.a1 E.nc v9.c1, .slice v9.a2 E.nt v9.c2, .bool E.d] 61)) = w1 at *
  obtain ⟨p0, p1, p2, p3, p4⟩ := get5 R0.out
  obtain ⟨q0, q1, q2, q3, q4⟩ := get5 R1.out
  by_cases ea : D.at_ = E.at_
  case neg =>
    have da : (D.at_ == E.at_) = false := by simp [ea]
    have HN : Hid (¬ D.at_ = E.at_) := ea
    clear ea
    go_wp2
    go_ret
    exact ⟨false, rfl, ⟨(fun e => by cases e), fun q => absurd q.a HN.out⟩, HB.out⟩
  have da : (D.at_ == E.at_) = true := by simp [ea]
  have EA : Hid (D.at_ = E.at_) := ea
  clear ea
  by_cases eb : D.acc = E.acc
  case neg =>
    have db : (D.acc == E.acc) = false := by simp [eb]
    have HN : Hid (¬ D.acc = E.acc) := eb
    clear eb
    go_wp2
    go_ret
    exact ⟨false, rfl, ⟨(fun e => by cases e), fun q => absurd q.acc HN.out⟩, HB.out⟩
  have db : (D.acc == E.acc) = true := by simp [eb]
  have EB : Hid (D.acc = E.acc) := eb
  clear eb
  go_wp2_with fail
  refine (sameInts_any v.a1 v9.a1 v.c1 v9.c1 D.nc E.nc D.c E.c w1 HW.out.1.c HW.out.2.c).mono ?_
  rintro e w2 ⟨r, rfl, hr, hb1⟩
  have HR : Hid (r = true ↔ D.nc = E.nc ∧ ∀ i, i < D.nc → D.c i = E.c i) := hr
  replace HB : Hid (Blw w w2) := HB.out.trans hb1
  replace R0 : Hid (Row w2 w.heap.size 5 (gb v D)) := R0.out.blw hb1
  replace R1 : Hid (Row w2 (w.heap.size + 1) 5 (gb v9 E)) := R1.out.blw hb1
  replace HW : Hid (GAt Y w2 v D ∧ GAt Z w2 v9 E) := ⟨HW.out.1.blw hb1, HW.out.2.blw hb1⟩
  clear hb1 hr da db p0 p1 p2 p3 p4 q0 q1 q2 q3 q4
  obtain ⟨p0, p1, p2, p3, p4⟩ := get5 R0.out
  obtain ⟨q0, q1, q2, q3, q4⟩ := get5 R1.out
  cases r
  · have HN : Hid (¬ (D.nc = E.nc ∧ ∀ i, i < D.nc → D.c i = E.c i)) := fun q => by have := HR.out.2 q; cases this
    clear HR HW
    go_wp2
    go_ret
    exact ⟨false, rfl, ⟨(fun e => by cases e), fun q => absurd ⟨q.nc, q.c⟩ HN.out⟩, HB.out⟩
  have EC : Hid (D.nc = E.nc ∧ ∀ i, i < D.nc → D.c i = E.c i) := HR.out.1 (by first | rfl | trivial)
  clear HR
  go_wp2_with fail
  refine (sameInts_any v.a2 v9.a2 v.c2 v9.c2 D.nt E.nt D.t E.t w2 HW.out.1.t HW.out.2.t).mono ?_
  rintro e w3 ⟨r, rfl, hr, hb1⟩
  have HR : Hid (r = true ↔ D.nt = E.nt ∧ ∀ i, i < D.nt → D.t i = E.t i) := hr
  replace HB : Hid (Blw w w3) := HB.out.trans hb1
  replace R0 : Hid (Row w3 w.heap.size 5 (gb v D)) := R0.out.blw hb1
  replace R1 : Hid (Row w3 (w.heap.size + 1) 5 (gb v9 E)) := R1.out.blw hb1
  clear hb1 hr p0 p1 p2 p3 p4 q0 q1 q2 q3 q4 HW
  obtain ⟨p0, p1, p2, p3, p4⟩ := get5 R0.out
  obtain ⟨q0, q1, q2, q3, q4⟩ := get5 R1.out
  cases r
  · have HN : Hid (¬ (D.nt = E.nt ∧ ∀ i, i < D.nt → D.t i = E.t i)) := fun q => by have := HR.out.2 q; cases this
    clear HR
    go_wp2
    go_ret
    exact ⟨false, rfl, ⟨(fun e => by cases e), fun q => absurd ⟨q.nt, q.t⟩ HN.out⟩, HB.out⟩
  have ET : Hid (D.nt = E.nt ∧ ∀ i, i < D.nt → D.t i = E.t i) := HR.out.1 (by first | rfl | trivial)
  clear HR
  have HD : Hid ((D.d == E.d) = true ↔ D.Alike E) := ⟨fun e => ⟨EA.out, EB.out, EC.out.1, EC.out.2, ET.out.1, ET.out.2, by simpa using e⟩, fun q => by simpa using q.d⟩
  clear EA EB EC ET
  go_wp2
  go_ret
  exact ⟨_, rfl, HD.out, HB.out⟩
set_option maxRecDepth 10000 in
set_option maxHeartbeats 3200000 in
theorem drawRunG_any (ao : Option Addr) (n cc : Nat) (f : Nat → Int) (w : World) (h : BytesAt (fun b => b < w.heap.size) w ao n f) :
    Calls Try.prog 37 #[.slice ao n cc] w fun e w' => ∃ (ap : Option Addr) (np cp : Nat) (F : Nat → Nat → Int) (u : GV) (D : GD) (k : Int), e = .returned (.tuple #[.slice ap np cp, u.val D, .int .i64 k]) ∧ np ≤ 17 ∧ KOwn 3 (fun x => w.heap.size ≤ x ∧ x < w'.heap.size) w' ap np F ∧ D.small ∧ GOwn (fun x => w.heap.size ≤ x ∧ x < w'.heap.size) w' u D ∧ Blw w w' := by
  have HB : Hid (Blw w ((w.alloc (.cells #[.int .i64 0, .int .i64 0, .slice none 0 0, .slice none 0 0, .bool false] 61)).alloc (.cells #[.slice ao n cc, .int .i64 0, .int .u64 0] 108))) := ((Blw.refl _).alloc _).alloc _
  have HZ : Hid (Row ((w.alloc (.cells #[.int .i64 0, .int .i64 0, .slice none 0 0, .slice none 0 0, .bool false] 61)).alloc (.cells #[.slice ao n cc, .int .i64 0, .int .u64 0] 108)) w.heap.size 5 (fun i => if i = 0 then .int .i64 0 else if i = 1 then .int .i64 0 else if i = 2 then .slice none 0 0 else if i = 3 then .slice none 0 0 else .bool false)) := (row5 w _ _ _ _ _ 61).blw ((Blw.refl _).alloc _)
  have HC : Hid (Cur (fun b => b < w.heap.size) ((w.alloc (.cells #[.int .i64 0, .int .i64 0, .slice none 0 0, .slice none 0 0, .bool false] 61)).alloc (.cells #[.slice ao n cc, .int .i64 0, .int .u64 0] 108)) (w.heap.size + 1) 0) := ⟨ao, n, cc, 0, f, 0, by
    have := box3 (w.alloc (.cells #[.int .i64 0, .int .i64 0, .slice none 0 0, .slice none 0 0, .bool false] 61)) (.slice ao n cc) (.int .i64 0) (.int .u64 0) 108
    rw [World.size_alloc] at this
    exact this, h.blw HB.out, Nat.le_refl _, fun b hb => by omega⟩
  have HS : Hid (((w.alloc (.cells #[.int .i64 0, .int .i64 0, .slice none 0 0, .slice none 0 0, .bool false] 61)).alloc (.cells #[.slice ao n cc, .int .i64 0, .int .u64 0] 108)).heap.size = w.heap.size + 1 + 1) := by show _ = _; simp
  clear h
  go_enter Try.func37, Try.ntmps37
  go_upto_region 2 with fail
  generalize ((w.alloc (.cells #[.int .i64 0, .int .i64 0, .slice none 0 0, .slice none 0 0, .bool false] 61)).alloc (.cells #[.slice ao n cc, .int .i64 0, .int .u64 0] 108)) = w1 at *
  go_wp2_with fail
  refine (program_any (fun b => b < w.heap.size) (w.heap.size + 1) 0 w1 (by omega) (fun b hb => ⟨by have := HS.out; omega, by omega⟩) HC.out).mono ?_
  rintro e w2 ⟨v, np, rfl, hnp, hb⟩
  obtain ⟨F, hbf⟩ := hb.ex
  obtain ⟨ap, cp, rfl, hko⟩ := Buf.prog hbf (by omega)
  have HK : Hid (KOwn 3 (fun b => w1.heap.size ≤ b ∧ b < w2.heap.size) w2 ap np F) := hko
  have HM : Hid (Mod (fun b => b = w.heap.size + 1) w1 w2) := hb.mod
  have HC2 : Hid (Cur (fun b => b < w.heap.size) w2 (w.heap.size + 1) (0 + 400)) := hb.cur
  have HS2 : Hid (w1.heap.size ≤ w2.heap.size) := hb.mod.size
  clear hb hbf hko HC
  go_wp2_with fail
  refine (guest_any (fun b => b < w.heap.size) (w.heap.size + 1) (0 + 400) w2 (by omega) (fun b hb => ⟨by have := HS.out; have := HS2.out; omega, by omega⟩) HC2.out).mono ?_
  rintro e w3 ⟨u, D, rfl, hs, own, hc, hm⟩
  have hs1 := HS.out; have hs2 := HS2.out; have hs3 := hm.size
  have hA : Blw w3 (w3.alloc (.cells #[.int .i64 (-1), .int .i64 0, .int .i64 1, .int .i64 5, .int .i64 30, .int .i64 60, .int .i64 61] 3)) := (Blw.refl _).alloc _
  have HI3 : Hid (IntsAt (fun b => b = w3.heap.size) (w3.alloc (.cells #[.int .i64 (-1), .int .i64 0, .int .i64 1, .int .i64 5, .int .i64 30, .int .i64 60, .int .i64 61] 3)) (some ⟨w3.heap.size, 0, none⟩) 7 (fun i => ([-1, 0, 1, 5, 30, 60, 61] : List Int).getD i 0)) := ints_lit w3 [-1, 0, 1, 5, 30, 60, 61] (by decide)
  have HC3 : Hid (Cur (fun b => b < w.heap.size) (w3.alloc (.cells #[.int .i64 (-1), .int .i64 0, .int .i64 1, .int .i64 5, .int .i64 30, .int .i64 60, .int .i64 61] 3)) (w.heap.size + 1) (0 + 400 + 120)) := hc.blw hA
  replace HK : Hid (KOwn 3 (fun b => w1.heap.size ≤ b ∧ b < w2.heap.size) (w3.alloc (.cells #[.int .i64 (-1), .int .i64 0, .int .i64 1, .int .i64 5, .int .i64 30, .int .i64 60, .int .i64 61] 3)) ap np F) := (HK.out.mod hm (fun b hb => by omega)).blw hA
  have HO : Hid (GOwn (fun b => w2.heap.size ≤ b ∧ b < w3.heap.size) (w3.alloc (.cells #[.int .i64 (-1), .int .i64 0, .int .i64 1, .int .i64 5, .int .i64 30, .int .i64 60, .int .i64 61] 3)) u D) := own.blw hA
  replace HZ : Hid (Row (w3.alloc (.cells #[.int .i64 (-1), .int .i64 0, .int .i64 1, .int .i64 5, .int .i64 30, .int .i64 60, .int .i64 61] 3)) w.heap.size 5 (fun i => if i = 0 then .int .i64 0 else if i = 1 then .int .i64 0 else if i = 2 then .slice none 0 0 else if i = 3 then .slice none 0 0 else .bool false)) := ((HZ.out.mod HM.out (by omega)).mod hm (by omega)).blw hA
  replace HB : Hid (Blw w (w3.alloc (.cells #[.int .i64 (-1), .int .i64 0, .int .i64 1, .int .i64 5, .int .i64 30, .int .i64 60, .int .i64 61] 3))) := (Mod.blw (Mod.blw HB.out HM.out (fun i e => by omega)) hm (fun i e => by omega)).trans hA
  have H34 : Hid (w3.heap.size ≤ (w3.alloc (.cells #[.int .i64 (-1), .int .i64 0, .int .i64 1, .int .i64 5, .int .i64 30, .int .i64 60, .int .i64 61] 3)).heap.size) := hA.size
  have HSM : Hid D.small := hs
  have HS3 : Hid (w.heap.size + 1 + 1 ≤ w2.heap.size ∧ w2.heap.size ≤ w3.heap.size) := ⟨by omega, hs3⟩
  clear hs own hc hm hA HM HC2 hs1 hs2 hs3
  go_wp2_with fail
  generalize (w3.alloc (.cells #[.int .i64 (-1), .int .i64 0, .int .i64 1, .int .i64 5, .int .i64 30, .int .i64 60, .int .i64 61] 3)) = w4 at *
  refine (among_any _ _ (w.heap.size + 1) (0 + 400 + 120) _ 7 7 _ _ (by omega) (by omega) HI3.out (fun b hb => by have := HS3.out; omega) HC3.out).mono ?_
  rintro e w5 ⟨k, rfl, hc5, hm5⟩
  have hs1 := HS.out; have hs2 := HS2.out; have hs3 := HS3.out; have hs5 := hm5.size
  have hzz := HZ.out.mod hm5 (by omega)
  obtain ⟨t0, t1, t2, t3, t4⟩ := get5 hzz
  have g0 := hzz.frozen 0; have g1 := hzz.frozen 1; have g2 := hzz.frozen 2; have g3 := hzz.frozen 3; have g4 := hzz.frozen 4
  have m1 := set5_modG w5 w.heap.size (.int .i64 D.at_) (.int .i64 D.acc) (.slice u.a1 D.nc u.c1) (.slice u.a2 D.nt u.c2) (.bool D.d) (X := fun x => x = w.heap.size) rfl
  have hs4 := m1.size
  have hw4 : w3.heap.size ≤ w4.heap.size := H34.out
  have HF : Hid (_ ∧ _ ∧ _) := ⟨((HK.out.mod hm5 (fun b hb => by omega)).mod m1 (fun b hb => by omega)).mono (Y := fun b => w.heap.size ≤ b ∧ b < _) (fun b hb => ⟨by omega, Nat.lt_of_lt_of_le (by omega : b < w5.heap.size) hs4⟩), ((HO.out.mod hm5 (fun b hb => by omega)).mod m1 (fun b hb => by omega)).mono (Y := fun b => w.heap.size ≤ b ∧ b < _) (fun b hb => ⟨by omega, Nat.lt_of_lt_of_le (by omega : b < w5.heap.size) hs4⟩), Mod.blw (Mod.blw HB.out hm5 (fun i e => by omega)) m1 (fun i e => by omega)⟩
  clear hc5 hm5 hs1 hs2 hs3 hs4 hs5 hw4 hzz m1 HK HC3 HS2 HS HS3 HZ HB HO HI3
  go_wp2
  refine bodyPost_ret (v := .tuple #[.slice ap np cp, GV.val u D, .int .i64 k]) (by simp [results, Try.results37, go_sem, t0, t1, t2, t3, t4]) rfl ⟨ap, np, cp, F, u, D, k, rfl, hnp, HF.out.1, HSM.out, HF.out.2.1, HF.out.2.2⟩
end Go.Proofs.Ytbpdopcdhnemfaa
/- The two guests that FnGuest draws. -/
namespace Go.Proofs.Ytbpdopcdhnemfaa
open Go.RowKit
set_option linter.unusedSimpArgs false
set_option linter.unusedVariables false
theorem mg_at {X : Nat → Prop} {w : World} {v : GV} {D : GD} (h : MG X w v D) (hn : D.nt ≤ 9223372036854775807) : GAt X w v D := by
  obtain ⟨X1, X2, d1, d2, hg, hh⟩ := h.ex
  exact ⟨hg.at.mono (fun b hb => (d1 b hb).1), (BufI.own' hh hn).at.mono d2⟩
set_option maxRecDepth 10000 in
set_option maxHeartbeats 6400000 in
theorem drawSameG_any (ao : Option Addr) (n cc : Nat) (f : Nat → Int) (w : World) (h : BytesAt (fun b => b < w.heap.size) w ao n f) :
    Calls Try.prog 46 #[.slice ao n cc] w fun e w' => ∃ (u : GV) (D : GD) (v : GV) (E : GD), e = .returned (.tuple #[u.val D, v.val E]) ∧ D.small ∧ E.small ∧ GAt (fun x => x < w'.heap.size) w' u D ∧ GAt (fun x => x < w'.heap.size) w' v E ∧ Blw w w' := by
  have HBW : Hid (Blw w (((w.alloc (.cells #[.int .i64 0, .int .i64 0, .slice none 0 0, .slice none 0 0, .bool false] 61)).alloc (.cells #[.int .i64 0, .int .i64 0, .slice none 0 0, .slice none 0 0, .bool false] 61)).alloc (.cells #[.slice ao n cc, .int .i64 0, .int .u64 0] 108))) := (((Blw.refl _).alloc _).alloc _).alloc _
  have HZ2 : Hid (Row (((w.alloc (.cells #[.int .i64 0, .int .i64 0, .slice none 0 0, .slice none 0 0, .bool false] 61)).alloc (.cells #[.int .i64 0, .int .i64 0, .slice none 0 0, .slice none 0 0, .bool false] 61)).alloc (.cells #[.slice ao n cc, .int .i64 0, .int .u64 0] 108)) w.heap.size 5 (fun i => if i = 0 then .int .i64 0 else if i = 1 then .int .i64 0 else if i = 2 then .slice none 0 0 else if i = 3 then .slice none 0 0 else .bool false)) := (row5 w _ _ _ _ _ 61).blw (((Blw.refl _).alloc _).alloc _)
  have hz3 := row5 (w.alloc (.cells #[.int .i64 0, .int .i64 0, .slice none 0 0, .slice none 0 0, .bool false] 61)) (.int .i64 0) (.int .i64 0) (.slice none 0 0) (.slice none 0 0) (.bool false) 61
  rw [World.size_alloc] at hz3
  have HZ3 : Hid (Row (((w.alloc (.cells #[.int .i64 0, .int .i64 0, .slice none 0 0, .slice none 0 0, .bool false] 61)).alloc (.cells #[.int .i64 0, .int .i64 0, .slice none 0 0, .slice none 0 0, .bool false] 61)).alloc (.cells #[.slice ao n cc, .int .i64 0, .int .u64 0] 108)) (w.heap.size + 1) 5 (fun i => if i = 0 then .int .i64 0 else if i = 1 then .int .i64 0 else if i = 2 then .slice none 0 0 else if i = 3 then .slice none 0 0 else .bool false)) := hz3.blw ((Blw.refl _).alloc _)
  have HC : Hid (Cur (fun b => b < w.heap.size) (((w.alloc (.cells #[.int .i64 0, .int .i64 0, .slice none 0 0, .slice none 0 0, .bool false] 61)).alloc (.cells #[.int .i64 0, .int .i64 0, .slice none 0 0, .slice none 0 0, .bool false] 61)).alloc (.cells #[.slice ao n cc, .int .i64 0, .int .u64 0] 108)) (w.heap.size + 1 + 1) 0) := ⟨ao, n, cc, 0, f, 0, by
    have := box3 ((w.alloc (.cells #[.int .i64 0, .int .i64 0, .slice none 0 0, .slice none 0 0, .bool false] 61)).alloc (.cells #[.int .i64 0, .int .i64 0, .slice none 0 0, .slice none 0 0, .bool false] 61)) (.slice ao n cc) (.int .i64 0) (.int .u64 0) 108
    rw [World.size_alloc, World.size_alloc] at this
    exact this, h.blw HBW.out, Nat.le_refl _, fun b hb => by omega⟩
  have HS : Hid ((((w.alloc (.cells #[.int .i64 0, .int .i64 0, .slice none 0 0, .slice none 0 0, .bool false] 61)).alloc (.cells #[.int .i64 0, .int .i64 0, .slice none 0 0, .slice none 0 0, .bool false] 61)).alloc (.cells #[.slice ao n cc, .int .i64 0, .int .u64 0] 108)).heap.size = w.heap.size + 1 + 1 + 1) := by show _ = _; simp
  clear h hz3
  go_enter Try.func46, Try.ntmps46
  go_upto_region 2 with fail
  generalize (((w.alloc (.cells #[.int .i64 0, .int .i64 0, .slice none 0 0, .slice none 0 0, .bool false] 61)).alloc (.cells #[.int .i64 0, .int .i64 0, .slice none 0 0, .slice none 0 0, .bool false] 61)).alloc (.cells #[.slice ao n cc, .int .i64 0, .int .u64 0] 108)) = w1 at *
  go_wp2_with fail
  refine (guest_any (fun b => b < w.heap.size) (w.heap.size + 1 + 1) 0 w1 (by omega) (fun b hb => ⟨by have := HS.out; omega, by omega⟩) HC.out).mono ?_
  rintro e w2 ⟨u, D, rfl, hs, own, hc, hm⟩
  have hs1 := HS.out
  have hs2 := hm.size
  have hA : Blw w2 (w2.alloc (.cells #[.int .i64 D.at_, .int .i64 D.acc, .slice u.a1 D.nc u.c1, .slice u.a2 D.nt u.c2, .bool D.d] 61)) := (Blw.refl _).alloc _
  have HSM : Hid D.small := hs
  have HR5 : Hid (Row (w2.alloc (.cells #[.int .i64 D.at_, .int .i64 D.acc, .slice u.a1 D.nc u.c1, .slice u.a2 D.nt u.c2, .bool D.d] 61)) w2.heap.size 5 (gb u D)) := row5 w2 _ _ _ _ _ 61
  have HG9 : Hid (GAt (fun x => x < w2.heap.size ∧ w.heap.size + 1 + 1 < x) (w2.alloc (.cells #[.int .i64 D.at_, .int .i64 D.acc, .slice u.a1 D.nc u.c1, .slice u.a2 D.nt u.c2, .bool D.d] 61)) u D) := (own.at.blw hA).mono (fun x hx => ⟨hx.2, by omega⟩)
  replace HZ2 : Hid (Row (w2.alloc (.cells #[.int .i64 D.at_, .int .i64 D.acc, .slice u.a1 D.nc u.c1, .slice u.a2 D.nt u.c2, .bool D.d] 61)) w.heap.size 5 (fun i => if i = 0 then .int .i64 0 else if i = 1 then .int .i64 0 else if i = 2 then .slice none 0 0 else if i = 3 then .slice none 0 0 else .bool false)) := (HZ2.out.mod hm (by omega)).blw hA
  replace HZ3 : Hid (Row (w2.alloc (.cells #[.int .i64 D.at_, .int .i64 D.acc, .slice u.a1 D.nc u.c1, .slice u.a2 D.nt u.c2, .bool D.d] 61)) (w.heap.size + 1) 5 (fun i => if i = 0 then .int .i64 0 else if i = 1 then .int .i64 0 else if i = 2 then .slice none 0 0 else if i = 3 then .slice none 0 0 else .bool false)) := (HZ3.out.mod hm (by omega)).blw hA
  replace HBW : Hid (Blw w (w2.alloc (.cells #[.int .i64 D.at_, .int .i64 D.acc, .slice u.a1 D.nc u.c1, .slice u.a2 D.nt u.c2, .bool D.d] 61))) := (Mod.blw HBW.out hm (fun i e => by omega)).trans hA
  replace HC : Hid (Cur (fun b => b < w.heap.size) (w2.alloc (.cells #[.int .i64 D.at_, .int .i64 D.acc, .slice u.a1 D.nc u.c1, .slice u.a2 D.nt u.c2, .bool D.d] 61)) (w.heap.size + 1 + 1) (0 + 120)) := hc.blw hA
  have HZB : Hid (w.heap.size + 1 + 1 < w2.heap.size ∧ w2.heap.size < (w2.alloc (.cells #[.int .i64 D.at_, .int .i64 D.acc, .slice u.a1 D.nc u.c1, .slice u.a2 D.nt u.c2, .bool D.d] 61)).heap.size) := ⟨by omega, by simp⟩
  clear hs own hc hm hA hs1 hs2 HS
  go_wp2_with fail
  generalize (w2.alloc (.cells #[.int .i64 D.at_, .int .i64 D.acc, .slice u.a1 D.nc u.c1, .slice u.a2 D.nt u.c2, .bool D.d] 61)) = w3 at *
  generalize w2.heap.size = zb at *
  refine (one_any (fun b => b < w.heap.size) (w.heap.size + 1 + 1) (0 + 120) 2 w3 (by omega) (by omega) HC.out).mono ?_
  rintro e w9 ⟨r, rfl, hc, hm⟩
  have hq9 := hm.size
  have hz9 := HZB.out
  replace HR5 : Hid (Row w9 zb 5 (gb u D)) := HR5.out.mod hm (by omega)
  have HG5 : Hid (GAt (fun x => x < w9.heap.size) w9 u D) := (HG9.out.mod hm (fun b hb e => by have := hb.2; omega)).mono (fun x hx => by omega)
  replace HG9 : Hid (GAt (fun x => x < w9.heap.size ∧ w.heap.size + 1 + 1 < x) w9 u D) := (HG9.out.mod hm (fun b hb e => by have := hb.2; omega)).mono (fun x hx => ⟨by omega, hx.2⟩)
  replace HZ2 : Hid (Row w9 w.heap.size 5 (fun i => if i = 0 then .int .i64 0 else if i = 1 then .int .i64 0 else if i = 2 then .slice none 0 0 else if i = 3 then .slice none 0 0 else .bool false)) := HZ2.out.mod hm (by omega)
  replace HZ3 : Hid (Row w9 (w.heap.size + 1) 5 (fun i => if i = 0 then .int .i64 0 else if i = 1 then .int .i64 0 else if i = 2 then .slice none 0 0 else if i = 3 then .slice none 0 0 else .bool false)) := HZ3.out.mod hm (by omega)
  replace HBW : Hid (Blw w w9) := Mod.blw HBW.out hm (fun i e => by omega)
  have HCW : Hid (Cur (fun b => b < w.heap.size) w9 (w.heap.size + 1 + 1) 200) := hc.le (by omega)
  replace HZB : Hid (w.heap.size + 1 + 1 < zb ∧ zb < w9.heap.size) := ⟨hz9.1, by omega⟩
  clear hc hm hq9 hz9 HC
  cases r
  · go_upto_region 5 with fail
    replace HR5 : Hid (Row w9.drew zb 5 (gb u D)) := HR5.out.blw (Blw.refl _).drew
    replace HG5 : Hid (GAt (fun x => x < w9.drew.heap.size) w9.drew u D) := HG5.out.blw (Blw.refl _).drew
    replace HG9 : Hid (GAt (fun x => x < w9.drew.heap.size ∧ w.heap.size + 1 + 1 < x) w9.drew u D) := HG9.out.blw (Blw.refl _).drew
    replace HZ2 : Hid (Row w9.drew w.heap.size 5 (fun i => if i = 0 then .int .i64 0 else if i = 1 then .int .i64 0 else if i = 2 then .slice none 0 0 else if i = 3 then .slice none 0 0 else .bool false)) := HZ2.out.blw (Blw.refl _).drew
    replace HZ3 : Hid (Row w9.drew (w.heap.size + 1) 5 (fun i => if i = 0 then .int .i64 0 else if i = 1 then .int .i64 0 else if i = 2 then .slice none 0 0 else if i = 3 then .slice none 0 0 else .bool false)) := HZ3.out.blw (Blw.refl _).drew
    replace HBW : Hid (Blw w w9.drew) := HBW.out.drew
    replace HZB : Hid (w.heap.size + 1 + 1 < zb ∧ zb < w9.drew.heap.size) := HZB.out
    have HZB9 : Hid (w.heap.size + 1 + 1 < w9.drew.heap.size) := by have := HZB.out; show _ < _; omega
    replace HCW : Hid (Cur (fun b => b < w.heap.size) w9.drew (w.heap.size + 1 + 1) 200) := HCW.out.blw (Blw.refl _).drew
    refine wp_region_noPanic ?_
    refine wp_region_held_drew (S := (fun w' => w'.cell? ⟨zb, 0, none⟩ = some (.int .i64 D.at_) ∧ w'.cell? ⟨zb, 1, none⟩ = some (.int .i64 D.acc) ∧ w'.cell? ⟨zb, 2, none⟩ = some (.slice u.a1 D.nc u.c1) ∧ w'.cell? ⟨zb, 3, none⟩ = some (.slice u.a2 D.nt u.c2) ∧ w'.cell? ⟨zb, 4, none⟩ = some (.bool D.d))) (by kernel_rfl) (get5 HR5.out) (fun hB => ?_)
    clear hB
    generalize w9.drew = wd at *
    refine wpAnyH_take (i := 0) (oi := { dst := some 16, op := Op.load 61 (Operand.tmp 5), type := 61, pos := _, after := #[], guard := none }) (v := (GV.val u D)) rfl (by kernel_rfl) (by kernel_rfl) (by kernel_rfl) (fun _ _ _ h => h) (Or.inl ⟨by rfl, fun w' hS => by (try dsimp only at hS); go_simp⟩) (get5 HR5.out) ?_
    simp only [Act.put, List.setIfInBounds_toArray, List.set_cons_zero, List.set_cons_succ]
    refine wpAnyH_take (i := 1) (oi := { dst := some 17, op := Op.move (Operand.tmp 4), type := 105, pos := _, after := #[], guard := none }) (v := (.pointer (some ⟨w.heap.size + 1 + 1, 0, none⟩))) rfl (by kernel_rfl) (by kernel_rfl) (by kernel_rfl) (fun _ _ _ h => h) (Or.inl ⟨by rfl, fun w' hS => by (try dsimp only at hS); go_simp⟩) (get5 HR5.out) ?_
    simp only [Act.put, List.setIfInBounds_toArray, List.set_cons_zero, List.set_cons_succ]
    refine wpAnyH_ready (rs := [2]) (by kernel_rfl) (by simp) ?_
    refine AllReadyH.cons (o := { dst := some 18, op := Op.call { callee := Callee.value (Operand.func 112), args := #[Operand.tmp 17], argTypes := #[105] }, type := 61, pos := _, after := #[{ on := 1, ground := Ground.data }], guard := none }) rfl (fun K hK => ?_) AllReadyH.nil
    go_simp
    refine (guest_any (fun b => b < w.heap.size) (w.heap.size + 1 + 1) 200 wd (by omega) (fun b hb => ⟨by have := HZB.out; omega, by omega⟩) HCW.out).mono ?_
    rintro e x1 ⟨v2, E2, rfl, hs2, own2, hc2, hm2⟩
    have hz9 := HZB.out
    have hq9 := hm2.size
    replace HR5 : Hid (Row x1 zb 5 (gb u D)) := HR5.out.mod hm2 (by omega)
    replace HG5 : Hid (GAt (fun x => x < x1.heap.size) x1 u D) := (HG9.out.mod hm2 (fun b hb e => by have := hb.2; omega)).mono (fun x hx => Nat.lt_of_lt_of_le hx.1 hq9)
    replace HZ2 : Hid (Row x1 w.heap.size 5 (fun i => if i = 0 then .int .i64 0 else if i = 1 then .int .i64 0 else if i = 2 then .slice none 0 0 else if i = 3 then .slice none 0 0 else .bool false)) := HZ2.out.mod hm2 (by omega)
    replace HZ3 : Hid (Row x1 (w.heap.size + 1) 5 (fun i => if i = 0 then .int .i64 0 else if i = 1 then .int .i64 0 else if i = 2 then .slice none 0 0 else if i = 3 then .slice none 0 0 else .bool false)) := HZ3.out.mod hm2 (by omega)
    replace HBW : Hid (Blw w x1) := Mod.blw HBW.out hm2 (fun i e => by omega)
    replace HZB : Hid (w.heap.size + 1 + 1 < zb ∧ zb < x1.heap.size) := ⟨hz9.1, by omega⟩
    have HV2 : Hid (GAt (fun x => x < x1.heap.size) x1 v2 E2) := own2.at.mono (fun x hx => hx.2)
    have HSM2 : Hid E2.small := hs2
    have HL5 : Hid (GAt (fun x => (w.heap.size + 1 + 1 < x ∨ x < w.heap.size) ∧ x < x1.heap.size) x1 u D) := (HG9.out.mod hm2 (fun b hb e => by have := hb.2; omega)).mono (fun x hx => ⟨Or.inl hx.2, Nat.lt_of_lt_of_le hx.1 hq9⟩)
    have HL2 : Hid (GAt (fun x => (w.heap.size + 1 + 1 < x ∨ x < w.heap.size) ∧ x < x1.heap.size) x1 v2 E2) := own2.at.mono (fun x hx => ⟨Or.inl (by have := HZB9.out; omega), hx.2⟩)
    clear hs2 own2 hc2 hm2 hz9 hq9 HG9 HG5 HV2
    refine hK.out _ _ (get5 HR5.out) (fun hB => ?_)
    clear hK K hB
    try simp only [Act.put, List.setIfInBounds_toArray, List.set_cons_zero, List.set_cons_succ]
    refine wpAnyH_ready (rs := [3]) (by kernel_rfl) (by simp) ?_
    refine AllReadyH.cons (o := { dst := none, op := Op.store 61 (Operand.tmp 2) (Operand.tmp 16), type := 0, pos := _, after := #[{ on := 0, ground := Ground.data }, { on := 2, ground := Ground.chain }, { on := 0, ground := Ground.phase }, { on := 1, ground := Ground.textOnly Departure.lateStores }, { on := 2, ground := Ground.textOnly Departure.lateStoresUnsure }], guard := none }) rfl (fun K hK => ?_) AllReadyH.nil
    obtain ⟨t0, t1, t2, t3, t4⟩ := get5 HZ2.out
    have f0 := HZ2.out.frozen 0
    have f1 := HZ2.out.frozen 1
    have f2 := HZ2.out.frozen 2
    have f3 := HZ2.out.frozen 3
    have f4 := HZ2.out.frozen 4
    have m1 := set5_modG x1 w.heap.size (.int .i64 D.at_) (.int .i64 D.acc) (.slice u.a1 D.nc u.c1) (.slice u.a2 D.nt u.c2) (.bool D.d) (X := fun x => x = w.heap.size) rfl
    have m2 := m1.size
    have hz9 := HZB.out
    have hn9 : Row (((((x1.setCell ⟨w.heap.size, 0, none⟩ (.int .i64 D.at_)).setCell ⟨w.heap.size, 1, none⟩ (.int .i64 D.acc)).setCell ⟨w.heap.size, 2, none⟩ (.slice u.a1 D.nc u.c1)).setCell ⟨w.heap.size, 3, none⟩ (.slice u.a2 D.nt u.c2)).setCell ⟨w.heap.size, 4, none⟩ (.bool D.d)) w.heap.size 5 (gb u D) := set5_all HZ2.out _ _ _ _ _
    replace HR5 : Hid (Row (((((x1.setCell ⟨w.heap.size, 0, none⟩ (.int .i64 D.at_)).setCell ⟨w.heap.size, 1, none⟩ (.int .i64 D.acc)).setCell ⟨w.heap.size, 2, none⟩ (.slice u.a1 D.nc u.c1)).setCell ⟨w.heap.size, 3, none⟩ (.slice u.a2 D.nt u.c2)).setCell ⟨w.heap.size, 4, none⟩ (.bool D.d)) zb 5 (gb u D)) := HR5.out.mod m1 (by omega)
    replace HBW : Hid (Blw w (((((x1.setCell ⟨w.heap.size, 0, none⟩ (.int .i64 D.at_)).setCell ⟨w.heap.size, 1, none⟩ (.int .i64 D.acc)).setCell ⟨w.heap.size, 2, none⟩ (.slice u.a1 D.nc u.c1)).setCell ⟨w.heap.size, 3, none⟩ (.slice u.a2 D.nt u.c2)).setCell ⟨w.heap.size, 4, none⟩ (.bool D.d))) := Mod.blw HBW.out m1 (fun i e => by omega)
    replace HZ3 : Hid (Row (((((x1.setCell ⟨w.heap.size, 0, none⟩ (.int .i64 D.at_)).setCell ⟨w.heap.size, 1, none⟩ (.int .i64 D.acc)).setCell ⟨w.heap.size, 2, none⟩ (.slice u.a1 D.nc u.c1)).setCell ⟨w.heap.size, 3, none⟩ (.slice u.a2 D.nt u.c2)).setCell ⟨w.heap.size, 4, none⟩ (.bool D.d)) (w.heap.size + 1) 5 (fun i => if i = 0 then .int .i64 0 else if i = 1 then .int .i64 0 else if i = 2 then .slice none 0 0 else if i = 3 then .slice none 0 0 else .bool false)) := HZ3.out.mod m1 (by omega)
    replace HZB : Hid (w.heap.size + 1 + 1 < zb ∧ zb < (((((x1.setCell ⟨w.heap.size, 0, none⟩ (.int .i64 D.at_)).setCell ⟨w.heap.size, 1, none⟩ (.int .i64 D.acc)).setCell ⟨w.heap.size, 2, none⟩ (.slice u.a1 D.nc u.c1)).setCell ⟨w.heap.size, 3, none⟩ (.slice u.a2 D.nt u.c2)).setCell ⟨w.heap.size, 4, none⟩ (.bool D.d)).heap.size) := ⟨hz9.1, Nat.lt_of_lt_of_le hz9.2 m2⟩
    replace HL5 : Hid (GAt (fun x => (w.heap.size + 1 + 1 < x ∨ x < w.heap.size) ∧ x < (((((x1.setCell ⟨w.heap.size, 0, none⟩ (.int .i64 D.at_)).setCell ⟨w.heap.size, 1, none⟩ (.int .i64 D.acc)).setCell ⟨w.heap.size, 2, none⟩ (.slice u.a1 D.nc u.c1)).setCell ⟨w.heap.size, 3, none⟩ (.slice u.a2 D.nt u.c2)).setCell ⟨w.heap.size, 4, none⟩ (.bool D.d)).heap.size) (((((x1.setCell ⟨w.heap.size, 0, none⟩ (.int .i64 D.at_)).setCell ⟨w.heap.size, 1, none⟩ (.int .i64 D.acc)).setCell ⟨w.heap.size, 2, none⟩ (.slice u.a1 D.nc u.c1)).setCell ⟨w.heap.size, 3, none⟩ (.slice u.a2 D.nt u.c2)).setCell ⟨w.heap.size, 4, none⟩ (.bool D.d)) u D) := (HL5.out.mod m1 (fun b hb e => by omega)).mono (fun x hx => ⟨hx.1, Nat.lt_of_lt_of_le hx.2 m2⟩)
    replace HL2 : Hid (GAt (fun x => (w.heap.size + 1 + 1 < x ∨ x < w.heap.size) ∧ x < (((((x1.setCell ⟨w.heap.size, 0, none⟩ (.int .i64 D.at_)).setCell ⟨w.heap.size, 1, none⟩ (.int .i64 D.acc)).setCell ⟨w.heap.size, 2, none⟩ (.slice u.a1 D.nc u.c1)).setCell ⟨w.heap.size, 3, none⟩ (.slice u.a2 D.nt u.c2)).setCell ⟨w.heap.size, 4, none⟩ (.bool D.d)).heap.size) (((((x1.setCell ⟨w.heap.size, 0, none⟩ (.int .i64 D.at_)).setCell ⟨w.heap.size, 1, none⟩ (.int .i64 D.acc)).setCell ⟨w.heap.size, 2, none⟩ (.slice u.a1 D.nc u.c1)).setCell ⟨w.heap.size, 3, none⟩ (.slice u.a2 D.nt u.c2)).setCell ⟨w.heap.size, 4, none⟩ (.bool D.d)) v2 E2) := (HL2.out.mod m1 (fun b hb e => by omega)).mono (fun x hx => ⟨hx.1, Nat.lt_of_lt_of_le hx.2 m2⟩)
    clear HZ2
    have HZ2 : Hid (Row (((((x1.setCell ⟨w.heap.size, 0, none⟩ (.int .i64 D.at_)).setCell ⟨w.heap.size, 1, none⟩ (.int .i64 D.acc)).setCell ⟨w.heap.size, 2, none⟩ (.slice u.a1 D.nc u.c1)).setCell ⟨w.heap.size, 3, none⟩ (.slice u.a2 D.nt u.c2)).setCell ⟨w.heap.size, 4, none⟩ (.bool D.d)) w.heap.size 5 (gb u D)) := hn9
    clear m1 m2 hz9 hn9
    go_simp
    generalize ((((x1.setCell ⟨w.heap.size, 0, none⟩ (.int .i64 D.at_)).setCell ⟨w.heap.size, 1, none⟩ (.int .i64 D.acc)).setCell ⟨w.heap.size, 2, none⟩ (.slice u.a1 D.nc u.c1)).setCell ⟨w.heap.size, 3, none⟩ (.slice u.a2 D.nt u.c2)).setCell ⟨w.heap.size, 4, none⟩ (.bool D.d) = x2 at *
    clear t0 t1 t2 t3 t4 f0 f1 f2 f3 f4
    refine hK.out _ _ (get5 HR5.out) (fun hB => ?_)
    clear hK K hB
    try simp only [Act.put, List.setIfInBounds_toArray, List.set_cons_zero, List.set_cons_succ]
    refine wpAnyH_ready (rs := [4]) (by kernel_rfl) (by simp) ?_
    refine AllReadyH.cons (o := { dst := none, op := Op.store 61 (Operand.tmp 3) (Operand.tmp 18), type := 0, pos := _, after := #[{ on := 2, ground := Ground.data }, { on := 3, ground := Ground.chain }, { on := 0, ground := Ground.phase }, { on := 1, ground := Ground.phase }, { on := 2, ground := Ground.phase }, { on := 3, ground := Ground.phase }], guard := none }) rfl (fun K hK => ?_) AllReadyH.nil
    obtain ⟨t0, t1, t2, t3, t4⟩ := get5 HZ3.out
    have f0 := HZ3.out.frozen 0
    have f1 := HZ3.out.frozen 1
    have f2 := HZ3.out.frozen 2
    have f3 := HZ3.out.frozen 3
    have f4 := HZ3.out.frozen 4
    have m1 := set5_modG x2 (w.heap.size + 1) (.int .i64 E2.at_) (.int .i64 E2.acc) (.slice v2.a1 E2.nc v2.c1) (.slice v2.a2 E2.nt v2.c2) (.bool E2.d) (X := fun x => x = (w.heap.size + 1)) rfl
    have m2 := m1.size
    have hz9 := HZB.out
    have hn9 : Row (((((x2.setCell ⟨(w.heap.size + 1), 0, none⟩ (.int .i64 E2.at_)).setCell ⟨(w.heap.size + 1), 1, none⟩ (.int .i64 E2.acc)).setCell ⟨(w.heap.size + 1), 2, none⟩ (.slice v2.a1 E2.nc v2.c1)).setCell ⟨(w.heap.size + 1), 3, none⟩ (.slice v2.a2 E2.nt v2.c2)).setCell ⟨(w.heap.size + 1), 4, none⟩ (.bool E2.d)) (w.heap.size + 1) 5 (gb v2 E2) := set5_all HZ3.out _ _ _ _ _
    replace HR5 : Hid (Row (((((x2.setCell ⟨(w.heap.size + 1), 0, none⟩ (.int .i64 E2.at_)).setCell ⟨(w.heap.size + 1), 1, none⟩ (.int .i64 E2.acc)).setCell ⟨(w.heap.size + 1), 2, none⟩ (.slice v2.a1 E2.nc v2.c1)).setCell ⟨(w.heap.size + 1), 3, none⟩ (.slice v2.a2 E2.nt v2.c2)).setCell ⟨(w.heap.size + 1), 4, none⟩ (.bool E2.d)) zb 5 (gb u D)) := HR5.out.mod m1 (by omega)
    replace HBW : Hid (Blw w (((((x2.setCell ⟨(w.heap.size + 1), 0, none⟩ (.int .i64 E2.at_)).setCell ⟨(w.heap.size + 1), 1, none⟩ (.int .i64 E2.acc)).setCell ⟨(w.heap.size + 1), 2, none⟩ (.slice v2.a1 E2.nc v2.c1)).setCell ⟨(w.heap.size + 1), 3, none⟩ (.slice v2.a2 E2.nt v2.c2)).setCell ⟨(w.heap.size + 1), 4, none⟩ (.bool E2.d))) := Mod.blw HBW.out m1 (fun i e => by omega)
    replace HZ2 : Hid (Row (((((x2.setCell ⟨(w.heap.size + 1), 0, none⟩ (.int .i64 E2.at_)).setCell ⟨(w.heap.size + 1), 1, none⟩ (.int .i64 E2.acc)).setCell ⟨(w.heap.size + 1), 2, none⟩ (.slice v2.a1 E2.nc v2.c1)).setCell ⟨(w.heap.size + 1), 3, none⟩ (.slice v2.a2 E2.nt v2.c2)).setCell ⟨(w.heap.size + 1), 4, none⟩ (.bool E2.d)) w.heap.size 5 (gb u D)) := HZ2.out.mod m1 (by omega)
    replace HZB : Hid (w.heap.size + 1 + 1 < zb ∧ zb < (((((x2.setCell ⟨(w.heap.size + 1), 0, none⟩ (.int .i64 E2.at_)).setCell ⟨(w.heap.size + 1), 1, none⟩ (.int .i64 E2.acc)).setCell ⟨(w.heap.size + 1), 2, none⟩ (.slice v2.a1 E2.nc v2.c1)).setCell ⟨(w.heap.size + 1), 3, none⟩ (.slice v2.a2 E2.nt v2.c2)).setCell ⟨(w.heap.size + 1), 4, none⟩ (.bool E2.d)).heap.size) := ⟨hz9.1, Nat.lt_of_lt_of_le hz9.2 m2⟩
    replace HL5 : Hid (GAt (fun x => (w.heap.size + 1 + 1 < x ∨ x < w.heap.size) ∧ x < (((((x2.setCell ⟨(w.heap.size + 1), 0, none⟩ (.int .i64 E2.at_)).setCell ⟨(w.heap.size + 1), 1, none⟩ (.int .i64 E2.acc)).setCell ⟨(w.heap.size + 1), 2, none⟩ (.slice v2.a1 E2.nc v2.c1)).setCell ⟨(w.heap.size + 1), 3, none⟩ (.slice v2.a2 E2.nt v2.c2)).setCell ⟨(w.heap.size + 1), 4, none⟩ (.bool E2.d)).heap.size) (((((x2.setCell ⟨(w.heap.size + 1), 0, none⟩ (.int .i64 E2.at_)).setCell ⟨(w.heap.size + 1), 1, none⟩ (.int .i64 E2.acc)).setCell ⟨(w.heap.size + 1), 2, none⟩ (.slice v2.a1 E2.nc v2.c1)).setCell ⟨(w.heap.size + 1), 3, none⟩ (.slice v2.a2 E2.nt v2.c2)).setCell ⟨(w.heap.size + 1), 4, none⟩ (.bool E2.d)) u D) := (HL5.out.mod m1 (fun b hb e => by omega)).mono (fun x hx => ⟨hx.1, Nat.lt_of_lt_of_le hx.2 m2⟩)
    replace HL2 : Hid (GAt (fun x => (w.heap.size + 1 + 1 < x ∨ x < w.heap.size) ∧ x < (((((x2.setCell ⟨(w.heap.size + 1), 0, none⟩ (.int .i64 E2.at_)).setCell ⟨(w.heap.size + 1), 1, none⟩ (.int .i64 E2.acc)).setCell ⟨(w.heap.size + 1), 2, none⟩ (.slice v2.a1 E2.nc v2.c1)).setCell ⟨(w.heap.size + 1), 3, none⟩ (.slice v2.a2 E2.nt v2.c2)).setCell ⟨(w.heap.size + 1), 4, none⟩ (.bool E2.d)).heap.size) (((((x2.setCell ⟨(w.heap.size + 1), 0, none⟩ (.int .i64 E2.at_)).setCell ⟨(w.heap.size + 1), 1, none⟩ (.int .i64 E2.acc)).setCell ⟨(w.heap.size + 1), 2, none⟩ (.slice v2.a1 E2.nc v2.c1)).setCell ⟨(w.heap.size + 1), 3, none⟩ (.slice v2.a2 E2.nt v2.c2)).setCell ⟨(w.heap.size + 1), 4, none⟩ (.bool E2.d)) v2 E2) := (HL2.out.mod m1 (fun b hb e => by omega)).mono (fun x hx => ⟨hx.1, Nat.lt_of_lt_of_le hx.2 m2⟩)
    clear HZ3
    have HZ3 : Hid (Row (((((x2.setCell ⟨(w.heap.size + 1), 0, none⟩ (.int .i64 E2.at_)).setCell ⟨(w.heap.size + 1), 1, none⟩ (.int .i64 E2.acc)).setCell ⟨(w.heap.size + 1), 2, none⟩ (.slice v2.a1 E2.nc v2.c1)).setCell ⟨(w.heap.size + 1), 3, none⟩ (.slice v2.a2 E2.nt v2.c2)).setCell ⟨(w.heap.size + 1), 4, none⟩ (.bool E2.d)) (w.heap.size + 1) 5 (gb v2 E2)) := hn9
    clear m1 m2 hz9 hn9
    go_simp
    generalize ((((x2.setCell ⟨(w.heap.size + 1), 0, none⟩ (.int .i64 E2.at_)).setCell ⟨(w.heap.size + 1), 1, none⟩ (.int .i64 E2.acc)).setCell ⟨(w.heap.size + 1), 2, none⟩ (.slice v2.a1 E2.nc v2.c1)).setCell ⟨(w.heap.size + 1), 3, none⟩ (.slice v2.a2 E2.nt v2.c2)).setCell ⟨(w.heap.size + 1), 4, none⟩ (.bool E2.d) = x3 at *
    clear t0 t1 t2 t3 t4 f0 f1 f2 f3 f4
    refine hK.out _ _ (get5 HR5.out) (fun hB => ?_)
    clear hK K hB
    try simp only [Act.put, List.setIfInBounds_toArray, List.set_cons_zero, List.set_cons_succ]
    refine wpAnyH_done (by kernel_rfl) ?_ _
    refine NoPanic.normal ?_
    obtain ⟨t0, t1, t2, t3, t4⟩ := get5 HZ2.out
    obtain ⟨r0, r1, r2, r3, r4⟩ := get5 HZ3.out
    go_wp2
    refine bodyPost_ret (v := .tuple #[GV.val u D, GV.val v2 E2]) (by simp [results, Try.results46, go_sem, t0, t1, t2, t3, t4, r0, r1, r2, r3, r4]) rfl ⟨u, D, v2, E2, rfl, HSM.out, HSM2.out, HL5.out.mono (fun x hx => hx.2), HL2.out.mono (fun x hx => hx.2), HBW.out⟩
  · go_upto_region 4 with fail
    replace HR5 : Hid (Row w9.drew zb 5 (gb u D)) := HR5.out.blw (Blw.refl _).drew
    replace HG5 : Hid (GAt (fun x => x < w9.drew.heap.size) w9.drew u D) := HG5.out.blw (Blw.refl _).drew
    replace HG9 : Hid (GAt (fun x => x < w9.drew.heap.size ∧ w.heap.size + 1 + 1 < x) w9.drew u D) := HG9.out.blw (Blw.refl _).drew
    replace HZ2 : Hid (Row w9.drew w.heap.size 5 (fun i => if i = 0 then .int .i64 0 else if i = 1 then .int .i64 0 else if i = 2 then .slice none 0 0 else if i = 3 then .slice none 0 0 else .bool false)) := HZ2.out.blw (Blw.refl _).drew
    replace HZ3 : Hid (Row w9.drew (w.heap.size + 1) 5 (fun i => if i = 0 then .int .i64 0 else if i = 1 then .int .i64 0 else if i = 2 then .slice none 0 0 else if i = 3 then .slice none 0 0 else .bool false)) := HZ3.out.blw (Blw.refl _).drew
    replace HBW : Hid (Blw w w9.drew) := HBW.out.drew
    replace HZB : Hid (w.heap.size + 1 + 1 < zb ∧ zb < w9.drew.heap.size) := HZB.out
    have HZB9 : Hid (w.heap.size + 1 + 1 < w9.drew.heap.size) := by have := HZB.out; show _ < _; omega
    replace HCW : Hid (Cur (fun b => b < w.heap.size) w9.drew (w.heap.size + 1 + 1) 200) := HCW.out.blw (Blw.refl _).drew
    refine wp_region_noPanic ?_
    refine wp_region_held_drew (S := (fun w' => w'.cell? ⟨zb, 0, none⟩ = some (.int .i64 D.at_) ∧ w'.cell? ⟨zb, 1, none⟩ = some (.int .i64 D.acc) ∧ w'.cell? ⟨zb, 2, none⟩ = some (.slice u.a1 D.nc u.c1) ∧ w'.cell? ⟨zb, 3, none⟩ = some (.slice u.a2 D.nt u.c2) ∧ w'.cell? ⟨zb, 4, none⟩ = some (.bool D.d))) (by kernel_rfl) (get5 HR5.out) (fun hB => ?_)
    clear hB
    generalize w9.drew = wd at *
    refine wpAnyH_take (i := 0) (oi := { dst := some 13, op := Op.load 61 (Operand.tmp 5), type := 61, pos := _, after := #[], guard := none }) (v := (GV.val u D)) rfl (by kernel_rfl) (by kernel_rfl) (by kernel_rfl) (fun _ _ _ h => h) (Or.inl ⟨by rfl, fun w' hS => by (try dsimp only at hS); go_simp⟩) (get5 HR5.out) ?_
    simp only [Act.put, List.setIfInBounds_toArray, List.set_cons_zero, List.set_cons_succ]
    refine wpAnyH_take (i := 1) (oi := { dst := some 14, op := Op.load 61 (Operand.tmp 5), type := 61, pos := _, after := #[], guard := none }) (v := (GV.val u D)) rfl (by kernel_rfl) (by kernel_rfl) (by kernel_rfl) (fun _ _ _ h => h) (Or.inl ⟨by rfl, fun w' hS => by (try dsimp only at hS); go_simp⟩) (get5 HR5.out) ?_
    simp only [Act.put, List.setIfInBounds_toArray, List.set_cons_zero, List.set_cons_succ]
    refine wpAnyH_ready (rs := [2]) (by kernel_rfl) (by simp) ?_
    refine AllReadyH.cons (o := { dst := some 15, op := Op.call { callee := Callee.value (Operand.func 122), args := #[Operand.tmp 14], argTypes := #[61] }, type := 61, pos := _, after := #[{ on := 1, ground := Ground.data }], guard := none }) rfl (fun K hK => ?_) AllReadyH.nil
    go_simp
    refine (l9Own_any u D _ _ (by have := HSM.out; unfold GD.small at this; omega) (by have := HSM.out; unfold GD.small at this; omega) HG5.out).mono ?_
    rintro e x1 ⟨v2, rfl, hmg, hb⟩
    replace HR5 : Hid (Row x1 zb 5 (gb u D)) := HR5.out.blw hb
    replace HG5 : Hid (GAt (fun x => x < x1.heap.size) x1 u D) := (HG5.out.blw hb).mono (fun x hx => Nat.lt_of_lt_of_le hx hb.size)
    replace HZ2 : Hid (Row x1 w.heap.size 5 (fun i => if i = 0 then .int .i64 0 else if i = 1 then .int .i64 0 else if i = 2 then .slice none 0 0 else if i = 3 then .slice none 0 0 else .bool false)) := HZ2.out.blw hb
    replace HZ3 : Hid (Row x1 (w.heap.size + 1) 5 (fun i => if i = 0 then .int .i64 0 else if i = 1 then .int .i64 0 else if i = 2 then .slice none 0 0 else if i = 3 then .slice none 0 0 else .bool false)) := HZ3.out.blw hb
    replace HBW : Hid (Blw w x1) := HBW.out.trans hb
    replace HZB : Hid (w.heap.size + 1 + 1 < zb ∧ zb < x1.heap.size) := ⟨HZB.out.1, Nat.lt_of_lt_of_le HZB.out.2 hb.size⟩
    have HV2 : Hid (GAt (fun x => x < x1.heap.size) x1 v2 D) := (mg_at hmg (by have := HSM.out; unfold GD.small at this; omega)).mono (fun x hx => hx.2)
    have HSM2 : Hid D.small := HSM.out
    have HL5 : Hid (GAt (fun x => (w.heap.size + 1 + 1 < x ∨ x < w.heap.size) ∧ x < x1.heap.size) x1 u D) := (HG9.out.blw hb).mono (fun x hx => ⟨Or.inl hx.2, Nat.lt_of_lt_of_le hx.1 hb.size⟩)
    have HL2 : Hid (GAt (fun x => (w.heap.size + 1 + 1 < x ∨ x < w.heap.size) ∧ x < x1.heap.size) x1 v2 D) := (mg_at hmg (by have := HSM.out; unfold GD.small at this; omega)).mono (fun x hx => ⟨Or.inl (by have := HZB9.out; omega), hx.2⟩)
    clear hmg hb HG9 HG5 HV2
    refine hK.out _ _ (get5 HR5.out) (fun hB => ?_)
    clear hK K hB
    try simp only [Act.put, List.setIfInBounds_toArray, List.set_cons_zero, List.set_cons_succ]
    refine wpAnyH_ready (rs := [3]) (by kernel_rfl) (by simp) ?_
    refine AllReadyH.cons (o := { dst := none, op := Op.store 61 (Operand.tmp 2) (Operand.tmp 13), type := 0, pos := _, after := #[{ on := 0, ground := Ground.data }, { on := 2, ground := Ground.chain }, { on := 0, ground := Ground.phase }, { on := 1, ground := Ground.textOnly Departure.lateStores }, { on := 2, ground := Ground.textOnly Departure.lateStoresUnsure }], guard := none }) rfl (fun K hK => ?_) AllReadyH.nil
    obtain ⟨t0, t1, t2, t3, t4⟩ := get5 HZ2.out
    have f0 := HZ2.out.frozen 0
    have f1 := HZ2.out.frozen 1
    have f2 := HZ2.out.frozen 2
    have f3 := HZ2.out.frozen 3
    have f4 := HZ2.out.frozen 4
    have m1 := set5_modG x1 w.heap.size (.int .i64 D.at_) (.int .i64 D.acc) (.slice u.a1 D.nc u.c1) (.slice u.a2 D.nt u.c2) (.bool D.d) (X := fun x => x = w.heap.size) rfl
    have m2 := m1.size
    have hz9 := HZB.out
    have hn9 : Row (((((x1.setCell ⟨w.heap.size, 0, none⟩ (.int .i64 D.at_)).setCell ⟨w.heap.size, 1, none⟩ (.int .i64 D.acc)).setCell ⟨w.heap.size, 2, none⟩ (.slice u.a1 D.nc u.c1)).setCell ⟨w.heap.size, 3, none⟩ (.slice u.a2 D.nt u.c2)).setCell ⟨w.heap.size, 4, none⟩ (.bool D.d)) w.heap.size 5 (gb u D) := set5_all HZ2.out _ _ _ _ _
    replace HR5 : Hid (Row (((((x1.setCell ⟨w.heap.size, 0, none⟩ (.int .i64 D.at_)).setCell ⟨w.heap.size, 1, none⟩ (.int .i64 D.acc)).setCell ⟨w.heap.size, 2, none⟩ (.slice u.a1 D.nc u.c1)).setCell ⟨w.heap.size, 3, none⟩ (.slice u.a2 D.nt u.c2)).setCell ⟨w.heap.size, 4, none⟩ (.bool D.d)) zb 5 (gb u D)) := HR5.out.mod m1 (by omega)
    replace HBW : Hid (Blw w (((((x1.setCell ⟨w.heap.size, 0, none⟩ (.int .i64 D.at_)).setCell ⟨w.heap.size, 1, none⟩ (.int .i64 D.acc)).setCell ⟨w.heap.size, 2, none⟩ (.slice u.a1 D.nc u.c1)).setCell ⟨w.heap.size, 3, none⟩ (.slice u.a2 D.nt u.c2)).setCell ⟨w.heap.size, 4, none⟩ (.bool D.d))) := Mod.blw HBW.out m1 (fun i e => by omega)
    replace HZ3 : Hid (Row (((((x1.setCell ⟨w.heap.size, 0, none⟩ (.int .i64 D.at_)).setCell ⟨w.heap.size, 1, none⟩ (.int .i64 D.acc)).setCell ⟨w.heap.size, 2, none⟩ (.slice u.a1 D.nc u.c1)).setCell ⟨w.heap.size, 3, none⟩ (.slice u.a2 D.nt u.c2)).setCell ⟨w.heap.size, 4, none⟩ (.bool D.d)) (w.heap.size + 1) 5 (fun i => if i = 0 then .int .i64 0 else if i = 1 then .int .i64 0 else if i = 2 then .slice none 0 0 else if i = 3 then .slice none 0 0 else .bool false)) := HZ3.out.mod m1 (by omega)
    replace HZB : Hid (w.heap.size + 1 + 1 < zb ∧ zb < (((((x1.setCell ⟨w.heap.size, 0, none⟩ (.int .i64 D.at_)).setCell ⟨w.heap.size, 1, none⟩ (.int .i64 D.acc)).setCell ⟨w.heap.size, 2, none⟩ (.slice u.a1 D.nc u.c1)).setCell ⟨w.heap.size, 3, none⟩ (.slice u.a2 D.nt u.c2)).setCell ⟨w.heap.size, 4, none⟩ (.bool D.d)).heap.size) := ⟨hz9.1, Nat.lt_of_lt_of_le hz9.2 m2⟩
    replace HL5 : Hid (GAt (fun x => (w.heap.size + 1 + 1 < x ∨ x < w.heap.size) ∧ x < (((((x1.setCell ⟨w.heap.size, 0, none⟩ (.int .i64 D.at_)).setCell ⟨w.heap.size, 1, none⟩ (.int .i64 D.acc)).setCell ⟨w.heap.size, 2, none⟩ (.slice u.a1 D.nc u.c1)).setCell ⟨w.heap.size, 3, none⟩ (.slice u.a2 D.nt u.c2)).setCell ⟨w.heap.size, 4, none⟩ (.bool D.d)).heap.size) (((((x1.setCell ⟨w.heap.size, 0, none⟩ (.int .i64 D.at_)).setCell ⟨w.heap.size, 1, none⟩ (.int .i64 D.acc)).setCell ⟨w.heap.size, 2, none⟩ (.slice u.a1 D.nc u.c1)).setCell ⟨w.heap.size, 3, none⟩ (.slice u.a2 D.nt u.c2)).setCell ⟨w.heap.size, 4, none⟩ (.bool D.d)) u D) := (HL5.out.mod m1 (fun b hb e => by omega)).mono (fun x hx => ⟨hx.1, Nat.lt_of_lt_of_le hx.2 m2⟩)
    replace HL2 : Hid (GAt (fun x => (w.heap.size + 1 + 1 < x ∨ x < w.heap.size) ∧ x < (((((x1.setCell ⟨w.heap.size, 0, none⟩ (.int .i64 D.at_)).setCell ⟨w.heap.size, 1, none⟩ (.int .i64 D.acc)).setCell ⟨w.heap.size, 2, none⟩ (.slice u.a1 D.nc u.c1)).setCell ⟨w.heap.size, 3, none⟩ (.slice u.a2 D.nt u.c2)).setCell ⟨w.heap.size, 4, none⟩ (.bool D.d)).heap.size) (((((x1.setCell ⟨w.heap.size, 0, none⟩ (.int .i64 D.at_)).setCell ⟨w.heap.size, 1, none⟩ (.int .i64 D.acc)).setCell ⟨w.heap.size, 2, none⟩ (.slice u.a1 D.nc u.c1)).setCell ⟨w.heap.size, 3, none⟩ (.slice u.a2 D.nt u.c2)).setCell ⟨w.heap.size, 4, none⟩ (.bool D.d)) v2 D) := (HL2.out.mod m1 (fun b hb e => by omega)).mono (fun x hx => ⟨hx.1, Nat.lt_of_lt_of_le hx.2 m2⟩)
    clear HZ2
    have HZ2 : Hid (Row (((((x1.setCell ⟨w.heap.size, 0, none⟩ (.int .i64 D.at_)).setCell ⟨w.heap.size, 1, none⟩ (.int .i64 D.acc)).setCell ⟨w.heap.size, 2, none⟩ (.slice u.a1 D.nc u.c1)).setCell ⟨w.heap.size, 3, none⟩ (.slice u.a2 D.nt u.c2)).setCell ⟨w.heap.size, 4, none⟩ (.bool D.d)) w.heap.size 5 (gb u D)) := hn9
    clear m1 m2 hz9 hn9
    go_simp
    generalize ((((x1.setCell ⟨w.heap.size, 0, none⟩ (.int .i64 D.at_)).setCell ⟨w.heap.size, 1, none⟩ (.int .i64 D.acc)).setCell ⟨w.heap.size, 2, none⟩ (.slice u.a1 D.nc u.c1)).setCell ⟨w.heap.size, 3, none⟩ (.slice u.a2 D.nt u.c2)).setCell ⟨w.heap.size, 4, none⟩ (.bool D.d) = x2 at *
    clear t0 t1 t2 t3 t4 f0 f1 f2 f3 f4
    refine hK.out _ _ (get5 HR5.out) (fun hB => ?_)
    clear hK K hB
    try simp only [Act.put, List.setIfInBounds_toArray, List.set_cons_zero, List.set_cons_succ]
    refine wpAnyH_ready (rs := [4]) (by kernel_rfl) (by simp) ?_
    refine AllReadyH.cons (o := { dst := none, op := Op.store 61 (Operand.tmp 3) (Operand.tmp 15), type := 0, pos := _, after := #[{ on := 2, ground := Ground.data }, { on := 3, ground := Ground.chain }, { on := 0, ground := Ground.phase }, { on := 1, ground := Ground.phase }, { on := 2, ground := Ground.phase }, { on := 3, ground := Ground.phase }], guard := none }) rfl (fun K hK => ?_) AllReadyH.nil
    obtain ⟨t0, t1, t2, t3, t4⟩ := get5 HZ3.out
    have f0 := HZ3.out.frozen 0
    have f1 := HZ3.out.frozen 1
    have f2 := HZ3.out.frozen 2
    have f3 := HZ3.out.frozen 3
    have f4 := HZ3.out.frozen 4
    have m1 := set5_modG x2 (w.heap.size + 1) (.int .i64 D.at_) (.int .i64 D.acc) (.slice v2.a1 D.nc v2.c1) (.slice v2.a2 D.nt v2.c2) (.bool D.d) (X := fun x => x = (w.heap.size + 1)) rfl
    have m2 := m1.size
    have hz9 := HZB.out
    have hn9 : Row (((((x2.setCell ⟨(w.heap.size + 1), 0, none⟩ (.int .i64 D.at_)).setCell ⟨(w.heap.size + 1), 1, none⟩ (.int .i64 D.acc)).setCell ⟨(w.heap.size + 1), 2, none⟩ (.slice v2.a1 D.nc v2.c1)).setCell ⟨(w.heap.size + 1), 3, none⟩ (.slice v2.a2 D.nt v2.c2)).setCell ⟨(w.heap.size + 1), 4, none⟩ (.bool D.d)) (w.heap.size + 1) 5 (gb v2 D) := set5_all HZ3.out _ _ _ _ _
    replace HR5 : Hid (Row (((((x2.setCell ⟨(w.heap.size + 1), 0, none⟩ (.int .i64 D.at_)).setCell ⟨(w.heap.size + 1), 1, none⟩ (.int .i64 D.acc)).setCell ⟨(w.heap.size + 1), 2, none⟩ (.slice v2.a1 D.nc v2.c1)).setCell ⟨(w.heap.size + 1), 3, none⟩ (.slice v2.a2 D.nt v2.c2)).setCell ⟨(w.heap.size + 1), 4, none⟩ (.bool D.d)) zb 5 (gb u D)) := HR5.out.mod m1 (by omega)
    replace HBW : Hid (Blw w (((((x2.setCell ⟨(w.heap.size + 1), 0, none⟩ (.int .i64 D.at_)).setCell ⟨(w.heap.size + 1), 1, none⟩ (.int .i64 D.acc)).setCell ⟨(w.heap.size + 1), 2, none⟩ (.slice v2.a1 D.nc v2.c1)).setCell ⟨(w.heap.size + 1), 3, none⟩ (.slice v2.a2 D.nt v2.c2)).setCell ⟨(w.heap.size + 1), 4, none⟩ (.bool D.d))) := Mod.blw HBW.out m1 (fun i e => by omega)
    replace HZ2 : Hid (Row (((((x2.setCell ⟨(w.heap.size + 1), 0, none⟩ (.int .i64 D.at_)).setCell ⟨(w.heap.size + 1), 1, none⟩ (.int .i64 D.acc)).setCell ⟨(w.heap.size + 1), 2, none⟩ (.slice v2.a1 D.nc v2.c1)).setCell ⟨(w.heap.size + 1), 3, none⟩ (.slice v2.a2 D.nt v2.c2)).setCell ⟨(w.heap.size + 1), 4, none⟩ (.bool D.d)) w.heap.size 5 (gb u D)) := HZ2.out.mod m1 (by omega)
    replace HZB : Hid (w.heap.size + 1 + 1 < zb ∧ zb < (((((x2.setCell ⟨(w.heap.size + 1), 0, none⟩ (.int .i64 D.at_)).setCell ⟨(w.heap.size + 1), 1, none⟩ (.int .i64 D.acc)).setCell ⟨(w.heap.size + 1), 2, none⟩ (.slice v2.a1 D.nc v2.c1)).setCell ⟨(w.heap.size + 1), 3, none⟩ (.slice v2.a2 D.nt v2.c2)).setCell ⟨(w.heap.size + 1), 4, none⟩ (.bool D.d)).heap.size) := ⟨hz9.1, Nat.lt_of_lt_of_le hz9.2 m2⟩
    replace HL5 : Hid (GAt (fun x => (w.heap.size + 1 + 1 < x ∨ x < w.heap.size) ∧ x < (((((x2.setCell ⟨(w.heap.size + 1), 0, none⟩ (.int .i64 D.at_)).setCell ⟨(w.heap.size + 1), 1, none⟩ (.int .i64 D.acc)).setCell ⟨(w.heap.size + 1), 2, none⟩ (.slice v2.a1 D.nc v2.c1)).setCell ⟨(w.heap.size + 1), 3, none⟩ (.slice v2.a2 D.nt v2.c2)).setCell ⟨(w.heap.size + 1), 4, none⟩ (.bool D.d)).heap.size) (((((x2.setCell ⟨(w.heap.size + 1), 0, none⟩ (.int .i64 D.at_)).setCell ⟨(w.heap.size + 1), 1, none⟩ (.int .i64 D.acc)).setCell ⟨(w.heap.size + 1), 2, none⟩ (.slice v2.a1 D.nc v2.c1)).setCell ⟨(w.heap.size + 1), 3, none⟩ (.slice v2.a2 D.nt v2.c2)).setCell ⟨(w.heap.size + 1), 4, none⟩ (.bool D.d)) u D) := (HL5.out.mod m1 (fun b hb e => by omega)).mono (fun x hx => ⟨hx.1, Nat.lt_of_lt_of_le hx.2 m2⟩)
    replace HL2 : Hid (GAt (fun x => (w.heap.size + 1 + 1 < x ∨ x < w.heap.size) ∧ x < (((((x2.setCell ⟨(w.heap.size + 1), 0, none⟩ (.int .i64 D.at_)).setCell ⟨(w.heap.size + 1), 1, none⟩ (.int .i64 D.acc)).setCell ⟨(w.heap.size + 1), 2, none⟩ (.slice v2.a1 D.nc v2.c1)).setCell ⟨(w.heap.size + 1), 3, none⟩ (.slice v2.a2 D.nt v2.c2)).setCell ⟨(w.heap.size + 1), 4, none⟩ (.bool D.d)).heap.size) (((((x2.setCell ⟨(w.heap.size + 1), 0, none⟩ (.int .i64 D.at_)).setCell ⟨(w.heap.size + 1), 1, none⟩ (.int .i64 D.acc)).setCell ⟨(w.heap.size + 1), 2, none⟩ (.slice v2.a1 D.nc v2.c1)).setCell ⟨(w.heap.size + 1), 3, none⟩ (.slice v2.a2 D.nt v2.c2)).setCell ⟨(w.heap.size + 1), 4, none⟩ (.bool D.d)) v2 D) := (HL2.out.mod m1 (fun b hb e => by omega)).mono (fun x hx => ⟨hx.1, Nat.lt_of_lt_of_le hx.2 m2⟩)
    clear HZ3
    have HZ3 : Hid (Row (((((x2.setCell ⟨(w.heap.size + 1), 0, none⟩ (.int .i64 D.at_)).setCell ⟨(w.heap.size + 1), 1, none⟩ (.int .i64 D.acc)).setCell ⟨(w.heap.size + 1), 2, none⟩ (.slice v2.a1 D.nc v2.c1)).setCell ⟨(w.heap.size + 1), 3, none⟩ (.slice v2.a2 D.nt v2.c2)).setCell ⟨(w.heap.size + 1), 4, none⟩ (.bool D.d)) (w.heap.size + 1) 5 (gb v2 D)) := hn9
    clear m1 m2 hz9 hn9
    go_simp
    generalize ((((x2.setCell ⟨(w.heap.size + 1), 0, none⟩ (.int .i64 D.at_)).setCell ⟨(w.heap.size + 1), 1, none⟩ (.int .i64 D.acc)).setCell ⟨(w.heap.size + 1), 2, none⟩ (.slice v2.a1 D.nc v2.c1)).setCell ⟨(w.heap.size + 1), 3, none⟩ (.slice v2.a2 D.nt v2.c2)).setCell ⟨(w.heap.size + 1), 4, none⟩ (.bool D.d) = x3 at *
    clear t0 t1 t2 t3 t4 f0 f1 f2 f3 f4
    refine hK.out _ _ (get5 HR5.out) (fun hB => ?_)
    clear hK K hB
    try simp only [Act.put, List.setIfInBounds_toArray, List.set_cons_zero, List.set_cons_succ]
    refine wpAnyH_done (by kernel_rfl) ?_ _
    refine NoPanic.normal ?_
    obtain ⟨t0, t1, t2, t3, t4⟩ := get5 HZ2.out
    obtain ⟨r0, r1, r2, r3, r4⟩ := get5 HZ3.out
    go_wp2
    refine bodyPost_ret (v := .tuple #[GV.val u D, GV.val v2 D]) (by simp [results, Try.results46, go_sem, t0, t1, t2, t3, t4, r0, r1, r2, r3, r4]) rfl ⟨u, D, v2, D, rfl, HSM.out, HSM2.out, HL5.out.mono (fun x hx => hx.2), HL2.out.mono (fun x hx => hx.2), HBW.out⟩
end Go.Proofs.Ytbpdopcdhnemfaa
/- A guest that is given out: its told words fill their memory. -/
namespace Go.Proofs.Ytbpdopcdhnemfaa
open Go.RowKit
set_option linter.unusedSimpArgs false
set_option linter.unusedVariables false
set_option maxRecDepth 10000 in
set_option maxHeartbeats 6400000 in
theorem giveOut1c_any (z : Nat) (D : GD) (w : World) (hg : D.Good) (h : Cells w z 1 32 (hc D)) :
    Calls Try.prog 115 #[.pointer (some ⟨z, 1, none⟩)] w fun e w' => ∃ v : GV, e = .returned (v.val D) ∧ (v.c2 = D.nt ∧ ∃ z : Nat, v.a2 = some ⟨z, 0, none⟩) ∧ GOwn (fun x => w.heap.size ≤ x ∧ x < w'.heap.size) w' v D ∧ Blw w w' := by
  have four : ∀ {w' : World}, Cells w' z 1 32 (hc D) → w'.cell? ⟨z, 1, none⟩ = some (.int .i64 D.at_) ∧ w'.cell? ⟨z, 2, none⟩ = some (.int .i64 D.acc) ∧ w'.cell? ⟨z, 31, none⟩ = some (.int .i64 (D.nt : Int)) ∧ w'.cell? ⟨z, 32, none⟩ = some (.bool D.d) := fun hh => ⟨(hh 0 (by omega)).1, (hh 1 (by omega)).1, (hh 30 (by omega)).1, (hh 31 (by omega)).1⟩
  have hn20 := hg.nt
  have HNC : Hid (D.nc = 8) := hg.nc
  have HB1 : Hid (Blw w (w.alloc (.cells #[.int .i64 0, .int .i64 0, .slice none 0 0, .slice none 0 0, .bool false] 61))) := (Blw.refl _).alloc _
  have HC : Hid (Cells (w.alloc (.cells #[.int .i64 0, .int .i64 0, .slice none 0 0, .slice none 0 0, .bool false] 61)) z 1 32 (hc D)) := h.blw HB1.out
  have HR0 : Hid (Row (w.alloc (.cells #[.int .i64 0, .int .i64 0, .slice none 0 0, .slice none 0 0, .bool false] 61)) w.heap.size 5 (fun i => if i = 0 then .int .i64 0 else if i = 1 then .int .i64 0 else if i = 2 then .slice none 0 0 else if i = 3 then .slice none 0 0 else .bool false)) := row5 w _ _ _ _ _ 61
  have HSZ : Hid ((w.alloc (.cells #[.int .i64 0, .int .i64 0, .slice none 0 0, .slice none 0 0, .bool false] 61)).heap.size = w.heap.size + 1) := by show _ = _; simp
  clear h hg
  go_enter Try.func115, Try.ntmps115
  go_upto_region 1 with fail
  generalize w.alloc (.cells #[.int .i64 0, .int .i64 0, .slice none 0 0, .slice none 0 0, .bool false] 61) = w1 at *
  go_cut [3] from 3 to 22 (fun c3 wx => GoRel w1 D c3 wx)
  case first =>
    have HBW : Hid (Blw w1 w1.drew) := (Blw.refl _).drew
    refine wp_region_noPanic ?_
    refine wp_region_held_drew (S := fun w' => w'.cell? ⟨z, 1, none⟩ = some (.int .i64 D.at_) ∧ w'.cell? ⟨z, 2, none⟩ = some (.int .i64 D.acc) ∧ w'.cell? ⟨z, 31, none⟩ = some (.int .i64 (D.nt : Int)) ∧ w'.cell? ⟨z, 32, none⟩ = some (.bool D.d)) (by kernel_rfl) (four (HC.out.blw HBW.out)) (fun hB => ?_)
    clear hB
    generalize w1.drew = wd at *
    refine wpAnyH_take (i := 0) (oi := { dst := some 4, op := Op.move (Operand.tmp 0), type := 209, pos := _, after := #[], guard := none }) (v := (.pointer (some ⟨z, 1, none⟩))) rfl (by kernel_rfl) (by kernel_rfl) (by kernel_rfl) (fun _ _ _ h => h) (Or.inl ⟨by rfl, fun w' hS => by (try dsimp only at hS); go_simp⟩) (four (HC.out.blw HBW.out)) ?_
    simp only [Act.put, List.setIfInBounds_toArray, List.set_cons_zero, List.set_cons_succ]
    refine wpAnyH_take (i := 4) (oi := { dst := some 8, op := Op.move (Operand.tmp 0), type := 209, pos := _, after := #[], guard := none }) (v := (.pointer (some ⟨z, 1, none⟩))) rfl (by kernel_rfl) (by kernel_rfl) (by kernel_rfl) (fun _ _ _ h => h) (Or.inl ⟨by rfl, fun w' hS => by (try dsimp only at hS); go_simp⟩) (four (HC.out.blw HBW.out)) ?_
    simp only [Act.put, List.setIfInBounds_toArray, List.set_cons_zero, List.set_cons_succ]
    refine wpAnyH_take (i := 9) (oi := { dst := some 13, op := Op.move (Operand.tmp 0), type := 209, pos := _, after := #[], guard := none }) (v := (.pointer (some ⟨z, 1, none⟩))) rfl (by kernel_rfl) (by kernel_rfl) (by kernel_rfl) (fun _ _ _ h => h) (Or.inl ⟨by rfl, fun w' hS => by (try dsimp only at hS); go_simp⟩) (four (HC.out.blw HBW.out)) ?_
    simp only [Act.put, List.setIfInBounds_toArray, List.set_cons_zero, List.set_cons_succ]
    refine wpAnyH_take (i := 14) (oi := { dst := some 18, op := Op.move (Operand.tmp 0), type := 209, pos := _, after := #[], guard := none }) (v := (.pointer (some ⟨z, 1, none⟩))) rfl (by kernel_rfl) (by kernel_rfl) (by kernel_rfl) (fun _ _ _ h => h) (Or.inl ⟨by rfl, fun w' hS => by (try dsimp only at hS); go_simp⟩) (four (HC.out.blw HBW.out)) ?_
    simp only [Act.put, List.setIfInBounds_toArray, List.set_cons_zero, List.set_cons_succ]
    refine wpAnyH_take (i := 1) (oi := { dst := some 5, op := Op.nilCheck (Operand.tmp 4), type := 0, pos := _, after := #[{ on := 0, ground := Ground.data }], guard := none }) (v := (.pointer (some ⟨z, 1, none⟩))) rfl (by kernel_rfl) (by kernel_rfl) (by kernel_rfl) (fun _ _ _ h => h) (Or.inl ⟨by rfl, fun w' hS => by (try dsimp only at hS); go_simp⟩) (four (HC.out.blw HBW.out)) ?_
    simp only [Act.put, List.setIfInBounds_toArray, List.set_cons_zero, List.set_cons_succ]
    refine wpAnyH_take (i := 5) (oi := { dst := some 9, op := Op.nilCheck (Operand.tmp 8), type := 0, pos := _, after := #[{ on := 4, ground := Ground.data }], guard := none }) (v := (.pointer (some ⟨z, 1, none⟩))) rfl (by kernel_rfl) (by kernel_rfl) (by kernel_rfl) (fun _ _ _ h => h) (Or.inl ⟨by rfl, fun w' hS => by (try dsimp only at hS); go_simp⟩) (four (HC.out.blw HBW.out)) ?_
    simp only [Act.put, List.setIfInBounds_toArray, List.set_cons_zero, List.set_cons_succ]
    refine wpAnyH_take (i := 10) (oi := { dst := some 14, op := Op.nilCheck (Operand.tmp 13), type := 0, pos := _, after := #[{ on := 9, ground := Ground.data }], guard := none }) (v := (.pointer (some ⟨z, 1, none⟩))) rfl (by kernel_rfl) (by kernel_rfl) (by kernel_rfl) (fun _ _ _ h => h) (Or.inl ⟨by rfl, fun w' hS => by (try dsimp only at hS); go_simp⟩) (four (HC.out.blw HBW.out)) ?_
    simp only [Act.put, List.setIfInBounds_toArray, List.set_cons_zero, List.set_cons_succ]
    refine wpAnyH_take (i := 15) (oi := { dst := some 19, op := Op.nilCheck (Operand.tmp 18), type := 0, pos := _, after := #[{ on := 14, ground := Ground.data }], guard := none }) (v := (.pointer (some ⟨z, 1, none⟩))) rfl (by kernel_rfl) (by kernel_rfl) (by kernel_rfl) (fun _ _ _ h => h) (Or.inl ⟨by rfl, fun w' hS => by (try dsimp only at hS); go_simp⟩) (four (HC.out.blw HBW.out)) ?_
    simp only [Act.put, List.setIfInBounds_toArray, List.set_cons_zero, List.set_cons_succ]
    refine wpAnyH_take (i := 2) (oi := { dst := some 6, op := Op.fieldAddr 148 (Operand.tmp 5) 0, type := 0, pos := _, after := #[{ on := 1, ground := Ground.data }], guard := none }) (v := (.pointer (some ⟨z, 1, none⟩))) rfl (by kernel_rfl) (by kernel_rfl) (by kernel_rfl) (fun _ _ _ h => h) (Or.inl ⟨by rfl, fun w' hS => by (try dsimp only at hS); go_simp⟩) (four (HC.out.blw HBW.out)) ?_
    simp only [Act.put, List.setIfInBounds_toArray, List.set_cons_zero, List.set_cons_succ]
    refine wpAnyH_take (i := 6) (oi := { dst := some 10, op := Op.fieldAddr 148 (Operand.tmp 9) 1, type := 0, pos := _, after := #[{ on := 5, ground := Ground.data }], guard := none }) (v := (.pointer (some ⟨z, 2, none⟩))) rfl (by kernel_rfl) (by kernel_rfl) (by kernel_rfl) (fun _ _ _ h => h) (Or.inl ⟨by rfl, fun w' hS => by (try dsimp only at hS); go_simp⟩) (four (HC.out.blw HBW.out)) ?_
    simp only [Act.put, List.setIfInBounds_toArray, List.set_cons_zero, List.set_cons_succ]
    refine wpAnyH_take (i := 11) (oi := { dst := some 15, op := Op.fieldAddr 148 (Operand.tmp 14) 4, type := 0, pos := _, after := #[{ on := 10, ground := Ground.data }], guard := none }) (v := (.pointer (some ⟨z, 31, none⟩))) rfl (by kernel_rfl) (by kernel_rfl) (by kernel_rfl) (fun _ _ _ h => h) (Or.inl ⟨by rfl, fun w' hS => by (try dsimp only at hS); go_simp⟩) (four (HC.out.blw HBW.out)) ?_
    simp only [Act.put, List.setIfInBounds_toArray, List.set_cons_zero, List.set_cons_succ]
    refine wpAnyH_take (i := 16) (oi := { dst := some 20, op := Op.fieldAddr 148 (Operand.tmp 19) 5, type := 0, pos := _, after := #[{ on := 15, ground := Ground.data }], guard := none }) (v := (.pointer (some ⟨z, 32, none⟩))) rfl (by kernel_rfl) (by kernel_rfl) (by kernel_rfl) (fun _ _ _ h => h) (Or.inl ⟨by rfl, fun w' hS => by (try dsimp only at hS); go_simp⟩) (four (HC.out.blw HBW.out)) ?_
    simp only [Act.put, List.setIfInBounds_toArray, List.set_cons_zero, List.set_cons_succ]
    refine wpAnyH_take (i := 3) (oi := { dst := some 7, op := Op.load 3 (Operand.tmp 6), type := 3, pos := _, after := #[{ on := 2, ground := Ground.data }], guard := none }) (v := (.int .i64 D.at_)) rfl (by kernel_rfl) (by kernel_rfl) (by kernel_rfl) (fun _ _ _ h => h) (Or.inl ⟨by rfl, fun w' hS => by (try dsimp only at hS); go_simp⟩) (four (HC.out.blw HBW.out)) ?_
    simp only [Act.put, List.setIfInBounds_toArray, List.set_cons_zero, List.set_cons_succ]
    refine wpAnyH_take (i := 7) (oi := { dst := some 11, op := Op.load 3 (Operand.tmp 10), type := 3, pos := _, after := #[{ on := 6, ground := Ground.data }], guard := none }) (v := (.int .i64 D.acc)) rfl (by kernel_rfl) (by kernel_rfl) (by kernel_rfl) (fun _ _ _ h => h) (Or.inl ⟨by rfl, fun w' hS => by (try dsimp only at hS); go_simp⟩) (four (HC.out.blw HBW.out)) ?_
    simp only [Act.put, List.setIfInBounds_toArray, List.set_cons_zero, List.set_cons_succ]
    refine wpAnyH_take (i := 12) (oi := { dst := some 16, op := Op.load 3 (Operand.tmp 15), type := 3, pos := _, after := #[{ on := 11, ground := Ground.data }], guard := none }) (v := (.int .i64 (D.nt : Int))) rfl (by kernel_rfl) (by kernel_rfl) (by kernel_rfl) (fun _ _ _ h => h) (Or.inl ⟨by rfl, fun w' hS => by (try dsimp only at hS); go_simp⟩) (four (HC.out.blw HBW.out)) ?_
    simp only [Act.put, List.setIfInBounds_toArray, List.set_cons_zero, List.set_cons_succ]
    refine wpAnyH_take (i := 17) (oi := { dst := some 21, op := Op.load 4 (Operand.tmp 20), type := 4, pos := _, after := #[{ on := 16, ground := Ground.data }], guard := none }) (v := (.bool D.d)) rfl (by kernel_rfl) (by kernel_rfl) (by kernel_rfl) (fun _ _ _ h => h) (Or.inl ⟨by rfl, fun w' hS => by (try dsimp only at hS); go_simp⟩) (four (HC.out.blw HBW.out)) ?_
    simp only [Act.put, List.setIfInBounds_toArray, List.set_cons_zero, List.set_cons_succ]
    refine wpAnyH_ready (rs := [8, 13, 19]) (by kernel_rfl) (by simp) ?_
    refine AllReadyH.cons (o := { dst := some 12, op := Op.makeSlice 26 (Operand.const (Value.int IntKind.i64 8)) (Operand.const (Value.int IntKind.i64 8)), type := 26, pos := _, after := #[], guard := none }) rfl (fun K hK => ?_) (AllReadyH.cons (o := { dst := some 17, op := Op.makeSlice 26 (Operand.tmp 16) (Operand.tmp 16), type := 26, pos := _, after := #[{ on := 12, ground := Ground.data }, { on := 12, ground := Ground.data }], guard := none }) rfl (fun K hK => ?_) (AllReadyH.cons (o := { dst := some 3, op := Op.alloc 61, type := 0, pos := _, after := #[], guard := none }) rfl (fun K hK => ?_) AllReadyH.nil))
    · have hmk : (Instr.makeSlice 26 (.int .i64 8) (.int .i64 8)).run Try.prog wd = .ok (.slice (some ⟨wd.heap.size, 0, none⟩) 8 8) (wd.alloc (.cells (madeCells #[.int .i64 0] 8) 3)) := mkInts 8 (by omega) wd
      go_simp
      clear hmk
      have hb : Blw wd (wd.alloc (.cells (madeCells #[.int .i64 0] 8) 3)) := (Blw.refl _).alloc _
      have R8 : Hid (Row (wd.alloc (.cells (madeCells #[.int .i64 0] 8) 3)) wd.heap.size 8 (fun _ => .int .i64 0)) := Row.made wd (.int .i64 0) 8 3
      have HZ8 : Hid (w1.heap.size ≤ wd.heap.size ∧ wd.heap.size < (wd.alloc (.cells (madeCells #[.int .i64 0] 8) 3)).heap.size) := ⟨HBW.out.size, by simp⟩
      generalize wd.alloc (.cells (madeCells #[.int .i64 0] 8) 3) = x1 at *
      replace HBW : Hid (Blw w1 x1) := HBW.out.trans hb
      have HY0 : Hid (wd.heap.size ≤ x1.heap.size) := hb.size
      clear hb
      refine hK.out _ _ (four (HC.out.blw HBW.out)) (fun hB => ?_)
      clear hK K hB
      try simp only [Act.put, List.setIfInBounds_toArray, List.set_cons_zero, List.set_cons_succ]
      refine wpAnyH_ready (rs := [13, 19]) (by kernel_rfl) (by simp) ?_
      refine AllReadyH.cons (o := { dst := some 17, op := Op.makeSlice 26 (Operand.tmp 16) (Operand.tmp 16), type := 26, pos := _, after := #[{ on := 12, ground := Ground.data }, { on := 12, ground := Ground.data }], guard := none }) rfl (fun K hK => ?_) (AllReadyH.cons (o := { dst := some 3, op := Op.alloc 61, type := 0, pos := _, after := #[], guard := none }) rfl (fun K hK => ?_) AllReadyH.nil)
      · have hmk := mkInts D.nt (by omega) x1
        go_simp
        clear hmk
        have hb : Blw x1 (x1.alloc (.cells (madeCells #[.int .i64 0] D.nt) 3)) := (Blw.refl _).alloc _
        have RN : Hid (Row (x1.alloc (.cells (madeCells #[.int .i64 0] D.nt) 3)) x1.heap.size D.nt (fun _ => .int .i64 0)) := Row.made x1 (.int .i64 0) D.nt 3
        have HZ13 : Hid (w1.heap.size ≤ x1.heap.size ∧ x1.heap.size < (x1.alloc (.cells (madeCells #[.int .i64 0] D.nt) 3)).heap.size) := ⟨HBW.out.size, by simp⟩
        generalize x1.alloc (.cells (madeCells #[.int .i64 0] D.nt) 3) = x2 at *
        replace HBW : Hid (Blw w1 x2) := HBW.out.trans hb
        replace R8 : Hid (Row x2 wd.heap.size 8 (fun _ => .int .i64 0)) := R8.out.blw hb
        have HY1 : Hid (x1.heap.size ≤ x2.heap.size) := hb.size
        clear hb
        refine hK.out _ _ (four (HC.out.blw HBW.out)) (fun hB => ?_)
        clear hK K hB
        try simp only [Act.put, List.setIfInBounds_toArray, List.set_cons_zero, List.set_cons_succ]
        refine wpAnyH_take (i := 18) (oi := { dst := some 22, op := Op.build 61 #[(0, Operand.tmp 7), (1, Operand.tmp 11), (2, Operand.tmp 12), (3, Operand.tmp 17), (4, Operand.tmp 21)], type := 61, pos := _, after := #[{ on := 3, ground := Ground.data }, { on := 7, ground := Ground.data }, { on := 8, ground := Ground.data }, { on := 13, ground := Ground.data }, { on := 17, ground := Ground.data }], guard := none }) (v := (.agg #[.int .i64 D.at_, .int .i64 D.acc, .slice (some ⟨wd.heap.size, 0, none⟩) 8 8, .slice (some ⟨x1.heap.size, 0, none⟩) D.nt D.nt, .bool D.d])) rfl (by kernel_rfl) (by kernel_rfl) (by kernel_rfl) (fun _ _ _ h => h) (Or.inl ⟨by rfl, fun w' hS => by (try dsimp only at hS); go_simp⟩) (four (HC.out.blw HBW.out)) ?_
        simp only [Act.put, List.setIfInBounds_toArray, List.set_cons_zero, List.set_cons_succ]
        refine wpAnyH_ready (rs := [19]) (by kernel_rfl) (by simp) ?_
        refine AllReadyH.cons (o := { dst := some 3, op := Op.alloc 61, type := 0, pos := _, after := #[], guard := none }) rfl (fun K hK => ?_) AllReadyH.nil
        go_simp
        have hb : Blw x2 (x2.alloc (.cells #[.int .i64 0, .int .i64 0, .slice none 0 0, .slice none 0 0, .bool false] 61)) := (Blw.refl _).alloc _
        have RG : Hid (Row (x2.alloc (.cells #[.int .i64 0, .int .i64 0, .slice none 0 0, .slice none 0 0, .bool false] 61)) x2.heap.size 5 (fun i => if i = 0 then .int .i64 0 else if i = 1 then .int .i64 0 else if i = 2 then .slice none 0 0 else if i = 3 then .slice none 0 0 else .bool false)) := row5 x2 (.int .i64 0) (.int .i64 0) (.slice none 0 0) (.slice none 0 0) (.bool false) 61
        have HZ19 : Hid (w1.heap.size ≤ x2.heap.size ∧ x2.heap.size < (x2.alloc (.cells #[.int .i64 0, .int .i64 0, .slice none 0 0, .slice none 0 0, .bool false] 61)).heap.size) := ⟨HBW.out.size, by simp⟩
        generalize x2.alloc (.cells #[.int .i64 0, .int .i64 0, .slice none 0 0, .slice none 0 0, .bool false] 61) = x3 at *
        replace HBW : Hid (Blw w1 x3) := HBW.out.trans hb
        replace R8 : Hid (Row x3 wd.heap.size 8 (fun _ => .int .i64 0)) := R8.out.blw hb
        replace RN : Hid (Row x3 x1.heap.size D.nt (fun _ => .int .i64 0)) := RN.out.blw hb
        have HY2 : Hid (x2.heap.size ≤ x3.heap.size) := hb.size
        clear hb
        refine hK.out _ _ (four (HC.out.blw HBW.out)) (fun hB => ?_)
        clear hK K hB
        try simp only [Act.put, List.setIfInBounds_toArray, List.set_cons_zero, List.set_cons_succ]
        refine wpAnyH_ready (rs := [20]) (by kernel_rfl) (by simp) ?_
        refine AllReadyH.cons (o := { dst := none, op := Op.store 61 (Operand.tmp 3) (Operand.tmp 22), type := 0, pos := _, after := #[{ on := 19, ground := Ground.data }, { on := 18, ground := Ground.data }, { on := 0, ground := Ground.phase }, { on := 1, ground := Ground.phase }, { on := 2, ground := Ground.phase }, { on := 3, ground := Ground.phase }, { on := 4, ground := Ground.phase }, { on := 5, ground := Ground.phase }, { on := 6, ground := Ground.phase }, { on := 7, ground := Ground.phase }, { on := 8, ground := Ground.phase }, { on := 9, ground := Ground.phase }, { on := 10, ground := Ground.phase }, { on := 11, ground := Ground.phase }, { on := 12, ground := Ground.phase }, { on := 13, ground := Ground.phase }, { on := 14, ground := Ground.phase }, { on := 15, ground := Ground.phase }, { on := 16, ground := Ground.phase }, { on := 17, ground := Ground.phase }, { on := 18, ground := Ground.phase }, { on := 19, ground := Ground.phase }], guard := none }) rfl (fun K hK => ?_) AllReadyH.nil
        obtain ⟨t0, t1, t2, t3, t4⟩ := get5 RG.out
        have f0 := RG.out.frozen 0
        have f1 := RG.out.frozen 1
        have f2 := RG.out.frozen 2
        have f3 := RG.out.frozen 3
        have f4 := RG.out.frozen 4
        have o8 := HZ8.out
        have o13 := HZ13.out
        have o19 := HZ19.out
        have y0 := HY0.out
        have y1 := HY1.out
        have y2 := HY2.out
        have m1 := set5_modG x3 x2.heap.size (.int .i64 D.at_) (.int .i64 D.acc) (.slice (some ⟨wd.heap.size, 0, none⟩) 8 8) (.slice (some ⟨x1.heap.size, 0, none⟩) D.nt D.nt) (.bool D.d) (X := fun x => x = x2.heap.size) rfl
        have FIN : Hid (GoRel w1 D (.pointer (some ⟨x2.heap.size, 0, none⟩)) (((((x3.setCell ⟨x2.heap.size, 0, none⟩ (.int .i64 D.at_)).setCell ⟨x2.heap.size, 1, none⟩ (.int .i64 D.acc)).setCell ⟨x2.heap.size, 2, none⟩ (.slice (some ⟨wd.heap.size, 0, none⟩) 8 8)).setCell ⟨x2.heap.size, 3, none⟩ (.slice (some ⟨x1.heap.size, 0, none⟩) D.nt D.nt)).setCell ⟨x2.heap.size, 4, none⟩ (.bool D.d))) := ⟨x2.heap.size, wd.heap.size, x1.heap.size, rfl, set5_all RG.out _ _ _ _ _, R8.out.mod m1 (by omega), RN.out.mod m1 (by omega), ⟨by omega, by omega, by omega, by omega, by omega, by omega⟩, Mod.blw HBW.out m1 (fun i hi => by omega)⟩
        replace HBW : Hid (Blw w1 (((((x3.setCell ⟨x2.heap.size, 0, none⟩ (.int .i64 D.at_)).setCell ⟨x2.heap.size, 1, none⟩ (.int .i64 D.acc)).setCell ⟨x2.heap.size, 2, none⟩ (.slice (some ⟨wd.heap.size, 0, none⟩) 8 8)).setCell ⟨x2.heap.size, 3, none⟩ (.slice (some ⟨x1.heap.size, 0, none⟩) D.nt D.nt)).setCell ⟨x2.heap.size, 4, none⟩ (.bool D.d))) := Mod.blw HBW.out m1 (fun i hi => by omega)
        clear m1 o8 o13 o19 y0 y1 y2 R8 RN RG
        go_simp
        refine hK.out _ _ (four (HC.out.blw HBW.out)) (fun hB => ?_)
        clear hK K hB
        try simp only [Act.put, List.setIfInBounds_toArray, List.set_cons_zero, List.set_cons_succ]
        clear t0 t1 t2 t3 t4 f0 f1 f2 f3 f4
        refine wpAnyH_done (by kernel_rfl) ?_ _
        refine NoPanic.normal ?_
        go_wp2_with fail
        go_meet
        exact FIN.out
      · go_simp
        have hb : Blw x1 (x1.alloc (.cells #[.int .i64 0, .int .i64 0, .slice none 0 0, .slice none 0 0, .bool false] 61)) := (Blw.refl _).alloc _
        have RG : Hid (Row (x1.alloc (.cells #[.int .i64 0, .int .i64 0, .slice none 0 0, .slice none 0 0, .bool false] 61)) x1.heap.size 5 (fun i => if i = 0 then .int .i64 0 else if i = 1 then .int .i64 0 else if i = 2 then .slice none 0 0 else if i = 3 then .slice none 0 0 else .bool false)) := row5 x1 (.int .i64 0) (.int .i64 0) (.slice none 0 0) (.slice none 0 0) (.bool false) 61
        have HZ19 : Hid (w1.heap.size ≤ x1.heap.size ∧ x1.heap.size < (x1.alloc (.cells #[.int .i64 0, .int .i64 0, .slice none 0 0, .slice none 0 0, .bool false] 61)).heap.size) := ⟨HBW.out.size, by simp⟩
        generalize x1.alloc (.cells #[.int .i64 0, .int .i64 0, .slice none 0 0, .slice none 0 0, .bool false] 61) = x2 at *
        replace HBW : Hid (Blw w1 x2) := HBW.out.trans hb
        replace R8 : Hid (Row x2 wd.heap.size 8 (fun _ => .int .i64 0)) := R8.out.blw hb
        have HY1 : Hid (x1.heap.size ≤ x2.heap.size) := hb.size
        clear hb
        refine hK.out _ _ (four (HC.out.blw HBW.out)) (fun hB => ?_)
        clear hK K hB
        try simp only [Act.put, List.setIfInBounds_toArray, List.set_cons_zero, List.set_cons_succ]
        refine wpAnyH_ready (rs := [13]) (by kernel_rfl) (by simp) ?_
        refine AllReadyH.cons (o := { dst := some 17, op := Op.makeSlice 26 (Operand.tmp 16) (Operand.tmp 16), type := 26, pos := _, after := #[{ on := 12, ground := Ground.data }, { on := 12, ground := Ground.data }], guard := none }) rfl (fun K hK => ?_) AllReadyH.nil
        have hmk := mkInts D.nt (by omega) x2
        go_simp
        clear hmk
        have hb : Blw x2 (x2.alloc (.cells (madeCells #[.int .i64 0] D.nt) 3)) := (Blw.refl _).alloc _
        have RN : Hid (Row (x2.alloc (.cells (madeCells #[.int .i64 0] D.nt) 3)) x2.heap.size D.nt (fun _ => .int .i64 0)) := Row.made x2 (.int .i64 0) D.nt 3
        have HZ13 : Hid (w1.heap.size ≤ x2.heap.size ∧ x2.heap.size < (x2.alloc (.cells (madeCells #[.int .i64 0] D.nt) 3)).heap.size) := ⟨HBW.out.size, by simp⟩
        generalize x2.alloc (.cells (madeCells #[.int .i64 0] D.nt) 3) = x3 at *
        replace HBW : Hid (Blw w1 x3) := HBW.out.trans hb
        replace R8 : Hid (Row x3 wd.heap.size 8 (fun _ => .int .i64 0)) := R8.out.blw hb
        replace RG : Hid (Row x3 x1.heap.size 5 (fun i => if i = 0 then .int .i64 0 else if i = 1 then .int .i64 0 else if i = 2 then .slice none 0 0 else if i = 3 then .slice none 0 0 else .bool false)) := RG.out.blw hb
        have HY2 : Hid (x2.heap.size ≤ x3.heap.size) := hb.size
        clear hb
        refine hK.out _ _ (four (HC.out.blw HBW.out)) (fun hB => ?_)
        clear hK K hB
        try simp only [Act.put, List.setIfInBounds_toArray, List.set_cons_zero, List.set_cons_succ]
        refine wpAnyH_take (i := 18) (oi := { dst := some 22, op := Op.build 61 #[(0, Operand.tmp 7), (1, Operand.tmp 11), (2, Operand.tmp 12), (3, Operand.tmp 17), (4, Operand.tmp 21)], type := 61, pos := _, after := #[{ on := 3, ground := Ground.data }, { on := 7, ground := Ground.data }, { on := 8, ground := Ground.data }, { on := 13, ground := Ground.data }, { on := 17, ground := Ground.data }], guard := none }) (v := (.agg #[.int .i64 D.at_, .int .i64 D.acc, .slice (some ⟨wd.heap.size, 0, none⟩) 8 8, .slice (some ⟨x2.heap.size, 0, none⟩) D.nt D.nt, .bool D.d])) rfl (by kernel_rfl) (by kernel_rfl) (by kernel_rfl) (fun _ _ _ h => h) (Or.inl ⟨by rfl, fun w' hS => by (try dsimp only at hS); go_simp⟩) (four (HC.out.blw HBW.out)) ?_
        simp only [Act.put, List.setIfInBounds_toArray, List.set_cons_zero, List.set_cons_succ]
        refine wpAnyH_ready (rs := [20]) (by kernel_rfl) (by simp) ?_
        refine AllReadyH.cons (o := { dst := none, op := Op.store 61 (Operand.tmp 3) (Operand.tmp 22), type := 0, pos := _, after := #[{ on := 19, ground := Ground.data }, { on := 18, ground := Ground.data }, { on := 0, ground := Ground.phase }, { on := 1, ground := Ground.phase }, { on := 2, ground := Ground.phase }, { on := 3, ground := Ground.phase }, { on := 4, ground := Ground.phase }, { on := 5, ground := Ground.phase }, { on := 6, ground := Ground.phase }, { on := 7, ground := Ground.phase }, { on := 8, ground := Ground.phase }, { on := 9, ground := Ground.phase }, { on := 10, ground := Ground.phase }, { on := 11, ground := Ground.phase }, { on := 12, ground := Ground.phase }, { on := 13, ground := Ground.phase }, { on := 14, ground := Ground.phase }, { on := 15, ground := Ground.phase }, { on := 16, ground := Ground.phase }, { on := 17, ground := Ground.phase }, { on := 18, ground := Ground.phase }, { on := 19, ground := Ground.phase }], guard := none }) rfl (fun K hK => ?_) AllReadyH.nil
        obtain ⟨t0, t1, t2, t3, t4⟩ := get5 RG.out
        have f0 := RG.out.frozen 0
        have f1 := RG.out.frozen 1
        have f2 := RG.out.frozen 2
        have f3 := RG.out.frozen 3
        have f4 := RG.out.frozen 4
        have o8 := HZ8.out
        have o13 := HZ13.out
        have o19 := HZ19.out
        have y0 := HY0.out
        have y1 := HY1.out
        have y2 := HY2.out
        have m1 := set5_modG x3 x1.heap.size (.int .i64 D.at_) (.int .i64 D.acc) (.slice (some ⟨wd.heap.size, 0, none⟩) 8 8) (.slice (some ⟨x2.heap.size, 0, none⟩) D.nt D.nt) (.bool D.d) (X := fun x => x = x1.heap.size) rfl
        have FIN : Hid (GoRel w1 D (.pointer (some ⟨x1.heap.size, 0, none⟩)) (((((x3.setCell ⟨x1.heap.size, 0, none⟩ (.int .i64 D.at_)).setCell ⟨x1.heap.size, 1, none⟩ (.int .i64 D.acc)).setCell ⟨x1.heap.size, 2, none⟩ (.slice (some ⟨wd.heap.size, 0, none⟩) 8 8)).setCell ⟨x1.heap.size, 3, none⟩ (.slice (some ⟨x2.heap.size, 0, none⟩) D.nt D.nt)).setCell ⟨x1.heap.size, 4, none⟩ (.bool D.d))) := ⟨x1.heap.size, wd.heap.size, x2.heap.size, rfl, set5_all RG.out _ _ _ _ _, R8.out.mod m1 (by omega), RN.out.mod m1 (by omega), ⟨by omega, by omega, by omega, by omega, by omega, by omega⟩, Mod.blw HBW.out m1 (fun i hi => by omega)⟩
        replace HBW : Hid (Blw w1 (((((x3.setCell ⟨x1.heap.size, 0, none⟩ (.int .i64 D.at_)).setCell ⟨x1.heap.size, 1, none⟩ (.int .i64 D.acc)).setCell ⟨x1.heap.size, 2, none⟩ (.slice (some ⟨wd.heap.size, 0, none⟩) 8 8)).setCell ⟨x1.heap.size, 3, none⟩ (.slice (some ⟨x2.heap.size, 0, none⟩) D.nt D.nt)).setCell ⟨x1.heap.size, 4, none⟩ (.bool D.d))) := Mod.blw HBW.out m1 (fun i hi => by omega)
        clear m1 o8 o13 o19 y0 y1 y2 R8 RN RG
        go_simp
        refine hK.out _ _ (four (HC.out.blw HBW.out)) (fun hB => ?_)
        clear hK K hB
        try simp only [Act.put, List.setIfInBounds_toArray, List.set_cons_zero, List.set_cons_succ]
        clear t0 t1 t2 t3 t4 f0 f1 f2 f3 f4
        refine wpAnyH_done (by kernel_rfl) ?_ _
        refine NoPanic.normal ?_
        go_wp2_with fail
        go_meet
        exact FIN.out
    · have hmk := mkInts D.nt (by omega) wd
      go_simp
      clear hmk
      have hb : Blw wd (wd.alloc (.cells (madeCells #[.int .i64 0] D.nt) 3)) := (Blw.refl _).alloc _
      have RN : Hid (Row (wd.alloc (.cells (madeCells #[.int .i64 0] D.nt) 3)) wd.heap.size D.nt (fun _ => .int .i64 0)) := Row.made wd (.int .i64 0) D.nt 3
      have HZ13 : Hid (w1.heap.size ≤ wd.heap.size ∧ wd.heap.size < (wd.alloc (.cells (madeCells #[.int .i64 0] D.nt) 3)).heap.size) := ⟨HBW.out.size, by simp⟩
      generalize wd.alloc (.cells (madeCells #[.int .i64 0] D.nt) 3) = x1 at *
      replace HBW : Hid (Blw w1 x1) := HBW.out.trans hb
      have HY0 : Hid (wd.heap.size ≤ x1.heap.size) := hb.size
      clear hb
      refine hK.out _ _ (four (HC.out.blw HBW.out)) (fun hB => ?_)
      clear hK K hB
      try simp only [Act.put, List.setIfInBounds_toArray, List.set_cons_zero, List.set_cons_succ]
      refine wpAnyH_ready (rs := [8, 19]) (by kernel_rfl) (by simp) ?_
      refine AllReadyH.cons (o := { dst := some 12, op := Op.makeSlice 26 (Operand.const (Value.int IntKind.i64 8)) (Operand.const (Value.int IntKind.i64 8)), type := 26, pos := _, after := #[], guard := none }) rfl (fun K hK => ?_) (AllReadyH.cons (o := { dst := some 3, op := Op.alloc 61, type := 0, pos := _, after := #[], guard := none }) rfl (fun K hK => ?_) AllReadyH.nil)
      · have hmk : (Instr.makeSlice 26 (.int .i64 8) (.int .i64 8)).run Try.prog x1 = .ok (.slice (some ⟨x1.heap.size, 0, none⟩) 8 8) (x1.alloc (.cells (madeCells #[.int .i64 0] 8) 3)) := mkInts 8 (by omega) x1
        go_simp
        clear hmk
        have hb : Blw x1 (x1.alloc (.cells (madeCells #[.int .i64 0] 8) 3)) := (Blw.refl _).alloc _
        have R8 : Hid (Row (x1.alloc (.cells (madeCells #[.int .i64 0] 8) 3)) x1.heap.size 8 (fun _ => .int .i64 0)) := Row.made x1 (.int .i64 0) 8 3
        have HZ8 : Hid (w1.heap.size ≤ x1.heap.size ∧ x1.heap.size < (x1.alloc (.cells (madeCells #[.int .i64 0] 8) 3)).heap.size) := ⟨HBW.out.size, by simp⟩
        generalize x1.alloc (.cells (madeCells #[.int .i64 0] 8) 3) = x2 at *
        replace HBW : Hid (Blw w1 x2) := HBW.out.trans hb
        replace RN : Hid (Row x2 wd.heap.size D.nt (fun _ => .int .i64 0)) := RN.out.blw hb
        have HY1 : Hid (x1.heap.size ≤ x2.heap.size) := hb.size
        clear hb
        refine hK.out _ _ (four (HC.out.blw HBW.out)) (fun hB => ?_)
        clear hK K hB
        try simp only [Act.put, List.setIfInBounds_toArray, List.set_cons_zero, List.set_cons_succ]
        refine wpAnyH_take (i := 18) (oi := { dst := some 22, op := Op.build 61 #[(0, Operand.tmp 7), (1, Operand.tmp 11), (2, Operand.tmp 12), (3, Operand.tmp 17), (4, Operand.tmp 21)], type := 61, pos := _, after := #[{ on := 3, ground := Ground.data }, { on := 7, ground := Ground.data }, { on := 8, ground := Ground.data }, { on := 13, ground := Ground.data }, { on := 17, ground := Ground.data }], guard := none }) (v := (.agg #[.int .i64 D.at_, .int .i64 D.acc, .slice (some ⟨x1.heap.size, 0, none⟩) 8 8, .slice (some ⟨wd.heap.size, 0, none⟩) D.nt D.nt, .bool D.d])) rfl (by kernel_rfl) (by kernel_rfl) (by kernel_rfl) (fun _ _ _ h => h) (Or.inl ⟨by rfl, fun w' hS => by (try dsimp only at hS); go_simp⟩) (four (HC.out.blw HBW.out)) ?_
        simp only [Act.put, List.setIfInBounds_toArray, List.set_cons_zero, List.set_cons_succ]
        refine wpAnyH_ready (rs := [19]) (by kernel_rfl) (by simp) ?_
        refine AllReadyH.cons (o := { dst := some 3, op := Op.alloc 61, type := 0, pos := _, after := #[], guard := none }) rfl (fun K hK => ?_) AllReadyH.nil
        go_simp
        have hb : Blw x2 (x2.alloc (.cells #[.int .i64 0, .int .i64 0, .slice none 0 0, .slice none 0 0, .bool false] 61)) := (Blw.refl _).alloc _
        have RG : Hid (Row (x2.alloc (.cells #[.int .i64 0, .int .i64 0, .slice none 0 0, .slice none 0 0, .bool false] 61)) x2.heap.size 5 (fun i => if i = 0 then .int .i64 0 else if i = 1 then .int .i64 0 else if i = 2 then .slice none 0 0 else if i = 3 then .slice none 0 0 else .bool false)) := row5 x2 (.int .i64 0) (.int .i64 0) (.slice none 0 0) (.slice none 0 0) (.bool false) 61
        have HZ19 : Hid (w1.heap.size ≤ x2.heap.size ∧ x2.heap.size < (x2.alloc (.cells #[.int .i64 0, .int .i64 0, .slice none 0 0, .slice none 0 0, .bool false] 61)).heap.size) := ⟨HBW.out.size, by simp⟩
        generalize x2.alloc (.cells #[.int .i64 0, .int .i64 0, .slice none 0 0, .slice none 0 0, .bool false] 61) = x3 at *
        replace HBW : Hid (Blw w1 x3) := HBW.out.trans hb
        replace RN : Hid (Row x3 wd.heap.size D.nt (fun _ => .int .i64 0)) := RN.out.blw hb
        replace R8 : Hid (Row x3 x1.heap.size 8 (fun _ => .int .i64 0)) := R8.out.blw hb
        have HY2 : Hid (x2.heap.size ≤ x3.heap.size) := hb.size
        clear hb
        refine hK.out _ _ (four (HC.out.blw HBW.out)) (fun hB => ?_)
        clear hK K hB
        try simp only [Act.put, List.setIfInBounds_toArray, List.set_cons_zero, List.set_cons_succ]
        refine wpAnyH_ready (rs := [20]) (by kernel_rfl) (by simp) ?_
        refine AllReadyH.cons (o := { dst := none, op := Op.store 61 (Operand.tmp 3) (Operand.tmp 22), type := 0, pos := _, after := #[{ on := 19, ground := Ground.data }, { on := 18, ground := Ground.data }, { on := 0, ground := Ground.phase }, { on := 1, ground := Ground.phase }, { on := 2, ground := Ground.phase }, { on := 3, ground := Ground.phase }, { on := 4, ground := Ground.phase }, { on := 5, ground := Ground.phase }, { on := 6, ground := Ground.phase }, { on := 7, ground := Ground.phase }, { on := 8, ground := Ground.phase }, { on := 9, ground := Ground.phase }, { on := 10, ground := Ground.phase }, { on := 11, ground := Ground.phase }, { on := 12, ground := Ground.phase }, { on := 13, ground := Ground.phase }, { on := 14, ground := Ground.phase }, { on := 15, ground := Ground.phase }, { on := 16, ground := Ground.phase }, { on := 17, ground := Ground.phase }, { on := 18, ground := Ground.phase }, { on := 19, ground := Ground.phase }], guard := none }) rfl (fun K hK => ?_) AllReadyH.nil
        obtain ⟨t0, t1, t2, t3, t4⟩ := get5 RG.out
        have f0 := RG.out.frozen 0
        have f1 := RG.out.frozen 1
        have f2 := RG.out.frozen 2
        have f3 := RG.out.frozen 3
        have f4 := RG.out.frozen 4
        have o8 := HZ8.out
        have o13 := HZ13.out
        have o19 := HZ19.out
        have y0 := HY0.out
        have y1 := HY1.out
        have y2 := HY2.out
        have m1 := set5_modG x3 x2.heap.size (.int .i64 D.at_) (.int .i64 D.acc) (.slice (some ⟨x1.heap.size, 0, none⟩) 8 8) (.slice (some ⟨wd.heap.size, 0, none⟩) D.nt D.nt) (.bool D.d) (X := fun x => x = x2.heap.size) rfl
        have FIN : Hid (GoRel w1 D (.pointer (some ⟨x2.heap.size, 0, none⟩)) (((((x3.setCell ⟨x2.heap.size, 0, none⟩ (.int .i64 D.at_)).setCell ⟨x2.heap.size, 1, none⟩ (.int .i64 D.acc)).setCell ⟨x2.heap.size, 2, none⟩ (.slice (some ⟨x1.heap.size, 0, none⟩) 8 8)).setCell ⟨x2.heap.size, 3, none⟩ (.slice (some ⟨wd.heap.size, 0, none⟩) D.nt D.nt)).setCell ⟨x2.heap.size, 4, none⟩ (.bool D.d))) := ⟨x2.heap.size, x1.heap.size, wd.heap.size, rfl, set5_all RG.out _ _ _ _ _, R8.out.mod m1 (by omega), RN.out.mod m1 (by omega), ⟨by omega, by omega, by omega, by omega, by omega, by omega⟩, Mod.blw HBW.out m1 (fun i hi => by omega)⟩
        replace HBW : Hid (Blw w1 (((((x3.setCell ⟨x2.heap.size, 0, none⟩ (.int .i64 D.at_)).setCell ⟨x2.heap.size, 1, none⟩ (.int .i64 D.acc)).setCell ⟨x2.heap.size, 2, none⟩ (.slice (some ⟨x1.heap.size, 0, none⟩) 8 8)).setCell ⟨x2.heap.size, 3, none⟩ (.slice (some ⟨wd.heap.size, 0, none⟩) D.nt D.nt)).setCell ⟨x2.heap.size, 4, none⟩ (.bool D.d))) := Mod.blw HBW.out m1 (fun i hi => by omega)
        clear m1 o8 o13 o19 y0 y1 y2 R8 RN RG
        go_simp
        refine hK.out _ _ (four (HC.out.blw HBW.out)) (fun hB => ?_)
        clear hK K hB
        try simp only [Act.put, List.setIfInBounds_toArray, List.set_cons_zero, List.set_cons_succ]
        clear t0 t1 t2 t3 t4 f0 f1 f2 f3 f4
        refine wpAnyH_done (by kernel_rfl) ?_ _
        refine NoPanic.normal ?_
        go_wp2_with fail
        go_meet
        exact FIN.out
      · go_simp
        have hb : Blw x1 (x1.alloc (.cells #[.int .i64 0, .int .i64 0, .slice none 0 0, .slice none 0 0, .bool false] 61)) := (Blw.refl _).alloc _
        have RG : Hid (Row (x1.alloc (.cells #[.int .i64 0, .int .i64 0, .slice none 0 0, .slice none 0 0, .bool false] 61)) x1.heap.size 5 (fun i => if i = 0 then .int .i64 0 else if i = 1 then .int .i64 0 else if i = 2 then .slice none 0 0 else if i = 3 then .slice none 0 0 else .bool false)) := row5 x1 (.int .i64 0) (.int .i64 0) (.slice none 0 0) (.slice none 0 0) (.bool false) 61
        have HZ19 : Hid (w1.heap.size ≤ x1.heap.size ∧ x1.heap.size < (x1.alloc (.cells #[.int .i64 0, .int .i64 0, .slice none 0 0, .slice none 0 0, .bool false] 61)).heap.size) := ⟨HBW.out.size, by simp⟩
        generalize x1.alloc (.cells #[.int .i64 0, .int .i64 0, .slice none 0 0, .slice none 0 0, .bool false] 61) = x2 at *
        replace HBW : Hid (Blw w1 x2) := HBW.out.trans hb
        replace RN : Hid (Row x2 wd.heap.size D.nt (fun _ => .int .i64 0)) := RN.out.blw hb
        have HY1 : Hid (x1.heap.size ≤ x2.heap.size) := hb.size
        clear hb
        refine hK.out _ _ (four (HC.out.blw HBW.out)) (fun hB => ?_)
        clear hK K hB
        try simp only [Act.put, List.setIfInBounds_toArray, List.set_cons_zero, List.set_cons_succ]
        refine wpAnyH_ready (rs := [8]) (by kernel_rfl) (by simp) ?_
        refine AllReadyH.cons (o := { dst := some 12, op := Op.makeSlice 26 (Operand.const (Value.int IntKind.i64 8)) (Operand.const (Value.int IntKind.i64 8)), type := 26, pos := _, after := #[], guard := none }) rfl (fun K hK => ?_) AllReadyH.nil
        have hmk : (Instr.makeSlice 26 (.int .i64 8) (.int .i64 8)).run Try.prog x2 = .ok (.slice (some ⟨x2.heap.size, 0, none⟩) 8 8) (x2.alloc (.cells (madeCells #[.int .i64 0] 8) 3)) := mkInts 8 (by omega) x2
        go_simp
        clear hmk
        have hb : Blw x2 (x2.alloc (.cells (madeCells #[.int .i64 0] 8) 3)) := (Blw.refl _).alloc _
        have R8 : Hid (Row (x2.alloc (.cells (madeCells #[.int .i64 0] 8) 3)) x2.heap.size 8 (fun _ => .int .i64 0)) := Row.made x2 (.int .i64 0) 8 3
        have HZ8 : Hid (w1.heap.size ≤ x2.heap.size ∧ x2.heap.size < (x2.alloc (.cells (madeCells #[.int .i64 0] 8) 3)).heap.size) := ⟨HBW.out.size, by simp⟩
        generalize x2.alloc (.cells (madeCells #[.int .i64 0] 8) 3) = x3 at *
        replace HBW : Hid (Blw w1 x3) := HBW.out.trans hb
        replace RN : Hid (Row x3 wd.heap.size D.nt (fun _ => .int .i64 0)) := RN.out.blw hb
        replace RG : Hid (Row x3 x1.heap.size 5 (fun i => if i = 0 then .int .i64 0 else if i = 1 then .int .i64 0 else if i = 2 then .slice none 0 0 else if i = 3 then .slice none 0 0 else .bool false)) := RG.out.blw hb
        have HY2 : Hid (x2.heap.size ≤ x3.heap.size) := hb.size
        clear hb
        refine hK.out _ _ (four (HC.out.blw HBW.out)) (fun hB => ?_)
        clear hK K hB
        try simp only [Act.put, List.setIfInBounds_toArray, List.set_cons_zero, List.set_cons_succ]
        refine wpAnyH_take (i := 18) (oi := { dst := some 22, op := Op.build 61 #[(0, Operand.tmp 7), (1, Operand.tmp 11), (2, Operand.tmp 12), (3, Operand.tmp 17), (4, Operand.tmp 21)], type := 61, pos := _, after := #[{ on := 3, ground := Ground.data }, { on := 7, ground := Ground.data }, { on := 8, ground := Ground.data }, { on := 13, ground := Ground.data }, { on := 17, ground := Ground.data }], guard := none }) (v := (.agg #[.int .i64 D.at_, .int .i64 D.acc, .slice (some ⟨x2.heap.size, 0, none⟩) 8 8, .slice (some ⟨wd.heap.size, 0, none⟩) D.nt D.nt, .bool D.d])) rfl (by kernel_rfl) (by kernel_rfl) (by kernel_rfl) (fun _ _ _ h => h) (Or.inl ⟨by rfl, fun w' hS => by (try dsimp only at hS); go_simp⟩) (four (HC.out.blw HBW.out)) ?_
        simp only [Act.put, List.setIfInBounds_toArray, List.set_cons_zero, List.set_cons_succ]
        refine wpAnyH_ready (rs := [20]) (by kernel_rfl) (by simp) ?_
        refine AllReadyH.cons (o := { dst := none, op := Op.store 61 (Operand.tmp 3) (Operand.tmp 22), type := 0, pos := _, after := #[{ on := 19, ground := Ground.data }, { on := 18, ground := Ground.data }, { on := 0, ground := Ground.phase }, { on := 1, ground := Ground.phase }, { on := 2, ground := Ground.phase }, { on := 3, ground := Ground.phase }, { on := 4, ground := Ground.phase }, { on := 5, ground := Ground.phase }, { on := 6, ground := Ground.phase }, { on := 7, ground := Ground.phase }, { on := 8, ground := Ground.phase }, { on := 9, ground := Ground.phase }, { on := 10, ground := Ground.phase }, { on := 11, ground := Ground.phase }, { on := 12, ground := Ground.phase }, { on := 13, ground := Ground.phase }, { on := 14, ground := Ground.phase }, { on := 15, ground := Ground.phase }, { on := 16, ground := Ground.phase }, { on := 17, ground := Ground.phase }, { on := 18, ground := Ground.phase }, { on := 19, ground := Ground.phase }], guard := none }) rfl (fun K hK => ?_) AllReadyH.nil
        obtain ⟨t0, t1, t2, t3, t4⟩ := get5 RG.out
        have f0 := RG.out.frozen 0
        have f1 := RG.out.frozen 1
        have f2 := RG.out.frozen 2
        have f3 := RG.out.frozen 3
        have f4 := RG.out.frozen 4
        have o8 := HZ8.out
        have o13 := HZ13.out
        have o19 := HZ19.out
        have y0 := HY0.out
        have y1 := HY1.out
        have y2 := HY2.out
        have m1 := set5_modG x3 x1.heap.size (.int .i64 D.at_) (.int .i64 D.acc) (.slice (some ⟨x2.heap.size, 0, none⟩) 8 8) (.slice (some ⟨wd.heap.size, 0, none⟩) D.nt D.nt) (.bool D.d) (X := fun x => x = x1.heap.size) rfl
        have FIN : Hid (GoRel w1 D (.pointer (some ⟨x1.heap.size, 0, none⟩)) (((((x3.setCell ⟨x1.heap.size, 0, none⟩ (.int .i64 D.at_)).setCell ⟨x1.heap.size, 1, none⟩ (.int .i64 D.acc)).setCell ⟨x1.heap.size, 2, none⟩ (.slice (some ⟨x2.heap.size, 0, none⟩) 8 8)).setCell ⟨x1.heap.size, 3, none⟩ (.slice (some ⟨wd.heap.size, 0, none⟩) D.nt D.nt)).setCell ⟨x1.heap.size, 4, none⟩ (.bool D.d))) := ⟨x1.heap.size, x2.heap.size, wd.heap.size, rfl, set5_all RG.out _ _ _ _ _, R8.out.mod m1 (by omega), RN.out.mod m1 (by omega), ⟨by omega, by omega, by omega, by omega, by omega, by omega⟩, Mod.blw HBW.out m1 (fun i hi => by omega)⟩
        replace HBW : Hid (Blw w1 (((((x3.setCell ⟨x1.heap.size, 0, none⟩ (.int .i64 D.at_)).setCell ⟨x1.heap.size, 1, none⟩ (.int .i64 D.acc)).setCell ⟨x1.heap.size, 2, none⟩ (.slice (some ⟨x2.heap.size, 0, none⟩) 8 8)).setCell ⟨x1.heap.size, 3, none⟩ (.slice (some ⟨wd.heap.size, 0, none⟩) D.nt D.nt)).setCell ⟨x1.heap.size, 4, none⟩ (.bool D.d))) := Mod.blw HBW.out m1 (fun i hi => by omega)
        clear m1 o8 o13 o19 y0 y1 y2 R8 RN RG
        go_simp
        refine hK.out _ _ (four (HC.out.blw HBW.out)) (fun hB => ?_)
        clear hK K hB
        try simp only [Act.put, List.setIfInBounds_toArray, List.set_cons_zero, List.set_cons_succ]
        clear t0 t1 t2 t3 t4 f0 f1 f2 f3 f4
        refine wpAnyH_done (by kernel_rfl) ?_ _
        refine NoPanic.normal ?_
        go_wp2_with fail
        go_meet
        exact FIN.out
    · go_simp
      have hb : Blw wd (wd.alloc (.cells #[.int .i64 0, .int .i64 0, .slice none 0 0, .slice none 0 0, .bool false] 61)) := (Blw.refl _).alloc _
      have RG : Hid (Row (wd.alloc (.cells #[.int .i64 0, .int .i64 0, .slice none 0 0, .slice none 0 0, .bool false] 61)) wd.heap.size 5 (fun i => if i = 0 then .int .i64 0 else if i = 1 then .int .i64 0 else if i = 2 then .slice none 0 0 else if i = 3 then .slice none 0 0 else .bool false)) := row5 wd (.int .i64 0) (.int .i64 0) (.slice none 0 0) (.slice none 0 0) (.bool false) 61
      have HZ19 : Hid (w1.heap.size ≤ wd.heap.size ∧ wd.heap.size < (wd.alloc (.cells #[.int .i64 0, .int .i64 0, .slice none 0 0, .slice none 0 0, .bool false] 61)).heap.size) := ⟨HBW.out.size, by simp⟩
      generalize wd.alloc (.cells #[.int .i64 0, .int .i64 0, .slice none 0 0, .slice none 0 0, .bool false] 61) = x1 at *
      replace HBW : Hid (Blw w1 x1) := HBW.out.trans hb
      have HY0 : Hid (wd.heap.size ≤ x1.heap.size) := hb.size
      clear hb
      refine hK.out _ _ (four (HC.out.blw HBW.out)) (fun hB => ?_)
      clear hK K hB
      try simp only [Act.put, List.setIfInBounds_toArray, List.set_cons_zero, List.set_cons_succ]
      refine wpAnyH_ready (rs := [8, 13]) (by kernel_rfl) (by simp) ?_
      refine AllReadyH.cons (o := { dst := some 12, op := Op.makeSlice 26 (Operand.const (Value.int IntKind.i64 8)) (Operand.const (Value.int IntKind.i64 8)), type := 26, pos := _, after := #[], guard := none }) rfl (fun K hK => ?_) (AllReadyH.cons (o := { dst := some 17, op := Op.makeSlice 26 (Operand.tmp 16) (Operand.tmp 16), type := 26, pos := _, after := #[{ on := 12, ground := Ground.data }, { on := 12, ground := Ground.data }], guard := none }) rfl (fun K hK => ?_) AllReadyH.nil)
      · have hmk : (Instr.makeSlice 26 (.int .i64 8) (.int .i64 8)).run Try.prog x1 = .ok (.slice (some ⟨x1.heap.size, 0, none⟩) 8 8) (x1.alloc (.cells (madeCells #[.int .i64 0] 8) 3)) := mkInts 8 (by omega) x1
        go_simp
        clear hmk
        have hb : Blw x1 (x1.alloc (.cells (madeCells #[.int .i64 0] 8) 3)) := (Blw.refl _).alloc _
        have R8 : Hid (Row (x1.alloc (.cells (madeCells #[.int .i64 0] 8) 3)) x1.heap.size 8 (fun _ => .int .i64 0)) := Row.made x1 (.int .i64 0) 8 3
        have HZ8 : Hid (w1.heap.size ≤ x1.heap.size ∧ x1.heap.size < (x1.alloc (.cells (madeCells #[.int .i64 0] 8) 3)).heap.size) := ⟨HBW.out.size, by simp⟩
        generalize x1.alloc (.cells (madeCells #[.int .i64 0] 8) 3) = x2 at *
        replace HBW : Hid (Blw w1 x2) := HBW.out.trans hb
        replace RG : Hid (Row x2 wd.heap.size 5 (fun i => if i = 0 then .int .i64 0 else if i = 1 then .int .i64 0 else if i = 2 then .slice none 0 0 else if i = 3 then .slice none 0 0 else .bool false)) := RG.out.blw hb
        have HY1 : Hid (x1.heap.size ≤ x2.heap.size) := hb.size
        clear hb
        refine hK.out _ _ (four (HC.out.blw HBW.out)) (fun hB => ?_)
        clear hK K hB
        try simp only [Act.put, List.setIfInBounds_toArray, List.set_cons_zero, List.set_cons_succ]
        refine wpAnyH_ready (rs := [13]) (by kernel_rfl) (by simp) ?_
        refine AllReadyH.cons (o := { dst := some 17, op := Op.makeSlice 26 (Operand.tmp 16) (Operand.tmp 16), type := 26, pos := _, after := #[{ on := 12, ground := Ground.data }, { on := 12, ground := Ground.data }], guard := none }) rfl (fun K hK => ?_) AllReadyH.nil
        have hmk := mkInts D.nt (by omega) x2
        go_simp
        clear hmk
        have hb : Blw x2 (x2.alloc (.cells (madeCells #[.int .i64 0] D.nt) 3)) := (Blw.refl _).alloc _
        have RN : Hid (Row (x2.alloc (.cells (madeCells #[.int .i64 0] D.nt) 3)) x2.heap.size D.nt (fun _ => .int .i64 0)) := Row.made x2 (.int .i64 0) D.nt 3
        have HZ13 : Hid (w1.heap.size ≤ x2.heap.size ∧ x2.heap.size < (x2.alloc (.cells (madeCells #[.int .i64 0] D.nt) 3)).heap.size) := ⟨HBW.out.size, by simp⟩
        generalize x2.alloc (.cells (madeCells #[.int .i64 0] D.nt) 3) = x3 at *
        replace HBW : Hid (Blw w1 x3) := HBW.out.trans hb
        replace RG : Hid (Row x3 wd.heap.size 5 (fun i => if i = 0 then .int .i64 0 else if i = 1 then .int .i64 0 else if i = 2 then .slice none 0 0 else if i = 3 then .slice none 0 0 else .bool false)) := RG.out.blw hb
        replace R8 : Hid (Row x3 x1.heap.size 8 (fun _ => .int .i64 0)) := R8.out.blw hb
        have HY2 : Hid (x2.heap.size ≤ x3.heap.size) := hb.size
        clear hb
        refine hK.out _ _ (four (HC.out.blw HBW.out)) (fun hB => ?_)
        clear hK K hB
        try simp only [Act.put, List.setIfInBounds_toArray, List.set_cons_zero, List.set_cons_succ]
        refine wpAnyH_take (i := 18) (oi := { dst := some 22, op := Op.build 61 #[(0, Operand.tmp 7), (1, Operand.tmp 11), (2, Operand.tmp 12), (3, Operand.tmp 17), (4, Operand.tmp 21)], type := 61, pos := _, after := #[{ on := 3, ground := Ground.data }, { on := 7, ground := Ground.data }, { on := 8, ground := Ground.data }, { on := 13, ground := Ground.data }, { on := 17, ground := Ground.data }], guard := none }) (v := (.agg #[.int .i64 D.at_, .int .i64 D.acc, .slice (some ⟨x1.heap.size, 0, none⟩) 8 8, .slice (some ⟨x2.heap.size, 0, none⟩) D.nt D.nt, .bool D.d])) rfl (by kernel_rfl) (by kernel_rfl) (by kernel_rfl) (fun _ _ _ h => h) (Or.inl ⟨by rfl, fun w' hS => by (try dsimp only at hS); go_simp⟩) (four (HC.out.blw HBW.out)) ?_
        simp only [Act.put, List.setIfInBounds_toArray, List.set_cons_zero, List.set_cons_succ]
        refine wpAnyH_ready (rs := [20]) (by kernel_rfl) (by simp) ?_
        refine AllReadyH.cons (o := { dst := none, op := Op.store 61 (Operand.tmp 3) (Operand.tmp 22), type := 0, pos := _, after := #[{ on := 19, ground := Ground.data }, { on := 18, ground := Ground.data }, { on := 0, ground := Ground.phase }, { on := 1, ground := Ground.phase }, { on := 2, ground := Ground.phase }, { on := 3, ground := Ground.phase }, { on := 4, ground := Ground.phase }, { on := 5, ground := Ground.phase }, { on := 6, ground := Ground.phase }, { on := 7, ground := Ground.phase }, { on := 8, ground := Ground.phase }, { on := 9, ground := Ground.phase }, { on := 10, ground := Ground.phase }, { on := 11, ground := Ground.phase }, { on := 12, ground := Ground.phase }, { on := 13, ground := Ground.phase }, { on := 14, ground := Ground.phase }, { on := 15, ground := Ground.phase }, { on := 16, ground := Ground.phase }, { on := 17, ground := Ground.phase }, { on := 18, ground := Ground.phase }, { on := 19, ground := Ground.phase }], guard := none }) rfl (fun K hK => ?_) AllReadyH.nil
        obtain ⟨t0, t1, t2, t3, t4⟩ := get5 RG.out
        have f0 := RG.out.frozen 0
        have f1 := RG.out.frozen 1
        have f2 := RG.out.frozen 2
        have f3 := RG.out.frozen 3
        have f4 := RG.out.frozen 4
        have o8 := HZ8.out
        have o13 := HZ13.out
        have o19 := HZ19.out
        have y0 := HY0.out
        have y1 := HY1.out
        have y2 := HY2.out
        have m1 := set5_modG x3 wd.heap.size (.int .i64 D.at_) (.int .i64 D.acc) (.slice (some ⟨x1.heap.size, 0, none⟩) 8 8) (.slice (some ⟨x2.heap.size, 0, none⟩) D.nt D.nt) (.bool D.d) (X := fun x => x = wd.heap.size) rfl
        have FIN : Hid (GoRel w1 D (.pointer (some ⟨wd.heap.size, 0, none⟩)) (((((x3.setCell ⟨wd.heap.size, 0, none⟩ (.int .i64 D.at_)).setCell ⟨wd.heap.size, 1, none⟩ (.int .i64 D.acc)).setCell ⟨wd.heap.size, 2, none⟩ (.slice (some ⟨x1.heap.size, 0, none⟩) 8 8)).setCell ⟨wd.heap.size, 3, none⟩ (.slice (some ⟨x2.heap.size, 0, none⟩) D.nt D.nt)).setCell ⟨wd.heap.size, 4, none⟩ (.bool D.d))) := ⟨wd.heap.size, x1.heap.size, x2.heap.size, rfl, set5_all RG.out _ _ _ _ _, R8.out.mod m1 (by omega), RN.out.mod m1 (by omega), ⟨by omega, by omega, by omega, by omega, by omega, by omega⟩, Mod.blw HBW.out m1 (fun i hi => by omega)⟩
        replace HBW : Hid (Blw w1 (((((x3.setCell ⟨wd.heap.size, 0, none⟩ (.int .i64 D.at_)).setCell ⟨wd.heap.size, 1, none⟩ (.int .i64 D.acc)).setCell ⟨wd.heap.size, 2, none⟩ (.slice (some ⟨x1.heap.size, 0, none⟩) 8 8)).setCell ⟨wd.heap.size, 3, none⟩ (.slice (some ⟨x2.heap.size, 0, none⟩) D.nt D.nt)).setCell ⟨wd.heap.size, 4, none⟩ (.bool D.d))) := Mod.blw HBW.out m1 (fun i hi => by omega)
        clear m1 o8 o13 o19 y0 y1 y2 R8 RN RG
        go_simp
        refine hK.out _ _ (four (HC.out.blw HBW.out)) (fun hB => ?_)
        clear hK K hB
        try simp only [Act.put, List.setIfInBounds_toArray, List.set_cons_zero, List.set_cons_succ]
        clear t0 t1 t2 t3 t4 f0 f1 f2 f3 f4
        refine wpAnyH_done (by kernel_rfl) ?_ _
        refine NoPanic.normal ?_
        go_wp2_with fail
        go_meet
        exact FIN.out
      · have hmk := mkInts D.nt (by omega) x1
        go_simp
        clear hmk
        have hb : Blw x1 (x1.alloc (.cells (madeCells #[.int .i64 0] D.nt) 3)) := (Blw.refl _).alloc _
        have RN : Hid (Row (x1.alloc (.cells (madeCells #[.int .i64 0] D.nt) 3)) x1.heap.size D.nt (fun _ => .int .i64 0)) := Row.made x1 (.int .i64 0) D.nt 3
        have HZ13 : Hid (w1.heap.size ≤ x1.heap.size ∧ x1.heap.size < (x1.alloc (.cells (madeCells #[.int .i64 0] D.nt) 3)).heap.size) := ⟨HBW.out.size, by simp⟩
        generalize x1.alloc (.cells (madeCells #[.int .i64 0] D.nt) 3) = x2 at *
        replace HBW : Hid (Blw w1 x2) := HBW.out.trans hb
        replace RG : Hid (Row x2 wd.heap.size 5 (fun i => if i = 0 then .int .i64 0 else if i = 1 then .int .i64 0 else if i = 2 then .slice none 0 0 else if i = 3 then .slice none 0 0 else .bool false)) := RG.out.blw hb
        have HY1 : Hid (x1.heap.size ≤ x2.heap.size) := hb.size
        clear hb
        refine hK.out _ _ (four (HC.out.blw HBW.out)) (fun hB => ?_)
        clear hK K hB
        try simp only [Act.put, List.setIfInBounds_toArray, List.set_cons_zero, List.set_cons_succ]
        refine wpAnyH_ready (rs := [8]) (by kernel_rfl) (by simp) ?_
        refine AllReadyH.cons (o := { dst := some 12, op := Op.makeSlice 26 (Operand.const (Value.int IntKind.i64 8)) (Operand.const (Value.int IntKind.i64 8)), type := 26, pos := _, after := #[], guard := none }) rfl (fun K hK => ?_) AllReadyH.nil
        have hmk : (Instr.makeSlice 26 (.int .i64 8) (.int .i64 8)).run Try.prog x2 = .ok (.slice (some ⟨x2.heap.size, 0, none⟩) 8 8) (x2.alloc (.cells (madeCells #[.int .i64 0] 8) 3)) := mkInts 8 (by omega) x2
        go_simp
        clear hmk
        have hb : Blw x2 (x2.alloc (.cells (madeCells #[.int .i64 0] 8) 3)) := (Blw.refl _).alloc _
        have R8 : Hid (Row (x2.alloc (.cells (madeCells #[.int .i64 0] 8) 3)) x2.heap.size 8 (fun _ => .int .i64 0)) := Row.made x2 (.int .i64 0) 8 3
        have HZ8 : Hid (w1.heap.size ≤ x2.heap.size ∧ x2.heap.size < (x2.alloc (.cells (madeCells #[.int .i64 0] 8) 3)).heap.size) := ⟨HBW.out.size, by simp⟩
        generalize x2.alloc (.cells (madeCells #[.int .i64 0] 8) 3) = x3 at *
        replace HBW : Hid (Blw w1 x3) := HBW.out.trans hb
        replace RG : Hid (Row x3 wd.heap.size 5 (fun i => if i = 0 then .int .i64 0 else if i = 1 then .int .i64 0 else if i = 2 then .slice none 0 0 else if i = 3 then .slice none 0 0 else .bool false)) := RG.out.blw hb
        replace RN : Hid (Row x3 x1.heap.size D.nt (fun _ => .int .i64 0)) := RN.out.blw hb
        have HY2 : Hid (x2.heap.size ≤ x3.heap.size) := hb.size
        clear hb
        refine hK.out _ _ (four (HC.out.blw HBW.out)) (fun hB => ?_)
        clear hK K hB
        try simp only [Act.put, List.setIfInBounds_toArray, List.set_cons_zero, List.set_cons_succ]
        refine wpAnyH_take (i := 18) (oi := { dst := some 22, op := Op.build 61 #[(0, Operand.tmp 7), (1, Operand.tmp 11), (2, Operand.tmp 12), (3, Operand.tmp 17), (4, Operand.tmp 21)], type := 61, pos := _, after := #[{ on := 3, ground := Ground.data }, { on := 7, ground := Ground.data }, { on := 8, ground := Ground.data }, { on := 13, ground := Ground.data }, { on := 17, ground := Ground.data }], guard := none }) (v := (.agg #[.int .i64 D.at_, .int .i64 D.acc, .slice (some ⟨x2.heap.size, 0, none⟩) 8 8, .slice (some ⟨x1.heap.size, 0, none⟩) D.nt D.nt, .bool D.d])) rfl (by kernel_rfl) (by kernel_rfl) (by kernel_rfl) (fun _ _ _ h => h) (Or.inl ⟨by rfl, fun w' hS => by (try dsimp only at hS); go_simp⟩) (four (HC.out.blw HBW.out)) ?_
        simp only [Act.put, List.setIfInBounds_toArray, List.set_cons_zero, List.set_cons_succ]
        refine wpAnyH_ready (rs := [20]) (by kernel_rfl) (by simp) ?_
        refine AllReadyH.cons (o := { dst := none, op := Op.store 61 (Operand.tmp 3) (Operand.tmp 22), type := 0, pos := _, after := #[{ on := 19, ground := Ground.data }, { on := 18, ground := Ground.data }, { on := 0, ground := Ground.phase }, { on := 1, ground := Ground.phase }, { on := 2, ground := Ground.phase }, { on := 3, ground := Ground.phase }, { on := 4, ground := Ground.phase }, { on := 5, ground := Ground.phase }, { on := 6, ground := Ground.phase }, { on := 7, ground := Ground.phase }, { on := 8, ground := Ground.phase }, { on := 9, ground := Ground.phase }, { on := 10, ground := Ground.phase }, { on := 11, ground := Ground.phase }, { on := 12, ground := Ground.phase }, { on := 13, ground := Ground.phase }, { on := 14, ground := Ground.phase }, { on := 15, ground := Ground.phase }, { on := 16, ground := Ground.phase }, { on := 17, ground := Ground.phase }, { on := 18, ground := Ground.phase }, { on := 19, ground := Ground.phase }], guard := none }) rfl (fun K hK => ?_) AllReadyH.nil
        obtain ⟨t0, t1, t2, t3, t4⟩ := get5 RG.out
        have f0 := RG.out.frozen 0
        have f1 := RG.out.frozen 1
        have f2 := RG.out.frozen 2
        have f3 := RG.out.frozen 3
        have f4 := RG.out.frozen 4
        have o8 := HZ8.out
        have o13 := HZ13.out
        have o19 := HZ19.out
        have y0 := HY0.out
        have y1 := HY1.out
        have y2 := HY2.out
        have m1 := set5_modG x3 wd.heap.size (.int .i64 D.at_) (.int .i64 D.acc) (.slice (some ⟨x2.heap.size, 0, none⟩) 8 8) (.slice (some ⟨x1.heap.size, 0, none⟩) D.nt D.nt) (.bool D.d) (X := fun x => x = wd.heap.size) rfl
        have FIN : Hid (GoRel w1 D (.pointer (some ⟨wd.heap.size, 0, none⟩)) (((((x3.setCell ⟨wd.heap.size, 0, none⟩ (.int .i64 D.at_)).setCell ⟨wd.heap.size, 1, none⟩ (.int .i64 D.acc)).setCell ⟨wd.heap.size, 2, none⟩ (.slice (some ⟨x2.heap.size, 0, none⟩) 8 8)).setCell ⟨wd.heap.size, 3, none⟩ (.slice (some ⟨x1.heap.size, 0, none⟩) D.nt D.nt)).setCell ⟨wd.heap.size, 4, none⟩ (.bool D.d))) := ⟨wd.heap.size, x2.heap.size, x1.heap.size, rfl, set5_all RG.out _ _ _ _ _, R8.out.mod m1 (by omega), RN.out.mod m1 (by omega), ⟨by omega, by omega, by omega, by omega, by omega, by omega⟩, Mod.blw HBW.out m1 (fun i hi => by omega)⟩
        replace HBW : Hid (Blw w1 (((((x3.setCell ⟨wd.heap.size, 0, none⟩ (.int .i64 D.at_)).setCell ⟨wd.heap.size, 1, none⟩ (.int .i64 D.acc)).setCell ⟨wd.heap.size, 2, none⟩ (.slice (some ⟨x2.heap.size, 0, none⟩) 8 8)).setCell ⟨wd.heap.size, 3, none⟩ (.slice (some ⟨x1.heap.size, 0, none⟩) D.nt D.nt)).setCell ⟨wd.heap.size, 4, none⟩ (.bool D.d))) := Mod.blw HBW.out m1 (fun i hi => by omega)
        clear m1 o8 o13 o19 y0 y1 y2 R8 RN RG
        go_simp
        refine hK.out _ _ (four (HC.out.blw HBW.out)) (fun hB => ?_)
        clear hK K hB
        try simp only [Act.put, List.setIfInBounds_toArray, List.set_cons_zero, List.set_cons_succ]
        clear t0 t1 t2 t3 t4 f0 f1 f2 f3 f4
        refine wpAnyH_done (by kernel_rfl) ?_ _
        refine NoPanic.normal ?_
        go_wp2_with fail
        go_meet
        exact FIN.out
  case rest =>
  obtain ⟨zg, z1, z2, rfl, hgr, hr1, hr2, hd, hb⟩ := hcut
  have HGR : Hid (Row wc zg 5 (fun i => if i = 0 then .int .i64 D.at_ else if i = 1 then .int .i64 D.acc else if i = 2 then .slice (some ⟨z1, 0, none⟩) 8 8 else if i = 3 then .slice (some ⟨z2, 0, none⟩) D.nt D.nt else .bool D.d)) := hgr
  have HE0 : Hid (Row wc.drew z1 8 (fun _ => .int .i64 0)) := hr1.blw (Blw.refl _).drew
  have HN0 : Hid (Row wc.drew z2 D.nt (fun _ => .int .i64 0)) := hr2.blw (Blw.refl _).drew
  have HD : Hid (w1.heap.size ≤ zg ∧ w1.heap.size ≤ z1 ∧ w1.heap.size ≤ z2 ∧ zg ≠ z1 ∧ zg ≠ z2 ∧ z1 ≠ z2) := hd
  have HBW : Hid (Blw w1 wc) := hb
  clear hgr hr1 hr2 hd hb
  go_upto_region 2 with fail
  replace HGR : Hid (Row wc.drew zg 5 (fun i => if i = 0 then .int .i64 D.at_ else if i = 1 then .int .i64 D.acc else if i = 2 then .slice (some ⟨z1, 0, none⟩) 8 8 else if i = 3 then .slice (some ⟨z2, 0, none⟩) D.nt D.nt else .bool D.d)) := HGR.out.blw (Blw.refl _).drew
  replace HBW : Hid (Blw w1 wc.drew) := HBW.out.drew
  refine wp_region_noPanic ?_
  refine wp_region_held_drew (S := fun w' => w'.cell? ⟨zg, 2, none⟩ = some (.slice (some ⟨z1, 0, none⟩) 8 8)) (by kernel_rfl) (get5 HGR.out).2.2.1 (fun hB => ?_)
  clear hB
  refine wpAnyH_take (i := 0) (oi := { dst := some 23, op := Op.fieldAddr 61 (Operand.tmp 3) 2, type := 0, pos := _, after := #[], guard := none }) (v := (.pointer (some ⟨zg, 2, none⟩))) rfl (by kernel_rfl) (by kernel_rfl) (by kernel_rfl) (fun _ _ _ h => h) (Or.inl ⟨by rfl, fun w' hS => by (try dsimp only at hS); go_simp⟩) (get5 HGR.out).2.2.1 ?_
  simp only [Act.put, List.setIfInBounds_toArray, List.set_cons_zero, List.set_cons_succ]
  refine wpAnyH_take (i := 2) (oi := { dst := some 25, op := Op.move (Operand.tmp 0), type := 209, pos := _, after := #[], guard := none }) (v := (.pointer (some ⟨z, 1, none⟩))) rfl (by kernel_rfl) (by kernel_rfl) (by kernel_rfl) (fun _ _ _ h => h) (Or.inl ⟨by rfl, fun w' hS => by (try dsimp only at hS); go_simp⟩) (get5 HGR.out).2.2.1 ?_
  simp only [Act.put, List.setIfInBounds_toArray, List.set_cons_zero, List.set_cons_succ]
  refine wpAnyH_take (i := 1) (oi := { dst := some 24, op := Op.load 26 (Operand.tmp 23), type := 26, pos := _, after := #[{ on := 0, ground := Ground.data }], guard := none }) (v := (.slice (some ⟨z1, 0, none⟩) 8 8)) rfl (by kernel_rfl) (by kernel_rfl) (by kernel_rfl) (fun _ _ _ h => h) (Or.inl ⟨by rfl, fun w' hS => by (try dsimp only at hS); go_simp⟩) (get5 HGR.out).2.2.1 ?_
  simp only [Act.put, List.setIfInBounds_toArray, List.set_cons_zero, List.set_cons_succ]
  refine wpAnyH_take (i := 3) (oi := { dst := some 26, op := Op.nilCheck (Operand.tmp 25), type := 0, pos := _, after := #[{ on := 2, ground := Ground.data }], guard := none }) (v := (.pointer (some ⟨z, 1, none⟩))) rfl (by kernel_rfl) (by kernel_rfl) (by kernel_rfl) (fun _ _ _ h => h) (Or.inl ⟨by rfl, fun w' hS => by (try dsimp only at hS); go_simp⟩) (get5 HGR.out).2.2.1 ?_
  simp only [Act.put, List.setIfInBounds_toArray, List.set_cons_zero, List.set_cons_succ]
  refine wpAnyH_take (i := 4) (oi := { dst := some 27, op := Op.fieldAddr 148 (Operand.tmp 26) 2, type := 0, pos := _, after := #[{ on := 3, ground := Ground.data }], guard := none }) (v := (.pointer (some ⟨z, 3, none⟩))) rfl (by kernel_rfl) (by kernel_rfl) (by kernel_rfl) (fun _ _ _ h => h) (Or.inl ⟨by rfl, fun w' hS => by (try dsimp only at hS); go_simp⟩) (get5 HGR.out).2.2.1 ?_
  simp only [Act.put, List.setIfInBounds_toArray, List.set_cons_zero, List.set_cons_succ]
  refine wpAnyH_take (i := 5) (oi := { dst := some 28, op := Op.slice 145 (Operand.tmp 27) none none none, type := 26, pos := _, after := #[{ on := 4, ground := Ground.data }], guard := none }) (v := (.slice (some ⟨z, 3, none⟩) 8 8)) rfl (by kernel_rfl) (by kernel_rfl) (by kernel_rfl) (fun _ _ _ h => h) (Or.inl ⟨by rfl, fun w' hS => by (try dsimp only at hS); go_simp⟩) (get5 HGR.out).2.2.1 ?_
  simp only [Act.put, List.setIfInBounds_toArray, List.set_cons_zero, List.set_cons_succ]
  refine wpAnyH_ready (rs := [6]) (by kernel_rfl) (by simp) ?_
  refine AllReadyH.cons (o := { dst := some 29, op := Op.call { callee := Callee.builtin Builtin.copy, args := #[Operand.tmp 24, Operand.tmp 28], argTypes := #[26, 26] }, type := 3, pos := _, after := #[{ on := 1, ground := Ground.data }, { on := 5, ground := Ground.data }], guard := none }) rfl (fun K hK => ?_) AllReadyH.nil
  obtain ⟨x4, hrun, hrow, hmod, hsz⟩ := copy_front (dc := 8) (c := 8) (held_ints (HC.out.blw HBW.out)).1 (by omega) HE0.out
  refine step_copy_run rfl (.tmp 24) (.tmp 28) 26 26 rfl _ _ rfl rfl _ _ hrun ?_
  clear hrun
  have hd := HD.out
  replace HGR : Hid (Row x4 zg 5 (fun i => if i = 0 then .int .i64 D.at_ else if i = 1 then .int .i64 D.acc else if i = 2 then .slice (some ⟨z1, 0, none⟩) 8 8 else if i = 3 then .slice (some ⟨z2, 0, none⟩) D.nt D.nt else .bool D.d)) := HGR.out.mod hmod (by omega)
  replace HBW : Hid (Blw w1 x4) := Mod.blw HBW.out hmod (fun i hi => by omega)
  refine hK.out _ _ (get5 HGR.out).2.2.1 (fun hB => ?_)
  clear hK K hB
  try simp only [Act.put, List.setIfInBounds_toArray, List.set_cons_zero, List.set_cons_succ]
  refine wpAnyH_done (by kernel_rfl) ?_ _
  refine NoPanic.normal ?_
  have HR1 : Hid (Row x4.drew z1 8 (fun i => .int .i64 (D.c i))) := hrow.blw (Blw.refl _).drew
  replace HN0 : Hid (Row x4.drew z2 D.nt (fun _ => .int .i64 0)) := (HN0.out.mod hmod (by omega)).blw (Blw.refl _).drew
  clear hrow hmod hsz hd HE0
  go_upto_region 3 with fail
  replace HGR : Hid (Row x4.drew zg 5 (fun i => if i = 0 then .int .i64 D.at_ else if i = 1 then .int .i64 D.acc else if i = 2 then .slice (some ⟨z1, 0, none⟩) 8 8 else if i = 3 then .slice (some ⟨z2, 0, none⟩) D.nt D.nt else .bool D.d)) := HGR.out.blw (Blw.refl _).drew
  replace HBW : Hid (Blw w1 x4.drew) := HBW.out.drew
  refine wp_region_noPanic ?_
  refine wp_region_held_drew (S := fun w' => w'.cell? ⟨zg, 3, none⟩ = some (.slice (some ⟨z2, 0, none⟩) D.nt D.nt)) (by kernel_rfl) (get5 HGR.out).2.2.2.1 (fun hB => ?_)
  clear hB
  refine wpAnyH_take (i := 0) (oi := { dst := some 30, op := Op.fieldAddr 61 (Operand.tmp 3) 3, type := 0, pos := _, after := #[], guard := none }) (v := (.pointer (some ⟨zg, 3, none⟩))) rfl (by kernel_rfl) (by kernel_rfl) (by kernel_rfl) (fun _ _ _ h => h) (Or.inl ⟨by rfl, fun w' hS => by (try dsimp only at hS); go_simp⟩) (get5 HGR.out).2.2.2.1 ?_
  simp only [Act.put, List.setIfInBounds_toArray, List.set_cons_zero, List.set_cons_succ]
  refine wpAnyH_take (i := 2) (oi := { dst := some 32, op := Op.move (Operand.tmp 0), type := 209, pos := _, after := #[], guard := none }) (v := (.pointer (some ⟨z, 1, none⟩))) rfl (by kernel_rfl) (by kernel_rfl) (by kernel_rfl) (fun _ _ _ h => h) (Or.inl ⟨by rfl, fun w' hS => by (try dsimp only at hS); go_simp⟩) (get5 HGR.out).2.2.2.1 ?_
  simp only [Act.put, List.setIfInBounds_toArray, List.set_cons_zero, List.set_cons_succ]
  refine wpAnyH_take (i := 1) (oi := { dst := some 31, op := Op.load 26 (Operand.tmp 30), type := 26, pos := _, after := #[{ on := 0, ground := Ground.data }], guard := none }) (v := (.slice (some ⟨z2, 0, none⟩) D.nt D.nt)) rfl (by kernel_rfl) (by kernel_rfl) (by kernel_rfl) (fun _ _ _ h => h) (Or.inl ⟨by rfl, fun w' hS => by (try dsimp only at hS); go_simp⟩) (get5 HGR.out).2.2.2.1 ?_
  simp only [Act.put, List.setIfInBounds_toArray, List.set_cons_zero, List.set_cons_succ]
  refine wpAnyH_take (i := 3) (oi := { dst := some 33, op := Op.nilCheck (Operand.tmp 32), type := 0, pos := _, after := #[{ on := 2, ground := Ground.data }], guard := none }) (v := (.pointer (some ⟨z, 1, none⟩))) rfl (by kernel_rfl) (by kernel_rfl) (by kernel_rfl) (fun _ _ _ h => h) (Or.inl ⟨by rfl, fun w' hS => by (try dsimp only at hS); go_simp⟩) (get5 HGR.out).2.2.2.1 ?_
  simp only [Act.put, List.setIfInBounds_toArray, List.set_cons_zero, List.set_cons_succ]
  refine wpAnyH_take (i := 4) (oi := { dst := some 34, op := Op.fieldAddr 148 (Operand.tmp 33) 3, type := 0, pos := _, after := #[{ on := 3, ground := Ground.data }], guard := none }) (v := (.pointer (some ⟨z, 11, none⟩))) rfl (by kernel_rfl) (by kernel_rfl) (by kernel_rfl) (fun _ _ _ h => h) (Or.inl ⟨by rfl, fun w' hS => by (try dsimp only at hS); go_simp⟩) (get5 HGR.out).2.2.2.1 ?_
  simp only [Act.put, List.setIfInBounds_toArray, List.set_cons_zero, List.set_cons_succ]
  refine wpAnyH_take (i := 5) (oi := { dst := some 35, op := Op.slice 146 (Operand.tmp 34) none none none, type := 26, pos := _, after := #[{ on := 4, ground := Ground.data }], guard := none }) (v := (.slice (some ⟨z, 11, none⟩) 20 20)) rfl (by kernel_rfl) (by kernel_rfl) (by kernel_rfl) (fun _ _ _ h => h) (Or.inl ⟨by rfl, fun w' hS => by (try dsimp only at hS); go_simp⟩) (get5 HGR.out).2.2.2.1 ?_
  simp only [Act.put, List.setIfInBounds_toArray, List.set_cons_zero, List.set_cons_succ]
  refine wpAnyH_ready (rs := [6]) (by kernel_rfl) (by simp) ?_
  refine AllReadyH.cons (o := { dst := some 36, op := Op.call { callee := Callee.builtin Builtin.copy, args := #[Operand.tmp 31, Operand.tmp 35], argTypes := #[26, 26] }, type := 3, pos := _, after := #[{ on := 1, ground := Ground.data }, { on := 5, ground := Ground.data }], guard := none }) rfl (fun K hK => ?_) AllReadyH.nil
  obtain ⟨x5, hrun, hrow, hmod, hsz⟩ := copy_front (dc := D.nt) (c := 20) (held_ints (HC.out.blw HBW.out)).2 (by omega) HN0.out
  refine step_copy_run rfl (.tmp 31) (.tmp 35) 26 26 rfl _ _ rfl rfl _ _ hrun ?_
  clear hrun
  have hd := HD.out
  replace HGR : Hid (Row x5 zg 5 (fun i => if i = 0 then .int .i64 D.at_ else if i = 1 then .int .i64 D.acc else if i = 2 then .slice (some ⟨z1, 0, none⟩) 8 8 else if i = 3 then .slice (some ⟨z2, 0, none⟩) D.nt D.nt else .bool D.d)) := HGR.out.mod hmod (by omega)
  replace HBW : Hid (Blw w1 x5) := Mod.blw HBW.out hmod (fun i hi => by omega)
  refine hK.out _ _ (get5 HGR.out).2.2.2.1 (fun hB => ?_)
  clear hK K hB
  try simp only [Act.put, List.setIfInBounds_toArray, List.set_cons_zero, List.set_cons_succ]
  refine wpAnyH_done (by kernel_rfl) ?_ _
  refine NoPanic.normal ?_
  have HF1 : Hid (Row x5 z1 8 (fun i => .int .i64 (D.c i))) := HR1.out.mod hmod (by omega)
  have HF2 : Hid (Row x5 z2 D.nt (fun i => .int .i64 (D.t i))) := hrow.congr (fun i hi => by unfold tz; rw [if_pos hi])
  have HRZ : Hid (Row x5 w.heap.size 5 (fun i => if i = 0 then .int .i64 0 else if i = 1 then .int .i64 0 else if i = 2 then .slice none 0 0 else if i = 3 then .slice none 0 0 else .bool false)) := HR0.out.blw HBW.out
  clear hrow hmod hsz HR1 HN0
  obtain ⟨p0, p1, p2, p3, p4⟩ := get5 HGR.out
  obtain ⟨t0, t1, t2, t3, t4⟩ := get5 HRZ.out
  have f0 := HRZ.out.frozen 0
  have f1 := HRZ.out.frozen 1
  have f2 := HRZ.out.frozen 2
  have f3 := HRZ.out.frozen 3
  have f4 := HRZ.out.frozen 4
  clear HGR HRZ hd
  go_wp2
  refine bodyPost_ret (v := GV.val ⟨some ⟨z1, 0, none⟩, some ⟨z2, 0, none⟩, 8, D.nt⟩ D) (by simp [results, Try.results115, go_sem, t0, t1, t2, t3, t4, HNC.out]) rfl ?_
  have hd := HD.out
  have hs := HSZ.out
  have m1 := set5_modG x5 w.heap.size (.int .i64 D.at_) (.int .i64 D.acc) (.slice (some ⟨z1, 0, none⟩) 8 8) (.slice (some ⟨z2, 0, none⟩) D.nt D.nt) (.bool D.d) (X := fun x => x = w.heap.size) rfl
  have q1 := HF1.out.lt
  have q2 := HF2.out.lt
  have q3 := m1.size
  exact ⟨_, rfl, ⟨rfl, z2, rfl⟩, GOwn.two (by have := HNC.out; omega) (by omega) (by rw [HNC.out]; exact HF1.out.mod m1 (by omega)) (HF2.out.mod m1 (by omega)) ⟨by omega, by omega⟩ ⟨by omega, by omega⟩ (by omega) _ _, Mod.blw (HB1.out.trans HBW.out) m1 (fun i hi => by omega)⟩
end Go.Proofs.Ytbpdopcdhnemfaa
/- RunGuest of the program; its told words fill their memory. -/
namespace Go.Proofs.Ytbpdopcdhnemfaa
open Go.RowKit
set_option linter.unusedSimpArgs false
set_option linter.unusedVariables false
set_option maxRecDepth 10000 in
set_option maxHeartbeats 3200000 in
theorem implRunC_any (ao : Option Addr) (cp n : Nat) (F : Nat → Nat → Int) (v : GV) (D : GD) (k : Int) (X Y : Nat → Prop) (w : World) (hF : KAt 3 X w ao n F) (h : GAt Y w v D) (hY : ∀ b, Y b → b < w.heap.size) :
    Calls Try.prog 38 #[.slice ao n cp, v.val D, .int .i64 k] w fun e w' => ∃ (u : GV) (R : GD) (x : Int) (r : Bool), e = .returned (.tuple #[u.val R, .int .i64 x, .bool r]) ∧ rgOut n F D k R x r ∧ (r = true → R.nt ≤ u.c2 ∧ ∃ z : Nat, u.a2 = some ⟨z, 0, none⟩) ∧ R.small ∧ GOwn (fun x => w.heap.size ≤ x ∧ x < w'.heap.size) w' u R ∧ Blw w w' := by
  have HB : Hid (Blw w ((w.alloc (.cells #[.int .i64 D.at_, .int .i64 D.acc, .slice v.a1 D.nc v.c1, .slice v.a2 D.nt v.c2, .bool D.d] 61)).alloc (.cells #[.int .i64 0, .int .i64 0, .slice none 0 0, .slice none 0 0, .bool false] 61))) := ((Blw.refl _).alloc _).alloc _
  have R0 : Hid (Row ((w.alloc (.cells #[.int .i64 D.at_, .int .i64 D.acc, .slice v.a1 D.nc v.c1, .slice v.a2 D.nt v.c2, .bool D.d] 61)).alloc (.cells #[.int .i64 0, .int .i64 0, .slice none 0 0, .slice none 0 0, .bool false] 61)) w.heap.size 5 (gb v D)) := (row5 w _ _ _ _ _ 61).blw ((Blw.refl _).alloc _)
  have r1 := row5 (w.alloc (.cells #[.int .i64 D.at_, .int .i64 D.acc, .slice v.a1 D.nc v.c1, .slice v.a2 D.nt v.c2, .bool D.d] 61)) (.int .i64 0) (.int .i64 0) (.slice none 0 0) (.slice none 0 0) (.bool false) 61
  rw [World.size_alloc] at r1
  have HZ : Hid (Row ((w.alloc (.cells #[.int .i64 D.at_, .int .i64 D.acc, .slice v.a1 D.nc v.c1, .slice v.a2 D.nt v.c2, .bool D.d] 61)).alloc (.cells #[.int .i64 0, .int .i64 0, .slice none 0 0, .slice none 0 0, .bool false] 61)) (w.heap.size + 1) 5 (fun i => if i = 0 then .int .i64 0 else if i = 1 then .int .i64 0 else if i = 2 then .slice none 0 0 else if i = 3 then .slice none 0 0 else .bool false)) := r1
  have HS1 : Hid (((w.alloc (.cells #[.int .i64 D.at_, .int .i64 D.acc, .slice v.a1 D.nc v.c1, .slice v.a2 D.nt v.c2, .bool D.d] 61)).alloc (.cells #[.int .i64 0, .int .i64 0, .slice none 0 0, .slice none 0 0, .bool false] 61)).heap.size = w.heap.size + 1 + 1) := by show _ = _; simp
  have HW : Hid (GAt Y w v D ∧ KAt 3 X w ao n F) := ⟨h, hF⟩
  have HYY : Hid (∀ b, Y b → b < w.heap.size) := hY
  clear h hF hY r1
  go_enter Try.func38, Try.ntmps38
  go_upto_region 1 with fail
  generalize ((w.alloc (.cells #[.int .i64 D.at_, .int .i64 D.acc, .slice v.a1 D.nc v.c1, .slice v.a2 D.nt v.c2, .bool D.d] 61)).alloc (.cells #[.int .i64 0, .int .i64 0, .slice none 0 0, .slice none 0 0, .bool false] 61)) = w1 at *
  obtain ⟨p0, p1, p2, p3, p4⟩ := get5 R0.out
  go_wp2_with fail
  clear p0 p1 p2 p3 p4
  have hyy : ∀ b, Y b → b < w1.heap.size := fun b hb => Nat.lt_of_lt_of_le (HYY.out b hb) HB.out.size
  refine (runMachine_any ao cp n F v D k X Y _ (HW.out.2.blw HB.out) (HW.out.1.blw HB.out) hyy).mono ?_
  rintro e w2 ⟨⟨zp, su, hok, rfl, hsu⟩ | ⟨hok, rfl⟩, hb⟩
  case inr =>
    have HN : Hid (¬ (progOK n F ∧ D.Good ∧ stepsOK k)) := hok
    have HS3 : Hid (w.heap.size + 1 + 1 ≤ w2.heap.size) := by have := hb.size; have := HS1.out; show _ ≤ _; omega
    replace HZ : Hid (Row w2 (w.heap.size + 1) 5 (fun i => if i = 0 then .int .i64 0 else if i = 1 then .int .i64 0 else if i = 2 then .slice none 0 0 else if i = 3 then .slice none 0 0 else .bool false)) := HZ.out.blw hb
    replace HB : Hid (Blw w w2) := HB.out.trans hb
    clear hok hb R0 HW HYY hyy HS1
    go_upto_region 2 with (first | (refine alloc_big rfl 151 rfl 41 mz zeroM ?_; intro wa RA hba hsa) | (refine store_big rfl 151 _ _ rfl _ 41 mz mz rfl rfl wdM RA (fun i _ => mz_one i) ?_; intro wb RB hmb hsb) | fail)
    have hs3 := HS3.out
    replace HZ : Hid (Row wb (w.heap.size + 1) 5 (fun i => if i = 0 then .int .i64 0 else if i = 1 then .int .i64 0 else if i = 2 then .slice none 0 0 else if i = 3 then .slice none 0 0 else .bool false)) := (HZ.out.blw hba).mod hmb (by omega)
    replace HB : Hid (Blw w wb) := Mod.blw (HB.out.trans hba) hmb (fun i hi => by omega)
    clear RA hba hsa RB hmb hsb hs3 HS3
    obtain ⟨t0, t1, t2, t3, t4⟩ := get5 HZ.out
    have f0 := HZ.out.frozen 0; have f1 := HZ.out.frozen 1; have f2 := HZ.out.frozen 2; have f3 := HZ.out.frozen 3; have f4 := HZ.out.frozen 4
    have m1 := set5_modG wb (w.heap.size + 1) (.int .i64 0) (.int .i64 0) (.slice none 0 0) (.slice none 0 0) (.bool false) (X := fun x => x = w.heap.size + 1) rfl
    have HBF : Hid _ := Mod.blw HB.out m1 (fun i hi => by omega)
    clear m1 HZ HB
    go_wp2
    refine bodyPost_ret (v := .tuple #[GV.val GV.zero GD.zero, .int .i64 0, .bool false]) (by simp [results, Try.results38, go_sem, t0, t1, t2, t3, t4]) rfl ⟨_, _, _, _, rfl, Or.inr ⟨HN.out, rfl, rfl, rfl⟩, (fun e => by cases e), GD.zero_small, GOwn.zero _ _, HBF.out⟩
  have HOK : Hid (progOK n F ∧ D.Good ∧ stepsOK k) := hok
  have HG2 : Hid ((runG n F k.toNat D).Good) := runG_good hok.1 _ hok.2.1
  have HMY : Hid (∃ q, q = manyG n F k.toNat D) := ⟨_, rfl⟩
  have HS3 : Hid (w.heap.size + 1 + 1 ≤ w2.heap.size) := by have := hb.size; have := HS1.out; show _ ≤ _; omega
  replace HZ : Hid (Row w2 (w.heap.size + 1) 5 (fun i => if i = 0 then .int .i64 0 else if i = 1 then .int .i64 0 else if i = 2 then .slice none 0 0 else if i = 3 then .slice none 0 0 else .bool false)) := HZ.out.blw hb
  replace HB : Hid (Blw w w2) := HB.out.trans hb
  clear hok hb hsu R0 HW HYY hyy HS1
  go_upto_region 2 with (first | (refine alloc_big rfl 151 rfl 41 mz zeroM ?_; intro wa RA hba hsa) | (refine store_big rfl 151 _ _ rfl _ 41 (mc (.slice (some ⟨zp, 0, none⟩) n n) (runG n F k.toNat D) su) mz rfl rfl wdM RA (fun i _ => mc1 zp n _ su i) ?_; intro wb RB hmb hsb) | fail)
  have hs3 := HS3.out
  replace HZ : Hid (Row wb (w.heap.size + 1) 5 (fun i => if i = 0 then .int .i64 0 else if i = 1 then .int .i64 0 else if i = 2 then .slice none 0 0 else if i = 3 then .slice none 0 0 else .bool false)) := (HZ.out.blw hba).mod hmb (by omega)
  replace HB : Hid (Blw w wb) := Mod.blw (HB.out.trans hba) hmb (fun i hi => by omega)
  have HCL : Hid (Cells wb w2.heap.size 1 32 (hc (runG n F k.toNat D))) := mc_held RB
  have HZ3 : Hid (w.heap.size + 1 < wb.heap.size) := by have := RB.lt; show _ < _; omega
  clear RA hba hsa RB hmb hsb hs3 HS3
  generalize w2.heap.size = zm at *
  go_wp2_with fail
  refine (giveOut1c_any zm (runG n F k.toNat D) _ HG2.out HCL.out).mono ?_
  rintro e w4 ⟨u', rfl, huc, own, hb4⟩
  have HUC : Hid ((runG n F k.toNat D).nt ≤ u'.c2 ∧ ∃ z : Nat, u'.a2 = some ⟨z, 0, none⟩) := ⟨by omega, huc.2⟩
  clear huc
  have hz3 := HZ3.out
  have hs4 := hb4.size
  obtain ⟨t0, t1, t2, t3, t4⟩ := get5 (HZ.out.blw hb4)
  have hzz := HZ.out.blw hb4
  have f0 := hzz.frozen 0; have f1 := hzz.frozen 1; have f2 := hzz.frozen 2; have f3 := hzz.frozen 3; have f4 := hzz.frozen 4
  generalize hR : runG n F k.toNat D = R at *
  have HRE : Hid (runG n F k.toNat D = R) := hR
  clear hR
  have m1 := set5_modG w4 (w.heap.size + 1) (.int .i64 R.at_) (.int .i64 R.acc) (.slice u'.a1 R.nc u'.c1) (.slice u'.a2 R.nt u'.c2) (.bool R.d) (X := fun x => x = w.heap.size + 1) rfl
  have m2 := m1.size
  have HF : Hid (_ ∧ _) := And.intro ((own.mod m1 (fun b hb => by omega)).mono (Y := fun x => w.heap.size ≤ x ∧ x < _) (fun b hb => ⟨by omega, Nat.lt_of_lt_of_le hb.2 m2⟩)) (Mod.blw (HB.out.trans hb4) m1 (fun i hi => by omega))
  clear m1 m2 hzz own hb4 HZ HB HCL hz3 hs4 HZ3
  go_wp2
  refine bodyPost_ret (v := .tuple #[GV.val u' R, .int .i64 (manyG n F k.toNat D : Int), .bool true]) (by simp [results, Try.results38, go_sem, t0, t1, t2, t3, t4]) rfl ⟨_, R, _, _, rfl, Or.inl ⟨HOK.out, HRE.out.symm, rfl, rfl⟩, (fun _ => HUC.out), HG2.out.small, HF.out.1, HF.out.2⟩
end Go.Proofs.Ytbpdopcdhnemfaa
