/- FreeBlocks: the program's and the model's. -/
import Derived.Test.YtfmmpddknanhbaaTake
import Derived.Test.YtfmmpddknanhbaaSS
namespace Go.Proofs.Ytfmmpddknanhbaa
open Go.RowKit
set_option linter.unusedSimpArgs false
set_option linter.unusedVariables false
def sa : Value → Option Addr
  | .slice a _ _ => a
  | _ => none
def sc : Value → Nat
  | .slice _ _ c => c
  | _ => 0
noncomputable abbrev fbD (B : BD) : SD := ⟨5, fun i => (blocks B.c i).length, fun i => lf (blocks B.c i)⟩
theorem fbD_total (B : BD) : (fbD B).total ≤ 1048576 := by
  have h : ∀ i, (blocks B.c i).length ≤ 16 := fun i => pk_len _ _
  show pre (fun i => (blocks B.c i).length) 5 ≤ _
  simp only [pre]
  have h0 := h 0; have h1 := h 1; have h2 := h 2; have h3 := h 3; have h4 := h 4
  omega
theorem lists_own {X : Nat → Prop} {w : World} {b : Nat} {v : Nat → Value} {L : Nat → List Nat} {n : Nat} (hr : Row w b n v) (hX : X b) (hn : n ≤ 1048576) (hL : ∀ i, i < n → (L i).length ≤ 1048576) (hB : ∀ i, i < n → BufL (fun x => X x ∧ x ≠ b) w (v i) (L i)) (hd : ∀ i j, i < n → j < n → i ≠ j → ∀ x, (v i).ownBlock = some x → ¬ (v j).ownBlock = some x) :
    SSOwn X w (some ⟨b, 0, none⟩) ⟨n, fun i => (L i).length, fun i => lf (L i)⟩ := by
  refine ⟨by show n ≤ _; omega, fun _ => ⟨b, fun i => sa (v i), fun i => sc (v i), fun i x => (v i).ownBlock = some x, rfl, ⟨hr.congr (fun i hi => ?_), fun i hi => ?_, fun i hi x hx => (hB i hi).2 x hx, hd, hX⟩⟩⟩
  · obtain ⟨ao, cap, e, -⟩ := Buf.form (hB i hi)
    rw [e]; rfl
  · have h1 : BufL (fun x => (v i).ownBlock = some x) w (v i) (L i) := ⟨(hB i hi).1, fun g hg => hg⟩
    obtain ⟨ao, cap, e, hI⟩ := BufI.own h1 (by have := hL i hi; omega)
    have e2 : sa (v i) = ao := by rw [e]; rfl
    show IntsOwn _ w (sa (v i)) _ _
    rw [e2]
    exact hI
theorem bl_ss {w wr : World} {zf : Nat} {v : Nat → Value} {L : Nat → List Nat} (h : Bl w wr zf v L) (hL : ∀ i, i < 5 → (L i).length ≤ 1048576) : SSOwn (fun x => w.heap.size ≤ x ∧ x < wr.heap.size) wr (some ⟨zf, 0, none⟩) ⟨5, fun i => (L i).length, fun i => lf (L i)⟩ :=
  lists_own h.row ⟨h.lo, h.row.lt⟩ (by omega) hL (fun i hi => (h.buf i hi).mono (fun x hx => ⟨⟨hx.1, hx.2.1⟩, hx.2.2⟩)) h.disj
set_option maxRecDepth 10000 in
set_option maxHeartbeats 3200000 in
theorem implFreeBlocks_any (b : BV) (B : BD) (Y : Nat → Prop) (w : World) (h : BookAt Y w b B) (hY : ∀ x, Y x → x < w.heap.size) :
    Calls Try.prog 21 #[b.val B] w (GivesS (resS B.Good (fbD B)) w) := by
  have hb0 : Blw w (w.alloc (.cells #[.slice b.a1 B.n b.c1, .slice b.a2 B.k b.c2] 25)) := (Blw.refl _).alloc _
  have HA : Hid (BookAt Y (w.alloc (.cells #[.slice b.a1 B.n b.c1, .slice b.a2 B.k b.c2] 25)) b B) := h.blw hb0
  clear h
  go_enter Try.func21, Try.ntmps21
  go_wp2_with fail
  refine (hold_any b B Y _ HA.out (fun x hx => by have := hY x hx; simp; omega)).mono ?_
  rintro e w1 ⟨h1, hb1⟩
  have HB : Hid (Blw w w1) := hb0.trans hb1
  clear hb0 HA hb1
  rcases h1 with ⟨z, hg, rfl, hrow, hlo⟩ | ⟨hg, rfl⟩
  case inr =>
    have HG : Hid (¬ B.Good) := hg
    clear hg
    go_wp2
    exact bodyPost_ret (v := .tuple #[.slice none 0 0, .bool false]) (by simp [results, Try.results21, go_sem]) rfl (zero_givesS (Or.inr ⟨HG.out, rfl, rfl⟩) HB.out)
  have HG : Hid B.Good := hg
  have HRW : Hid (Row w1 z (16 * 2) (uc B.c B.l)) := hrow
  clear hg hrow hlo
  go_wp2_with fail
  refine (freeBlocks_any z B _ HG.out HRW.out).mono ?_
  rintro e w2 ⟨zf, v, rfl, hBl⟩
  have FIN : Hid (GivesS (resS B.Good (fbD B)) w (.returned (.tuple #[.slice (some ⟨zf, 0, none⟩) 5 5, .bool true])) w2) :=
    ⟨_, 5, fbD B, true, rfl, Or.inl ⟨HG.out, rfl, rfl⟩, fbD_total B, (bl_ss hBl (fun i hi => Nat.le_trans (pk_len _ _) (by omega))).mono (fun x hx => ⟨Nat.le_trans HB.out.size hx.1, hx.2⟩), HB.out.trans hBl.blw⟩
  clear hBl
  go_wp2
  exact bodyPost_ret (v := .tuple #[.slice (some ⟨zf, 0, none⟩) 5 5, .bool true]) (by simp [results, Try.results21, go_sem]) rfl FIN.out
theorem box1_cell (w : World) (u : Value) (t : TypeId) : (w.alloc (.cells #[u] t)).cell? ((⟨w.heap.size, 0, none⟩ : Addr).add 0) = some u :=
  (Row.of_cells (heap_alloc_new w (.cells #[u] t)) (fun _ => u) (fun i hi => by obtain rfl : i = 0 := by simpa using hi
                                                                                rfl)).cell (i := 0) (by simp)
/-- Lists that are gathered in a list. -/
structure Sl (w wr : World) (v : Value) (n : Nat) (A : Nat → Value) (L : Nat → List Nat) : Prop where
  buf : Buf 23 1 (fun x => w.heap.size ≤ x ∧ x < wr.heap.size) wr v n A
  inn : ∀ i, i < n → BufL (fun x => (w.heap.size ≤ x ∧ x < wr.heap.size) ∧ v.ownBlock ≠ some x) wr (A i) (L i)
  disj : ∀ i j, i < n → j < n → i ≠ j → ∀ b, (A i).ownBlock = some b → ¬ (A j).ownBlock = some b
  blw : Blw w wr
theorem Sl.go {w wr w' : World} {v : Value} {n : Nat} {A : Nat → Value} {L : Nat → List Nat} (h : Sl w wr v n A L) (hb : Blw wr w') : Sl w w' v n A L := by
  have := hb.size
  exact ⟨(Buf.blw h.buf hb).mono (fun x hx => by omega), fun i hi => (Buf.blw (h.inn i hi) hb).mono (fun x hx => ⟨by omega, hx.2⟩), h.disj, h.blw.trans hb⟩
theorem Sl.push {w wr w1 : World} {v u : Value} {n : Nat} {A : Nat → Value} {L : Nat → List Nat} {L' : List Nat} (h : Sl w wr v n A L) (hG : Gath wr w1 u L') (hn : n ≤ 1048576) (h1A : ∀ i, (A i).oneCell' = true) (h1u : u.oneCell' = true) :
    ∃ ao cap w2, (Builtin.append_ #[35, 35] 35 #[v, .slice (some ⟨w1.heap.size, 0, none⟩) 1 1]).run Try.prog (w1.alloc (.cells #[u] 23)) = .ok (.slice ao (n + 1) cap) w2 ∧ Sl w w2 (.slice ao (n + 1) cap) (n + 1) (updV A n u) (updV L n L') := by
  have hbA : Blw w1 (w1.alloc (.cells #[u] 23)) := (Blw.refl _).alloc _
  have hb1 : Blw wr (w1.alloc (.cells #[u] 23)) := hG.blw.trans hbA
  have hvb : ∀ g, v.ownBlock = some g → w.heap.size ≤ g ∧ g < wr.heap.size := fun g hg => h.buf.2 g hg
  have hX : Buf 23 1 (fun b => v.ownBlock = some b) (w1.alloc (.cells #[u] 23)) v n A := Buf.blw (X := fun b => v.ownBlock = some b) ⟨h.buf.1, fun g hg => hg⟩ hb1
  obtain ⟨i0, hi0, hz0, hz1, hz2⟩ := info_parts info23
  have hs0 := hG.blw.size
  have hs1 : (w1.alloc (.cells #[u] 23)).heap.size = w1.heap.size + 1 := by simp
  obtain ⟨ao, cap, w2, hrun, hB, hM⟩ := Buf.append Try.underlying35 hi0 hz0 hz1 hz2 rfl (by decide) hX (ao := some ⟨w1.heap.size, 0, none⟩) (m := 1) 1 (G := fun _ => u) (fun e => by cases e) (fun ad e j hj => by
      cases e
      obtain rfl : j = 0 := by omega
      exact box1_cell w1 u 23) (fun j => h1u) (by omega) (by decide) 35
  rw [hs1] at hB
  have s2 := hM.size
  rw [hs1] at s2
  have hob : ∀ g, (Value.slice ao (n + 1) cap).ownBlock = some g → (v.ownBlock = some g ∨ g = w1.heap.size + 1) ∧ g < w2.heap.size := fun g hg => hB.2 g hg
  refine ⟨ao, cap, w2, hrun, ⟨(Buf.congr hB (fun i hi => ?_)).mono (fun x hx => ?_), fun i hi => ?_, fun i j hi hj hne b hb hb' => ?_, Mod.blw (h.blw.trans hb1) hM (fun i hi => (hvb i hi).1)⟩⟩
  · simp only [cat, updV, Nat.mul_one]
    by_cases e : i < n
    · rw [if_pos e, if_neg (by omega)]
    · rw [if_neg e, if_pos (by omega)]
  · have hw := h.blw.size
    rcases hx.1 with h1 | h1
    · have := hvb x h1; omega
    · omega
  · by_cases e : i = n
    · subst e
      simp only [updV, if_pos rfl]
      have hw := h.blw.size
      refine (Buf.mod (Buf.blw hG.buf hbA) hM (fun b hb hv => by have := hvb b hv; omega)).mono (fun x hx => ⟨by omega, fun hc => ?_⟩)
      rcases (hob x hc).1 with h1 | h1
      · have := hvb x h1; omega
      · omega
    · have hi' : i < n := by omega
      simp only [updV, if_neg e]
      refine (Buf.mod (Buf.blw (h.inn i hi') hb1) hM (fun b hb hv => hb.2 hv)).mono (fun x hx => ⟨by omega, fun hc => ?_⟩)
      rcases (hob x hc).1 with h1 | h1
      · exact hx.2 h1
      · omega
  · by_cases ei : i = n
    · have ej : ¬ j = n := by omega
      rw [show updV A n u i = u from if_pos ei] at hb
      rw [show updV A n u j = A j from if_neg ej] at hb'
      have h1 := (hG.buf.2 b hb).1
      have h2 := ((h.inn j (by omega)).2 b hb').1
      omega
    · rw [show updV A n u i = A i from if_neg ei] at hb
      have h2 := ((h.inn i (by omega)).2 b hb).1
      by_cases ej : j = n
      · rw [show updV A n u j = u from if_pos ej] at hb'
        have h1 := (hG.buf.2 b hb').1
        omega
      · rw [show updV A n u j = A j from if_neg ej] at hb'
        exact h.disj i j (by omega) (by omega) hne b hb hb'
theorem Sl.own {w wr : World} {v : Value} {n : Nat} {A : Nat → Value} {L : Nat → List Nat} (h : Sl w wr v (n + 1) A L) (hn : n + 1 ≤ 1048576) (hL : ∀ i, i < n + 1 → (L i).length ≤ 1048576) : ∃ ao cap, v = .slice ao (n + 1) cap ∧ SSOwn (fun x => w.heap.size ≤ x ∧ x < wr.heap.size) wr ao ⟨n + 1, fun i => (L i).length, fun i => lf (L i)⟩ := by
  obtain ⟨ao, cap, rfl, hr⟩ := Buf.form h.buf
  obtain ⟨g, hg, rfl, hrow⟩ := hr (by omega)
  rw [Nat.mul_one] at hrow
  exact ⟨_, cap, rfl, lists_own hrow hg hn hL (fun i hi => (h.inn i hi).mono (fun x hx => ⟨hx.1, fun e => hx.2 (by rw [e]; rfl)⟩)) h.disj⟩
set_option maxRecDepth 10000 in
set_option maxHeartbeats 3200000 in
theorem specFreeBlocks_any (b : BV) (B : BD) (Y : Nat → Prop) (w : World) (h : BookAt Y w b B) :
    Calls Try.prog 24 #[b.val B] w (GivesS (resS B.Good (fbD B)) w) := by
  have hb0 : Blw w (w.alloc (.cells #[.slice b.a1 B.n b.c1, .slice b.a2 B.k b.c2] 25)) := (Blw.refl _).alloc _
  have r0 := box2 w (.slice b.a1 B.n b.c1) (.slice b.a2 B.k b.c2) 25
  have HA : Hid (BookAt Y (w.alloc (.cells #[.slice b.a1 B.n b.c1, .slice b.a2 B.k b.c2] 25)) b B) := h.blw hb0
  clear h
  go_enter Try.func24, Try.ntmps24
  go_wp2_with fail
  refine (specGood_any b B Y _ HA.out).mono ?_
  rintro e w1 ⟨r, rfl, hr, hb1⟩
  have HT : Hid (r = true ↔ B.Good) := hr
  have HB : Hid (Blw w w1) := hb0.trans hb1
  have HR0 : Hid (Row w1 w.heap.size 2 (fun i => if i = 0 then .slice b.a1 B.n b.c1 else .slice b.a2 B.k b.c2)) := r0.blw hb1
  replace HA : Hid (BookAt Y w1 b B) := HA.out.blw hb1
  clear hr hb0 hb1 r0
  cases r
  · have HN : Hid (¬ B.Good) := fun g => by have := HT.out.2 g; simp at this
    clear HT
    go_wp2
    exact bodyPost_ret (v := .tuple #[.slice none 0 0, .bool false]) (by simp [results, Try.results24, go_sem]) rfl (zero_givesS (Or.inr ⟨HN.out, rfl, rfl⟩) HB.out)
  have HG : Hid (B.Good) := HT.out.1 (by first | rfl | trivial)
  clear HT
  obtain ⟨n, c, kk, l⟩ := B
  obtain ⟨g1, g2, c1, c2⟩ := b
  have hn16 : n = 16 := HG.out.n
  have hk16 : kk = 16 := HG.out.k
  subst hn16 hk16
  simp only [BV.val] at *
  go_wp2_with fail
  go_loopw [4, 5] (fun v i wr => ∃ q : Nat, q ≤ 5 ∧ i = .int .i64 q ∧ ∃ A, (∀ t, (A t).oneCell' = true) ∧ Sl w1 wr v q A (blocks c)) (fun _ i _ => 5 - (intOf i).toNat)
  case atStart => exact ⟨0, by omega, rfl, fun _ => .slice none 0 0, fun _ => rfl, ⟨Buf.nil _ _ _ _ _, fun i hi => absurd hi (Nat.not_lt_zero _), fun i j hi => absurd hi (Nat.not_lt_zero _), Blw.refl _⟩⟩
  case round =>
    obtain ⟨q, hq5, rfl, A, h1A, hSl⟩ := hrel
    have HSl : Hid (Sl w1 wr u4 q A (blocks c)) := hSl
    have H1A : Hid (∀ t, (A t).oneCell' = true) := h1A
    clear hSl h1A
    by_cases hlt : q ≤ 4
    · have hlt' : (q : Int) ≤ 4 := by omega
      obtain ⟨p0, p1⟩ := get2 (HR0.out.blw HSl.out.blw)
      have hord : ordOK (q : Int) := by unfold ordOK; omega
      have HO : Hid (ordOK (q : Int)) := hord
      clear hord
      go_wp2_with fail
      clear p0 p1
      refine (l5Blocks_any ⟨g1, g2, c1, c2⟩ c l (q : Int) Y _ HG.out HO.out (HA.out.blw HSl.out.blw)).mono ?_
      rintro e w2 ⟨u, rfl, hG⟩
      rw [Int.toNat_natCast] at hG
      obtain ⟨au, cu, rfl, -⟩ := Buf.form hG.buf
      have h1u : (Value.slice au (blocks c q).length cu).oneCell' = true := rfl
      obtain ⟨ao, cap, w3, hrun, hS3⟩ := HSl.out.push hG (by omega) H1A.out h1u
      have HRN : Hid _ := hrun
      have HN : Hid (∃ A, (∀ t, (A t).oneCell' = true) ∧ Sl w1 w3 (.slice ao (q + 1) cap) (q + 1) A (blocks c)) := ⟨updV A q (.slice au (blocks c q).length cu), fun t => (by unfold updV; by_cases e : t = q; (rw [if_pos e]; exact h1u); (rw [if_neg e]; exact H1A.out t)), ⟨hS3.buf, fun i hi => (by
        have := hS3.inn i hi
        by_cases e : i = q
        · subst e; simpa [updV] using this
        · simpa [updV, e] using this), hS3.disj, hS3.blw⟩⟩
      clear hrun hS3 hG HSl H1A h1u
      go_wp2_with (first | (at_builtin; refine wpList_app (.tmp 13) (.tmp 17) 35 (by rfl) ?_; refine ⟨_, _, HRN.out, ?_⟩) | fail)
      go_roundw
      case rel => exact ⟨q + 1, by omega, by go_num, HN.out⟩
      case measure => simp [intOf]; omega
    · obtain rfl : q = 5 := by omega
      obtain ⟨ao, cap, rfl, own⟩ := Sl.own (n := 4) HSl.out (by omega) (fun i hi => Nat.le_trans (pk_len _ _) (by omega))
      have FIN : Hid (GivesS (resS (BD.Good ⟨16, c, 16, l⟩) (fbD ⟨16, c, 16, l⟩)) w (.returned (.tuple #[.slice ao 5 cap, .bool true])) wr) :=
        ⟨_, cap, fbD ⟨16, c, 16, l⟩, true, rfl, Or.inl ⟨HG.out, rfl, rfl⟩, fbD_total _, own.mono (fun x hx => ⟨Nat.le_trans HB.out.size hx.1, hx.2⟩), HB.out.trans HSl.out.blw⟩
      clear own HSl H1A
      go_wp2
      exact bodyPost_ret (v := .tuple #[.slice ao 5 cap, .bool true]) (by simp [results, Try.results24, go_sem]) rfl FIN.out
end Go.Proofs.Ytfmmpddknanhbaa
