/- TimersOf of the program. -/
import Derived.Test.YtkmkidahaagbpaaSo
import Derived.Test.YtkmkidahaagbpaaStm
import Derived.Test.YtkmkidahaagbpaaISet
namespace Go.Proofs.Ytkmkidahaagbpaa
open Go.RowKit
set_option linter.unusedSimpArgs false
set_option linter.unusedVariables false
theorem collect_any (Bs nR cR : Nat) (ao : Option Addr) (R : Rws) (Y : Nat → Prop) (w : World) (hY : ∀ b, Y b → b < w.heap.size) (hBs : w.cell? ⟨Bs, 0, none⟩ = some (.slice ao nR cR)) (hp : PSAt Y w ao (pdn nR R)) (hl : (allN nR R).length ≤ 20) :
    Calls Try.prog 84 #[.func (.func 86) #[] #[.pointer (some ⟨Bs, 0, none⟩)]] w fun e w' => ∃ a c, e = .returned (.slice a (allN nR R).length c) ∧ Hid (LB (fun b => w.heap.size ≤ b) w' a c (allN nR R) ∧ Blw w w') := by
  have HH : Hid (Calls Try.prog 98 #[.slice none 0 0, .func (.func 86) #[] #[.pointer (some ⟨Bs, 0, none⟩)]] w fun e w' => ∃ a c, e = .returned (.slice a (allN nR R).length c) ∧ Hid (LB (fun b => w.heap.size ≤ b) w' a c (allN nR R) ∧ Blw w w')) := appendSeq_any Bs nR cR ao R Y w hY hBs hp hl
  obtain ⟨l, hl⟩ : ∃ l, allN nR R = l := ⟨_, rfl⟩
  rw [hl] at HH ⊢
  clear hl hBs hp
  go_enter Try.func84, Try.ntmps84
  go_wp2_with (first | (go_at_call 98; refine HH.out.mono ?_; rintro e w2 ⟨a, c, rfl, hE⟩) | fail)
  go_ret
  exact ⟨a, c, rfl, hE.out⟩
set_option maxHeartbeats 1600000 in
theorem sortedFunc_any (Bs nR cR : Nat) (ao : Option Addr) (R : Rws) (Y : Nat → Prop) (w : World) (hY : ∀ b, Y b → b < w.heap.size) (hBs : w.cell? ⟨Bs, 0, none⟩ = some (.slice ao nR cR)) (hp : PSAt Y w ao (pdn nR R)) (hl : (allN nR R).length ≤ 20) :
    Calls Try.prog 55 #[.func (.func 86) #[] #[.pointer (some ⟨Bs, 0, none⟩)], .func (.func 57) #[] #[]] w fun e w' => ∃ a c, e = .returned (.slice a (allN nR R).length c) ∧ Hid (UndosOwn (fun b => w.heap.size ≤ b ∧ b < w'.heap.size) w' a (allN nR R).length (lf (srt (allN nR R))) (la (srt (allN nR R))) ∧ Blw w w') := by
  have HCO : Hid (Calls Try.prog 84 #[.func (.func 86) #[] #[.pointer (some ⟨Bs, 0, none⟩)]] w fun e w' => ∃ a c, e = .returned (.slice a (allN nR R).length c) ∧ Hid (LB (fun b => w.heap.size ≤ b) w' a c (allN nR R) ∧ Blw w w')) := collect_any Bs nR cR ao R Y w hY hBs hp hl
  obtain ⟨l, hL⟩ : ∃ l, allN nR R = l := ⟨_, rfl⟩
  rw [hL] at HCO hl ⊢
  have HL : Hid (l.length ≤ 20) := hl
  clear hL hBs hp
  have HSRT : ∀ (a : Option Addr) (c : Nat) (W : World), LB (fun b => w.heap.size ≤ b) W a c l → Hid (Calls Try.prog 85 #[.slice a l.length c, .func (.func 57) #[] #[]] W fun e w' => e = .returned (.tuple #[]) ∧ Hid (UndosOwn (fun b => w.heap.size ≤ b ∧ b < w'.heap.size) w' a l.length (lf (srt l)) (la (srt l)) ∧ (Blw w W → Blw w w'))) := by
    intro a c W h
    rcases Buf.rowE h with ⟨rfl, h1, rfl⟩ | ⟨g', f', rfl, hg, h1, h3, hr, -⟩
    · obtain rfl := List.length_eq_zero_iff.1 h1
      exact (sort0_any W).mono (by rintro e w' ⟨rfl, hb⟩; exact ⟨rfl, UndosOwn.nil _ _ _ _ _, fun h => h.trans hb⟩)
    · refine (sort_any g' c l W h HL.out).mono ?_
      rintro e w' ⟨rfl, hE⟩
      exact ⟨rfl, ⟨by have := HL.out; omega, fun _ => ⟨g', ⟨hg, hE.out.1.lt⟩, rfl, hE.out.1⟩⟩, fun hb => Mod.blw hb hE.out.2 (fun i e => by rw [e]; exact hg)⟩
  go_enter Try.func55, Try.ntmps55
  go_wp2_with (first | (go_at_call 84; refine HCO.out.mono ?_; rintro e w2 ⟨a, c, rfl, hE⟩) | (go_at_call 85; refine (HSRT a c _ hE.out.1).out.mono ?_; rintro e w3 ⟨rfl, hE3⟩) | fail)
  go_ret
  exact ⟨a, c, rfl, ⟨hE3.out.1, hE3.out.2 hE.out.2⟩⟩
set_option maxRecDepth 10000 in
set_option maxHeartbeats 3200000 in
theorem implTimers_any (v : WV) (D : WD) (Y : Nat → Prop) (w : World) (h : WAt Y w v D) (hY : ∀ b, Y b → b < w.heap.size) (hwf : D.wf) : Calls Try.prog 15 #[v.val D] w (GivesT (timersOut D) w) := by
  have hb0 : Blw w (w.alloc (.cells #[.int .i64 D.now, .slice v.a1 D.N.n v.c1, .slice v.a2 D.F.n v.c2] 25)) := (Blw.refl _).alloc _
  have r0 := box3 w (.int .i64 D.now) (.slice v.a1 D.N.n v.c1) (.slice v.a2 D.F.n v.c2) 25
  obtain ⟨W0, hW0⟩ : ∃ W0, w.alloc (.cells #[.int .i64 D.now, .slice v.a1 D.N.n v.c1, .slice v.a2 D.F.n v.c2] 25) = W0 := ⟨_, rfl⟩
  rw [hW0] at hb0 r0
  have HHO : Hid (Calls Try.prog 48 #[v.val D] W0 (HoldPost W0 D)) := hold_any v D Y _ (h.blw hb0) (fun b hb => by have := hY b hb; have := hb0.size; omega) hwf
  have HB : Hid (Blw w W0) := hb0
  clear h hb0
  obtain ⟨c0, c1, c2⟩ := get3 r0
  by_cases hg : GoodD D
  · have G : Hid (GoodD D) := hg
    clear hg
    go_enter Try.func15, Try.ntmps15
    go_upto_region 1 with fail
    try simp only [hW0]
    clear hW0 r0
    go_upto_region 2 with (first | (go_at_call 48; refine HHO.out.mono ?_; rintro e w1 ⟨now, R, P, C, b, rfl, hE1⟩) | (refine alloc_big rfl 71 rfl 17 hz0 zeroH ?_; intro w2 RZ2 hb2 hz2) | (refine store_big rfl 71 _ _ rfl _ 17 (hcell now R P C) hz0 rfl rfl wdH RZ2 (fun i _ => hcell_one _ _ _ _ _) ?_; intro wz RZ9 hm9 hs9) | fail)
    obtain ⟨hbo, hbt, hbl⟩ := hE1
    clear c0 c1 c2 HHO
    have hbz : Blw W0 wz := Mod.blw (hbl.trans hb2) hm9 (fun i e => by have := hbl.size; omega)
    obtain rfl : b = true := hbo.2 G.out
    obtain ⟨e1, e2, hR⟩ := hbt rfl
    subst e1 e2
    have HWz : Hid (HW W0.heap.size w1.heap.size D.now (rows16 D) P C wz) := ((hR.blw hb2).mod hm9 (fun k b hk e hh => by have h5 := hR.lt hk e; omega)).box (fun k b hk e => by have h5 := hR.lt hk e; omega) RZ9
    have HBz : Hid (Blw w wz) := HB.out.trans hbz
    clear hR hbo hbt hbl RZ2 hb2 hz2 RZ9 hm9 hs9 hbz
    have hlen : ∀ k, k < 16 → (rows16 D k).length ≤ 1000 := fun k hk => by have := len_row (S := rows16 D) hk; have := G.out.g.len; omega
    have HSF : Hid (Calls Try.prog 55 #[.func (.func 86) #[] #[.pointer (some ⟨wz.heap.size, 0, none⟩)], .func (.func 57) #[] #[]] (wz.alloc (.cells #[.slice (some ⟨w1.heap.size, 1, none⟩) 16 16] 23)) fun e w' => ∃ a c, e = .returned (.slice a (allR (rows16 D)).length c) ∧ Hid (UndosOwn (fun b => (wz.alloc (.cells #[.slice (some ⟨w1.heap.size, 1, none⟩) 16 16] 23)).heap.size ≤ b ∧ b < w'.heap.size) w' a (allR (rows16 D)).length (lf (srt (allR (rows16 D)))) (la (srt (allR (rows16 D)))) ∧ Blw (wz.alloc (.cells #[.slice (some ⟨w1.heap.size, 1, none⟩) 16 16] 23)) w')) :=
      sortedFunc_any wz.heap.size 16 16 (some ⟨w1.heap.size, 1, none⟩) (rows16 D) (fun b => b < wz.heap.size) _ (fun b hb => by rw [World.size_alloc]; omega) (new1 _ _ _).1 ((HWz.out.rows hlen).blw ((Blw.refl _).alloc _)) G.out.g.len
    have hal : Blw wz (wz.alloc (.cells #[.slice (some ⟨w1.heap.size, 1, none⟩) 16 16] 23)) := (Blw.refl _).alloc _
    have HTO : Hid (timersOut D (srt (allR (rows16 D))) true ∧ (allR (rows16 D)).length = (srt (allR (rows16 D))).length ∧ (allR (rows16 D)).length ≤ 20) := ⟨Or.inl ⟨G.out, rfl, rfl⟩, (srt_len _).symm, G.out.g.len⟩
    obtain ⟨L, hL⟩ : ∃ L, srt (allR (rows16 D)) = L := ⟨_, rfl⟩
    rw [hL] at HSF HTO
    obtain ⟨nn, hnn⟩ : ∃ nn, (allR (rows16 D)).length = nn := ⟨_, rfl⟩
    rw [hnn] at HSF HTO
    clear hlen hL hnn
    go_wp2_with (first | (go_at_call 56; refine (timersIn_any _ _ _ _).mono ?_; rintro e w5 ⟨rfl, rfl⟩) | (go_at_call 55; refine HSF.out.mono ?_; rintro e w6 ⟨a6, c6, rfl, hE6⟩) | fail)
    go_ret2
    have hb6 := HBz.out.trans hal
    obtain ⟨h1, h2, h3⟩ := HTO.out
    subst h2
    exact ⟨a6, c6, L.length, L, true, rfl, rfl, h1, h3, hE6.out.1.mono (fun x hx => ⟨by have := hb6.size; omega, hx.2⟩), hb6.trans hE6.out.2⟩
  · have NG : Hid (¬ GoodD D) := hg
    clear hg
    go_enter Try.func15, Try.ntmps15
    go_upto_region 1 with fail
    try simp only [hW0]
    clear hW0 r0
    go_upto_region 2 with (first | (go_at_call 48; refine HHO.out.mono ?_; rintro e w1 ⟨now, R, P, C, b, rfl, hE1⟩) | (refine alloc_big rfl 71 rfl 17 hz0 zeroH ?_; intro w2 RZ2 hb2 hz2) | (refine store_big rfl 71 _ _ rfl _ 17 (hcell now R P C) hz0 rfl rfl wdH RZ2 (fun i _ => hcell_one _ _ _ _ _) ?_; intro wz RZ9 hm9 hs9) | fail)
    obtain ⟨hbo, hbt, hbl⟩ := hE1
    have hbz : Blw W0 wz := Mod.blw (hbl.trans hb2) hm9 (fun i e => by have := hbl.size; omega)
    have HBz : Hid (Blw w wz) := HB.out.trans hbz
    obtain rfl : b = false := by cases b; rfl; exact absurd (hbo.1 rfl) NG.out
    clear hbo hbt hbl RZ2 hb2 hz2 RZ9 hm9 hs9 hbz
    go_wp2_with fail
    go_ret2
    exact ⟨none, 0, 0, [], false, rfl, rfl, Or.inr ⟨NG.out, rfl, rfl⟩, by simp, UndosOwn.nil _ _ _ _ _, HBz.out⟩
end Go.Proofs.Ytkmkidahaagbpaa
