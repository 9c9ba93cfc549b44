/- All timers of a wheel, as the model gathers them. -/
import Derived.Test.YtkmkidahaagbpaaSg
namespace Go.Proofs.Ytkmkidahaagbpaa
open Go.RowKit
set_option linter.unusedSimpArgs false
set_option linter.unusedVariables false
theorem lf_app (l m : List Tm) (i : Nat) (hi : i < l.length + m.length) : icat l.length (lf l) (lf m) i = lf (l ++ m) i ∧ icat l.length (la l) (la m) i = la (l ++ m) i := by
  have key : nth (l ++ m) i = if i < l.length then nth l i else nth m (i - l.length) := by
    unfold nth
    simp only [List.getD_eq_getElem?_getD]
    by_cases h : i < l.length
    · rw [if_pos h, List.getElem?_append_left h]
    · rw [if_neg h, List.getElem?_append_right (by omega)]
  unfold icat lf la
  rw [key]
  by_cases h : i < l.length
  · simp only [if_pos h]; exact ⟨trivial, trivial⟩
  · simp only [if_neg h]; exact ⟨trivial, trivial⟩
abbrev LB (X : Nat → Prop) (w : World) (a : Option Addr) (c : Nat) (l : List Tm) : Prop := BufU X w (.slice a l.length c) l.length (lf l) (la l)
theorem LB.app {X Y : Nat → Prop} {w : World} {a : Option Addr} {c : Nat} {l m : List Tm} (h : LB X w a c l) {b : Option Addr} (d : Nat) (hs : UndosAt Y w b m.length (lf m) (la m)) (hb : l.length + m.length ≤ 2097152) (ty : TypeId) :
    ∃ a' c' w', (Builtin.append_ #[31, 31] ty #[.slice a l.length c, .slice b m.length d]).run Try.prog w = .ok (.slice a' (l ++ m).length c') w' ∧ LB (fun b => (X b ∨ b = w.heap.size) ∧ b < w'.heap.size) w' a' c' (l ++ m) ∧ Mod (fun b => (Value.slice a l.length c).ownBlock = some b) w w' := by
  obtain ⟨a', c', w', h1, h2, h3⟩ := h.append d hs hb ty
  rw [← List.length_append] at h1 h2
  refine ⟨a', c', w', h1, h2.congr (fun i hi => ?_), h3⟩
  rw [List.length_append] at hi
  have := lf_app l m (i / 2) (by omega)
  simp only [uc, this.1, this.2]
theorem LB.at {X : Nat → Prop} {w : World} {a : Option Addr} {c : Nat} {l : List Tm} (h : LB X w a c l) (hn : l.length ≤ 9223372036854775807) : UndosAt X w a l.length (lf l) (la l) := by
  obtain ⟨ao, cap, e, ho⟩ := h.own hn
  simp only [Value.slice.injEq] at e
  obtain ⟨rfl, -, rfl⟩ := e
  exact ho.at
theorem LB.own {X : Nat → Prop} {w : World} {a : Option Addr} {c : Nat} {l : List Tm} (h : LB X w a c l) (hn : l.length ≤ 9223372036854775807) : UndosOwn X w a l.length (lf l) (la l) := by
  obtain ⟨ao, cap, e, ho⟩ := BufU.own h hn
  simp only [Value.slice.injEq] at e
  obtain ⟨rfl, -, rfl⟩ := e
  exact ho
def allS (n : Nat) (R : Rws) : List Tm := (List.range n).flatMap (fun k => R k ++ R (8 + k))
theorem allS_succ (n : Nat) (R : Rws) : allS (n + 1) R = (allS n R ++ R n) ++ R (8 + n) := by simp [allS, List.range_succ, List.flatMap_append]
theorem allS_mono (R : Rws) {k n : Nat} (h : k ≤ n) : (allS k R).length ≤ (allS n R).length := by
  induction n with
  | zero => obtain rfl : k = 0 := by omega
            exact Nat.le_refl _
  | succ n ih =>
    by_cases e : k = n + 1
    · rw [e]; exact Nat.le_refl _
    · have := ih (by omega)
      rw [allS_succ]; simp only [List.length_append]; omega
theorem allS_perm (R : Rws) : (allS 8 R).Perm (allR R) := by
  have h : ∀ n, n ≤ 8 → ((List.range n).flatMap (fun k => R k ++ R (8 + k))).Perm ((List.range n).flatMap R ++ (List.range n).flatMap (fun k => R (8 + k))) := by
    intro n hn
    induction n with
    | zero => simp
    | succ n ih =>
      simp only [List.range_succ, List.flatMap_append, List.flatMap_cons, List.flatMap_nil, List.append_nil]
      refine ((ih (by omega)).append_right _).trans ?_
      simp only [List.append_assoc]
      refine List.Perm.append_left _ ?_
      rw [← List.append_assoc, ← List.append_assoc]
      exact List.Perm.append_right _ List.perm_append_comm
  have h2 : allR R = (List.range 8).flatMap R ++ (List.range 8).flatMap (fun k => R (8 + k)) := by
    simp [allR, List.range_succ, List.flatMap_append]
  rw [h2]
  exact h 8 (Nat.le_refl _)
/-- The rows of a wheel that is read. -/
structure WRows (Y : Nat → Prop) (w : World) (v : WV) (D : WD) (R : Rws) : Prop where
  n : PSAt Y w v.a1 (pdn 8 R)
  f : PSAt Y w v.a2 (pdn 8 (fun k => R (8 + k)))
theorem WRows.mod {X Y : Nat → Prop} {w w' : World} {v : WV} {D : WD} {R : Rws} (h : WRows Y w v D R) (hb : Mod X w w') (hxy : ∀ k, Y k → ¬ X k) : WRows Y w' v D R := ⟨h.n.mod hb hxy, h.f.mod hb hxy⟩
theorem WRows.blw {Y : Nat → Prop} {w w' : World} {v : WV} {D : WD} {R : Rws} (h : WRows Y w v D R) (hb : Blw w w') : WRows Y w' v D R := ⟨h.n.blw hb, h.f.blw hb⟩
theorem WAt.rows {Y : Nat → Prop} {w : World} {v : WV} {D : WD} (h : WAt Y w v D) (hn : D.N.n = 8) (hf : D.F.n = 8) : WRows Y w v D (rows16 D) := by
  have h1 := PSAt.rows h.n
  have h2 := PSAt.rows h.f
  rw [hn] at h1
  rw [hf] at h2
  exact ⟨h1.congrR (fun k hk => by simp only [rows16, if_pos hk]), h2.congrR (fun k hk => by simp only [rows16, if_neg (show ¬ 8 + k < 8 by omega), if_pos (show 8 + k < 16 by omega), show 8 + k - 8 = k by omega])⟩
set_option maxRecDepth 10000 in
set_option maxHeartbeats 1600000 in
theorem l11All_any (v : WV) (now : Int) (N F : PD) (R : Rws) (Y : Nat → Prop) (w : World) (hN : N.n = 8) (hF : F.n = 8) (h : WRows Y w v ⟨now, N, F⟩ R) (hl : (allS 8 R).length ≤ 1048576) :
    Calls Try.prog 58 #[v.val ⟨now, N, F⟩] w fun e w' => ∃ a c, e = .returned (.slice a (allS 8 R).length c) ∧ Hid (LB (fun b => w.heap.size ≤ b ∧ b < w'.heap.size) w' a c (allS 8 R) ∧ Blw w w') := by
  obtain ⟨va1, va2, vc1, vc2⟩ := v
  obtain ⟨b1, o1, A1, k1, e1, -, hr1⟩ := h.n.fn (by omega)
  obtain ⟨b2, o2, A2, k2, e2, -, hr2⟩ := h.f.fn (by omega)
  dsimp only at e1 e2
  subst e1 e2
  have HR1 : Hid (∀ i, i < 8 → w.cell? ⟨b1, o1 + i, none⟩ = some (.slice (A1 i) (R i).length (k1 i)) ∧ UndosAt Y w (A1 i) (R i).length (lf (R i)) (la (R i))) := hr1
  have HR2 : Hid (∀ i, i < 8 → w.cell? ⟨b2, o2 + i, none⟩ = some (.slice (A2 i) (R (8 + i)).length (k2 i)) ∧ UndosAt Y w (A2 i) (R (8 + i)).length (lf (R (8 + i))) (la (R (8 + i)))) := hr2
  clear hr1 hr2
  obtain ⟨n1, p1, p2, p3⟩ := N
  obtain ⟨n2, q1, q2, q3⟩ := F
  dsimp only at hN hF
  subst hN hF
  have hb0 : Blw w (w.alloc (.cells #[.int .i64 now, .slice (some ⟨b1, o1, none⟩) 8 vc1, .slice (some ⟨b2, o2, none⟩) 8 vc2] 25)) := (Blw.refl _).alloc _
  have HA : Hid (Row (w.alloc (.cells #[.int .i64 now, .slice (some ⟨b1, o1, none⟩) 8 vc1, .slice (some ⟨b2, o2, none⟩) 8 vc2] 25)) w.heap.size 3 (t3 (.int .i64 now) (.slice (some ⟨b1, o1, none⟩) 8 vc1) (.slice (some ⟨b2, o2, none⟩) 8 vc2))) := box3 w _ _ _ 25
  have HB0 : Hid (Blw w (w.alloc (.cells #[.int .i64 now, .slice (some ⟨b1, o1, none⟩) 8 vc1, .slice (some ⟨b2, o2, none⟩) 8 vc2] 25))) := hb0
  have HLN : Hid ((allS 8 R).length ≤ 1048576) := hl
  have hmono : ∀ k, k ≤ 8 → (allS k R).length ≤ (allS 8 R).length := fun k hk => allS_mono R hk
  have HMN : Hid (∀ k, k ≤ 8 → (allS k R).length ≤ (allS 8 R).length) := hmono
  clear h hb0 hl hmono
  go_enter Try.func58, Try.ntmps58
  go_wp2_with fail
  generalize w.alloc (.cells #[.int .i64 now, .slice (some ⟨b1, o1, none⟩) 8 vc1, .slice (some ⟨b2, o2, none⟩) 8 vc2] 25) = W0 at *
  obtain ⟨a0, a1, a2⟩ := get3 HA.out
  go_wp2_with fail
  go_loopw [3, 8] (fun s3 i wr => ∃ (k : Nat) (n : Nat) (a : Option Addr) (c : Nat), k ≤ 8 ∧ i = .int .i64 k ∧ s3 = .slice a n c ∧ n = (allS k R).length ∧ Hid (LB (fun b => W0.heap.size ≤ b) wr a c (allS k R) ∧ Blw W0 wr)) (fun _ i _ => 8 - (intOf i).toNat)
  case atStart => exact ⟨0, 0, none, 0, by omega, rfl, rfl, rfl, ⟨Buf.nil _ _ _ _ _, Blw.refl _⟩⟩
  case round =>
    clear a0 a1 a2
    obtain ⟨k, n, a, c, hk, rfl, rfl, hn, hE⟩ := hrel
    by_cases hlt : k < 8
    · obtain ⟨hB, hb⟩ := hE.out
      have hbw := HB0.out.trans hb
      obtain ⟨g10, u10⟩ := HR1.out k hlt
      obtain ⟨g20, u20⟩ := HR2.out k hlt
      have g1 := hbw.cell g10
      have u1 := u10.blw hbw
      obtain ⟨a0, a1, a2⟩ := get3 (HA.out.blw hb)
      have hm1 := HMN.out (k + 1) hlt
      rw [allS_succ] at hm1
      simp only [List.length_append] at hm1
      have hl8 := HLN.out
      obtain ⟨a', c', w', hrun, hB2, hm⟩ := LB.app hB (k1 k) u1 (by omega) 31
      have hbw' : Blw W0 w' := Mod.blw hb hm (fun i e => hB.2 i e)
      have hs' := hb.size
      have hB3 : LB (fun b => W0.heap.size ≤ b) w' a' c' (allS k R ++ R k) := hB2.mono (fun b hb2 => hb2.1.elim id (fun e => by omega))
      have hu2' := u20.blw (HB0.out.trans hbw')
      have A2' := (get3 (HA.out.blw hbw')).2.2
      have G2 := (HB0.out.trans hbw').cell g20
      obtain ⟨a'', c'', w'', hrun2, hB4, hm2⟩ := LB.app hB3 (k2 k) hu2' (by simp only [List.length_append]; omega) 31
      rw [← hn] at hrun
      have HFIN : Hid (LB (fun b => W0.heap.size ≤ b) w'' a'' c'' (allS (k + 1) R) ∧ Blw W0 w'') := by
        rw [allS_succ]
        have hs2 := hbw'.size
        exact ⟨hB4.mono (fun b hb2 => hb2.1.elim id (fun e => by omega)), Mod.blw hbw' hm2 (fun i e => hB3.2 i e)⟩
      rw [← allS_succ] at hrun2
      obtain ⟨L1, hL1⟩ : ∃ L, allS k R ++ R k = L := ⟨_, rfl⟩
      obtain ⟨L2, hL2⟩ : ∃ L, allS (k + 1) R = L := ⟨_, rfl⟩
      rw [hL1] at hrun hrun2
      rw [hL2] at hrun2 HFIN
      have HL2 : Hid (allS (k + 1) R = L2) := hL2
      clear hL1 hL2
      clear hB hb hE u1 hB2 hm hbw' hB3 hu2' hB4 hm2 hm1 hl8 hs' a0 hbw g10 u10 g20 u20 a2
      go_wp2_with (first | (at_builtin; refine wpList_append_run rfl _ _ 31 rfl _ _ rfl rfl hrun ?_; clear hrun a1 g1) | (at_builtin; refine wpList_append_run rfl _ _ 31 rfl _ _ rfl rfl hrun2 ?_))
      go_roundw
      case rel => exact ⟨k + 1, L2.length, a'', c'', by omega, by go_num, rfl, by rw [HL2.out], by rw [HL2.out]; exact HFIN.out⟩
      case measure => simp [intOf]; omega
    · obtain rfl : k = 8 := by omega
      have HFIN : Hid (LB (fun b => w.heap.size ≤ b ∧ b < wr.heap.size) wr a c (allS 8 R) ∧ Blw w wr) := by
        obtain ⟨hB, hb⟩ := hE.out
        have hs := HB0.out.size
        exact ⟨⟨hB.1, fun g hg => ⟨by have := hB.2 g hg; omega, by
          rcases Buf.rowE hB with ⟨q, _⟩ | ⟨g', f', q, _, _, _, hr, _⟩
          · rw [q] at hg; simp [Value.ownBlock] at hg
          · rw [q] at hg; simp [Value.ownBlock] at hg; subst hg; exact hr.row.lt⟩⟩, HB0.out.trans hb⟩
      clear hE
      subst hn
      go_wp2
      go_ret
      exact ⟨a, c, rfl, HFIN.out⟩
end Go.Proofs.Ytkmkidahaagbpaa
