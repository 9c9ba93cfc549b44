/- A timer dropped from the program's held wheel. -/
import Derived.Test.YtkmkidahaagbpaaDel
import Derived.Test.YtkmkidahaagbpaaTk
import Derived.Test.YtkmkidahaagbpaaBigw
namespace Go.Proofs.Ytkmkidahaagbpaa
open Go.RowKit
set_option linter.unusedSimpArgs false
set_option linter.unusedVariables false
theorem pair_ne {L : List Nat} (hL : L.Nodup) {R : Rws} (h : ((L.flatMap R).map Prod.fst).Nodup) {j k : Nat} (hj : j ∈ L) (hk : k ∈ L) (hne : j ≠ k) {x y : Tm} (hx : x ∈ R j) (hy : y ∈ R k) : x.1 ≠ y.1 := by
  induction L with
  | nil => cases hj
  | cons a L ih =>
    rw [List.flatMap_cons, List.map_append] at h
    obtain ⟨_, h2, h3⟩ := List.pairwise_append.1 h
    have hL' := List.nodup_cons.1 hL
    rcases List.mem_cons.1 hj with rfl | hj' <;> rcases List.mem_cons.1 hk with rfl | hk'
    · exact absurd rfl hne
    · exact h3 _ (List.mem_map.2 ⟨x, hx, rfl⟩) _ (List.mem_map.2 ⟨y, List.mem_flatMap.2 ⟨k, hk', hy⟩, rfl⟩)
    · exact fun e => h3 _ (List.mem_map.2 ⟨y, hy, rfl⟩) _ (List.mem_map.2 ⟨x, List.mem_flatMap.2 ⟨j, hj', hx⟩, rfl⟩) e.symm
    · exact ih hL'.2 h2 hj' hk'
def dropR (id : Int) (R : Rws) : Rws := fun k => (R k).filter (fun t => t.1 != id)
theorem dropR_upd {now : Int} {R : Rws} (hg : GoodR now R) (hz : ∀ k, 16 ≤ k → R k = []) {k : Nat} (hk : k < 16) {id : Int} (hh : hasId (R k) id) : updN R k ((R k).take (pos (R k) id) ++ (R k).drop (pos (R k) id + 1)) = dropR id R := by
  funext j
  unfold updN dropR
  by_cases e : j = k
  · subst e
    rw [if_pos rfl, filter_has (hg.sd j hk) hh]
  · rw [if_neg e]
    by_cases h16 : j < 16
    · symm
      apply filter_eq_self'
      intro t ht e2
      obtain ⟨y, hy, e3⟩ := (hasId_iff (hg.sd k hk) id).1 hh
      exact pair_ne List.nodup_range hg.nd (List.mem_range.2 h16) (List.mem_range.2 hk) e ht hy (by rw [e2, e3])
    · rw [hz j (by omega)]; rfl
theorem index_big (W : World) (f : Nat → Value) (k : Nat) (hk : k < 16) : (Instr.index 69 (.agg (lst 16 f).toArray) (.int .i64 k)).run Try.prog W = .ok (f k) W := by
  obtain ⟨i0, hi0, hz0, hz1, hz2⟩ := info_parts sInfo
  have hlt : 0 ≤ (k : Int) ∧ (k : Int) < (16 : Nat) := by omega
  have hl2 : (lst 16 f)[k]? = some (f k) := lst_get hk
  simp [Instr.index, run_underlying Try.underlying69, asIntOf, go_sem, hlt, part, sizeOf, typeInfo, hi0, hz1, hl2, hk]
theorem wd69 : Wd 69 16 := ⟨⟨_, Try.underlying69, rfl⟩, by kernel_rfl⟩
set_option maxRecDepth 100000 in
set_option maxHeartbeats 1600000 in
theorem drop_any (lo z : Nat) (now : Int) (R : Rws) (P : Nat → Option Addr) (C : Nat → Nat) (id : Int) (w : World) (h : HW lo z now R P C w) (hlo : lo ≤ w.heap.size) (hg : GoodR now R) (hz : ∀ k, 16 ≤ k → R k = []) :
    Calls Try.prog 63 #[.pointer (some ⟨z, 0, none⟩), .int .i64 id] w fun e w' =>
      (((∃ x ∈ allR R, x.1 = id) ∧ e = .returned (.bool true) ∧ ∃ P' C', HW lo z now (dropR id R) P' C' w') ∨ (¬ (∃ x ∈ allR R, x.1 = id) ∧ e = .returned (.bool false))) ∧ Mod (HX z P) w w' := by
  have HH : Hid (HW lo z now R P C w) := h
  have HLO : Hid (lo ≤ w.heap.size) := hlo
  have HG : Hid (GoodR now R ∧ ∀ k, 16 ≤ k → R k = []) := ⟨hg, hz⟩
  have hln : ∀ k, k < 16 → (R k).length ≤ 20 := fun k hk => Nat.le_trans (len_row (S := R) hk) hg.len
  have HLN : Hid (∀ k, k < 16 → (R k).length ≤ 20) := hln
  have hcel : Cells w z 1 16 (fun i => .slice (P i) (R i).length (C i)) := fun i hi => ⟨h.cell hi, h.box.frozen _⟩
  clear h hlo hg hz hln
  go_enter Try.func63, Try.ntmps63
  go_wp2_with (first | (refine load_big rfl 69 _ rfl z 1 16 rfl (fun i => .slice (P i) (R i).length (C i)) wd69 hcel ?_) | fail)
  clear hcel
  go_loopw [13] (fun i wr => ∃ k : Nat, k ≤ 16 ∧ i = .int .i64 k ∧ Hid (Blw w wr ∧ ∀ j, j < k → ¬ hasId (R j) id)) (fun i _ => 16 - (intOf i).toNat)
  case atStart => exact ⟨0, Nat.zero_le _, rfl, Blw.refl _, fun j hj => absurd hj (Nat.not_lt_zero _)⟩
  case round =>
    obtain ⟨k, hk, rfl, hI⟩ := hrel
    by_cases hk16 : k < 16
    · have hk16i : (k : Int) < 16 := by omega
      have hixr : ∀ W, (Instr.index 69 (.agg (lst 16 (fun i => Value.slice (P i) (R i).length (C i))).toArray) (.int .i64 k)).run Try.prog W = .ok (.slice (P k) (R k).length (C k)) W := fun W => index_big W _ k hk16
      have HFT : Hid (∀ W, Blw w W → Calls Try.prog 90 #[.slice (P k) (R k).length (C k), .int .i64 id] W fun e w' => ∃ b, e = .returned (.tuple #[.int .i64 (pos (R k) id : Nat), .bool b]) ∧ BOf (hasId (R k) id) b ∧ Blw W w') := fun W hb => findT_any (P k) (C k) (R k) id _ W (HG.out.1.sd k hk16) (by have := HLN.out k hk16; omega) ((HH.out.blw hb).at hk16 (by have := HLN.out k hk16; omega))
      by_cases hh : hasId (R k) id
      · have HHA : Hid (hasId (R k) id) := hh
        clear hh
        go_upto_region 5 with (first | (go_at_call 90; refine (HFT.out _ hI.out.1).mono ?_; rintro e w2 ⟨b, rfl, hb, hbw⟩; obtain rfl : b = true := hb.2 HHA.out; clear hb) | fail)
        have hbw2 := hI.out.1.trans hbw
        have HAS : Hid (∃ x ∈ allR R, x.1 = id) := by
          obtain ⟨x, hx, e⟩ := (hasId_iff (HG.out.1.sd k hk16) id).1 HHA.out
          exact ⟨x, row_sub hk16 hx, e⟩
        have hpl : pos (R k) id < (R k).length := HHA.out.1
        have hpw : IntKind.i64.wrap ((pos (R k) id : Int) + 1) = (pos (R k) id : Int) + 1 := by have := HLN.out k hk16; rw [IntKind.wrap_i64]; omega
        have hbd : Blw w w2.drew := hbw2.trans (Blw.refl _).drew
        have HDEL : Hid (Calls Try.prog 91 #[.slice (P k) (R k).length (C k), .int .i64 (pos (R k) id : Nat), .int .i64 ((pos (R k) id : Int) + 1)] w2.drew fun e w' => e = .returned (.slice (P k) ((R k).take (pos (R k) id) ++ (R k).drop (pos (R k) id + 1)).length (C k)) ∧ Hid ((∃ P' C', HW lo z now (dropR id R) P' C' (w'.setCell ⟨z, 1 + k, none⟩ (.slice (P k) ((R k).take (pos (R k) id) ++ (R k).drop (pos (R k) id + 1)).length (C k)))) ∧ Mod (HX z P) w (w'.setCell ⟨z, 1 + k, none⟩ (.slice (P k) ((R k).take (pos (R k) id) ++ (R k).drop (pos (R k) id + 1)).length (C k)))) ∧ w'.cell? ⟨z, 1 + k, none⟩ = some (.slice (P k) (R k).length (C k)) ∧ w'.frozen? ⟨z, 1 + k, none⟩ = false) := by
          have hH2 := HH.out.blw hbd
          rcases Buf.rowE (hH2.buf k hk16) with ⟨h0, h1, h2⟩ | ⟨g', f', h0, _⟩
          · omega
          · have hbf := hH2.buf k hk16
            rw [h0] at hbf ⊢
            refine (delete_any g' (C k) (pos (R k) id) (R k) w2.drew hpl (by have := HLN.out k hk16; omega) _ hbf).mono ?_
            rintro e w' ⟨rfl, hB, hm⟩
            have hm2 : Mod (fun b => P k = some ⟨b, 0, none⟩) w2.drew w' := hm.mono (fun b hb => by rw [hb]; exact h0)
            have hz1 := hH2.box.mod hm2 (fun e => (hH2.lo k z hk16 e).2 rfl)
            have hup := hH2.upd hk16 (Nat.le_trans HLO.out hbd.size) hm2 (hB.mono (fun b hb => ⟨Or.inl (by rw [hb]; exact h0), by rw [hb]; exact Nat.lt_of_lt_of_le (hH2.lt hk16 h0) hm.size⟩))
            rw [dropR_upd HG.out.1 HG.out.2 hk16 HHA.out] at hup
            refine ⟨rfl, ⟨⟨_, _, hup⟩, (hbd.mod _).trans (hH2.upd_mod hk16 hm2 _)⟩, ?_, hz1.frozen _⟩
            rw [hz1.cell (i := 1 + k) (by omega)]
            simp only [hcell, if_neg (show ¬ 1 + k = 0 by omega), show 1 + k - 1 = k by omega, h0]
        obtain ⟨L, hL⟩ : ∃ L, (R k).take (pos (R k) id) ++ (R k).drop (pos (R k) id + 1) = L := ⟨_, rfl⟩
        rw [hL] at HDEL
        clear hL hI HFT hbd hpl HH HG HLN
        go_upto_region 6 with fail
        refine wp_region_noPanic ?_
        refine wp_region_held_drew (S := fun _ => True) (by kernel_rfl) trivial (fun hB => ?_)
        clear hB
        refine wpAnyH_take (i := 0) (oi := { dst := some 24, op := Op.move (Operand.tmp 0), type := 99, pos := _, after := #[], guard := none }) (v := (.pointer (some ⟨z, 0, none⟩))) rfl (by kernel_rfl) (by kernel_rfl) (by kernel_rfl) (fun _ _ _ h => h) (Or.inl ⟨by rfl, fun w' hS => by (try dsimp only at hS); go_simp⟩) trivial ?_
        simp only [Act.put, List.setIfInBounds_toArray, List.set_cons_zero, List.set_cons_succ]
        refine wpAnyH_take (i := 1) (oi := { dst := some 25, op := Op.move (Operand.tmp 5), type := 3, pos := _, after := #[], guard := none }) (v := (.int .i64 (k : Nat))) rfl (by kernel_rfl) (by kernel_rfl) (by kernel_rfl) (fun _ _ _ h => h) (Or.inl ⟨by rfl, fun w' hS => by (try dsimp only at hS); go_simp⟩) trivial ?_
        simp only [Act.put, List.setIfInBounds_toArray, List.set_cons_zero, List.set_cons_succ]
        refine wpAnyH_take (i := 2) (oi := { dst := some 26, op := Op.move (Operand.tmp 6), type := 31, pos := _, after := #[], guard := none }) (v := (.slice (P k) (R k).length (C k))) rfl (by kernel_rfl) (by kernel_rfl) (by kernel_rfl) (fun _ _ _ h => h) (Or.inl ⟨by rfl, fun w' hS => by (try dsimp only at hS); go_simp⟩) trivial ?_
        simp only [Act.put, List.setIfInBounds_toArray, List.set_cons_zero, List.set_cons_succ]
        refine wpAnyH_take (i := 3) (oi := { dst := some 27, op := Op.move (Operand.tmp 7), type := 3, pos := _, after := #[], guard := none }) (v := (.int .i64 (pos (R k) id : Nat))) rfl (by kernel_rfl) (by kernel_rfl) (by kernel_rfl) (fun _ _ _ h => h) (Or.inl ⟨by rfl, fun w' hS => by (try dsimp only at hS); go_simp⟩) trivial ?_
        simp only [Act.put, List.setIfInBounds_toArray, List.set_cons_zero, List.set_cons_succ]
        refine wpAnyH_take (i := 4) (oi := { dst := some 28, op := Op.move (Operand.tmp 7), type := 3, pos := _, after := #[], guard := none }) (v := (.int .i64 (pos (R k) id : Nat))) rfl (by kernel_rfl) (by kernel_rfl) (by kernel_rfl) (fun _ _ _ h => h) (Or.inl ⟨by rfl, fun w' hS => by (try dsimp only at hS); go_simp⟩) trivial ?_
        simp only [Act.put, List.setIfInBounds_toArray, List.set_cons_zero, List.set_cons_succ]
        refine wpAnyH_take (i := 5) (oi := { dst := some 29, op := Op.binOp BinOp.add 3 (Operand.tmp 28) (Operand.const (Value.int IntKind.i64 1)) 3, type := 3, pos := _, after := #[{ on := 4, ground := Ground.data }], guard := none }) (v := (.int .i64 ((pos (R k) id : Int) + 1))) rfl (by kernel_rfl) (by kernel_rfl) (by kernel_rfl) (fun _ _ _ h => h) (Or.inl ⟨by rfl, fun w' hS => by (try dsimp only at hS); go_simp⟩) trivial ?_
        simp only [Act.put, List.setIfInBounds_toArray, List.set_cons_zero, List.set_cons_succ]
        refine wpAnyH_take (i := 7) (oi := { dst := some 31, op := Op.nilCheck (Operand.tmp 24), type := 0, pos := _, after := #[{ on := 0, ground := Ground.data }], guard := none }) (v := (.pointer (some ⟨z, 0, none⟩))) rfl (by kernel_rfl) (by kernel_rfl) (by kernel_rfl) (fun _ _ _ h => h) (Or.inl ⟨by rfl, fun w' hS => by (try dsimp only at hS); go_simp⟩) trivial ?_
        simp only [Act.put, List.setIfInBounds_toArray, List.set_cons_zero, List.set_cons_succ]
        refine wpAnyH_take (i := 8) (oi := { dst := some 32, op := Op.fieldAddr 71 (Operand.tmp 31) 1, type := 0, pos := _, after := #[{ on := 7, ground := Ground.data }], guard := none }) (v := (.pointer (some ⟨z, 1, none⟩))) rfl (by kernel_rfl) (by kernel_rfl) (by kernel_rfl) (fun _ _ _ h => h) (Or.inl ⟨by rfl, fun w' hS => by (try dsimp only at hS); go_simp⟩) trivial ?_
        simp only [Act.put, List.setIfInBounds_toArray, List.set_cons_zero, List.set_cons_succ]
        refine wpAnyH_ready (rs := [6]) (by kernel_rfl) (by simp) ?_
        refine AllReadyH.cons (o := { dst := some 30, op := Op.call { callee := Callee.value (Operand.func 91), args := #[Operand.tmp 26, Operand.tmp 27, Operand.tmp 29], argTypes := #[31, 3, 3] }, type := 31, pos := _, after := #[{ on := 2, ground := Ground.data }, { on := 3, ground := Ground.data }, { on := 5, ground := Ground.data }], guard := none }) rfl (fun K hK => ?_) AllReadyH.nil
        go_simp
        refine HDEL.out.mono ?_
        rintro e w9 ⟨rfl, hE9, g1, g2⟩
        refine hK.out _ _ trivial (fun hB => ?_)
        clear hK K hB
        try simp only [Act.put, List.setIfInBounds_toArray, List.set_cons_zero, List.set_cons_succ]
        refine wpAnyH_take (i := 9) (oi := { dst := some 33, op := Op.indexAddr 69 (Operand.tmp 32) (Operand.tmp 25), type := 0, pos := _, after := #[{ on := 8, ground := Ground.data }, { on := 1, ground := Ground.data }, { on := 0, ground := Ground.phase }, { on := 1, ground := Ground.phase }, { on := 2, ground := Ground.phase }, { on := 3, ground := Ground.phase }, { on := 4, ground := Ground.phase }, { on := 5, ground := Ground.phase }, { on := 6, ground := Ground.phase }], guard := none }) (v := (.pointer (some ⟨z, 1 + k, none⟩))) rfl (by kernel_rfl) (by kernel_rfl) (by kernel_rfl) (fun _ _ _ h => h) (Or.inl ⟨by rfl, fun w' hS => by (try dsimp only at hS); go_simp⟩) trivial ?_
        simp only [Act.put, List.setIfInBounds_toArray, List.set_cons_zero, List.set_cons_succ]
        refine wpAnyH_ready (rs := [10]) (by kernel_rfl) (by simp) ?_
        refine AllReadyH.cons (o := { dst := none, op := Op.store 31 (Operand.tmp 33) (Operand.tmp 30), type := 0, pos := _, after := #[{ on := 9, ground := Ground.data }, { on := 6, ground := Ground.data }, { on := 6, ground := Ground.chain }, { on := 0, ground := Ground.phase }, { on := 1, ground := Ground.phase }, { on := 2, ground := Ground.phase }, { on := 3, ground := Ground.phase }, { on := 4, ground := Ground.phase }, { on := 5, ground := Ground.phase }, { on := 6, ground := Ground.phase }], guard := none }) rfl (fun K hK => ?_) AllReadyH.nil
        go_simp
        refine hK.out _ _ trivial (fun hB => ?_)
        clear hK K hB
        try simp only [Act.put, List.setIfInBounds_toArray, List.set_cons_zero, List.set_cons_succ]
        refine wpAnyH_done (by kernel_rfl) ?_ _
        refine NoPanic.normal ?_
        go_wp2_with fail
        go_ret
        exact ⟨Or.inl ⟨HAS.out, rfl, hE9.out.1⟩, hE9.out.2⟩
      · have HHA : Hid (¬ hasId (R k) id) := hh
        clear hh
        go_wp2_with (first | (go_at_call 90; refine (HFT.out _ hI.out.1).mono ?_; rintro e w2 ⟨b, rfl, hb, hbw⟩; obtain rfl : b = false := (by cases b; rfl; exact absurd (hb.1 rfl) HHA.out); clear hb) | fail)
        go_roundw
        case rel => exact ⟨k + 1, by omega, by go_num, hI.out.1.trans hbw, fun j hj => (by
          by_cases e : j = k
          · subst e; exact HHA.out
          · exact hI.out.2 j (by omega))⟩
        case measure => simp [intOf]; omega
    · obtain rfl : k = 16 := by omega
      have HNO : Hid (¬ ∃ x ∈ allR R, x.1 = id) := by
        rintro ⟨x, hx, e⟩
        obtain ⟨j, hj, hxj⟩ := mem_all.1 hx
        exact hI.out.2 j hj ((hasId_iff (HG.out.1.sd j hj) id).2 ⟨x, hxj, e⟩)
      go_wp2_with fail
      go_ret
      exact ⟨Or.inr ⟨HNO.out, rfl⟩, hI.out.1.mod _⟩
end Go.Proofs.Ytkmkidahaagbpaa
