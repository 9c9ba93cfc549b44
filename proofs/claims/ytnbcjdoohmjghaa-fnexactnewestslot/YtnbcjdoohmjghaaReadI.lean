/- 'impl.ReadSlots'. -/
import Derived.Test.YtnbcjdoohmjghaaSlotL
import Derived.Test.YtnbcjdoohmjghaaLoadB
namespace Go.Proofs.Ytnbcjdoohmjghaa
open Go.RowKit
set_option linter.unusedSimpArgs false
theorem words_at {w : World} {B i : Nat} {s c : Nat → Nat → Int} {d : Nat → Bool} (h : Row w B 108 (hcell s c d)) (hi : i < 12) : w.rangeAt B (48 + i * 4) (words4 (c i)) := by
  intro j v hv
  have hh : ∀ j, j < 4 → w.cell? ⟨B, 48 + i * 4 + j, none⟩ = some (.int .i64 (c i j)) := fun j hj => by
    have := h.cell (i := 48 + (i * 4 + j)) (by omega)
    rw [hcell_c hi hj, ← Nat.add_assoc] at this
    exact this
  match j, hv with
  | 0, hv => rw [hh 0 (by omega)]; exact hv
  | 1, hv => rw [hh 1 (by omega)]; exact hv
  | 2, hv => rw [hh 2 (by omega)]; exact hv
  | 3, hv => rw [hh 3 (by omega)]; exact hv
  | j + 4, hv => simp [words4] at hv
theorem four_words (f : Nat → Int) : Value.agg (words4 f).toArray = .agg (four f) := rfl
/-- What is appended: a slot in a new block. -/
theorem slot_src (w : World) (e a b : Int) : ∀ j u, [Value.int .i64 e, .int .i64 a, .int .i64 b][j]? = some u → (w.alloc (.cells #[.int .i64 e, .int .i64 a, .int .i64 b] 56)).cell? ((⟨w.heap.size, 0, none⟩ : Addr).add j) = some u := fun j u hj => by
  have r := box3 w (.int .i64 e) (.int .i64 a) (.int .i64 b) 56
  obtain ⟨r0, r1, r2⟩ := get3 r
  match j, hj with
  | 0, hj => rw [← hj]; exact r0
  | 1, hj => rw [← hj]; exact r1
  | 2, hj => rw [← hj]; exact r2
  | j + 3, hj => simp at hj
theorem slot_one (e a b : Int) : ∀ u ∈ [Value.int .i64 e, .int .i64 a, .int .i64 b], u.oneCell' = true := fun u hu => by
  simp only [List.mem_cons, List.not_mem_nil, or_false] at hu
  rcases hu with rfl | rfl | rfl <;> rfl
set_option maxRecDepth 10000 in
set_option maxHeartbeats 3200000 in
theorem implRead_any (m : MV) (M : MD) (Y : Nat → Prop) (w : World) (h : MemAt Y w m M) :
    Calls Try.prog 53 #[m.val M] w (GivesS (rsOut M) w) := by
  obtain ⟨i0, hi0, hz0, hz1, hz2⟩ := info_parts tinfo56
  go_enter Try.func53, Try.ntmps53
  go_wp2_with fail
  have hb0 : Blw w (w.alloc (.cells #[.slice m.a1 M.n1 m.c1, .slice m.a2 M.n2 m.c2, .slice m.a3 M.n3 m.c3] 26)) := (Blw.refl _).alloc _
  refine (holdMemory_any m M Y _ (h.blw hb0)).mono ?_
  rintro e w1 ⟨hr, hb1⟩
  replace hb1 := hb0.trans hb1
  have r79 := row79 w1
  have zw := hb1.size
  clear h hb0
  rcases hr with ⟨good, cs, z1, z2, rfl⟩ | ⟨bad, rfl⟩
  · have hi : (Try.prog.info? 98).map (·.size) = some cs.size := by rw [z1]; exact info79
    have one := one_cells' z1 z2
    have GD : Hid M.Good := good
    clear good
    go_wp2_with (refine wpList_store_row rfl 98 (.tmp 4) (.tmp 13) rfl w1.heap.size 0 cs rfl rfl 108 _ (hcell M.v1 M.v2 M.d) r79 (by omega) hi one (fun j hj => z2 j (by omega)) ?_; intro wz qz1 qz2 qz3; have hz := held_facts' hb1 qz1 qz2 z1; obtain ⟨rH, hbz⟩ := hz; clear qz1 qz2 qz3)
    have HZ : Hid (Row wz w1.heap.size 108 (hcell M.v1 M.v2 M.d) ∧ Blw w wz) := ⟨rH, hbz⟩
    clear r79 hi one z1 z2 hb1 rH hbz
    generalize w1.heap.size = z at *
    go_loopw [6, 17] (fun v i wr => ∃ k : Nat, k ≤ 2 ∧ i = .int .i64 k ∧ PutS wz wr v (rdL M.v2 k)) (fun _ i _ => 2 - (intOf i).toNat)
    case atStart => exact ⟨0, by omega, rfl, PutS.nil (Blw.refl _)⟩
    case round =>
      obtain ⟨k, hk, rfl, I⟩ := hrel
      by_cases hlt : k < 2
      · have hlt' : (k : Int) < 2 := by omega
        have HI : Hid (PutS wz wr _ (rdL M.v2 k)) := I
        have L := words_at (HZ.out.1.blw I.blw) (i := k) (by omega)
        clear I
        go_wp2_with (refine wpList_load_mid rfl 94 (.tmp 24) rfl z (48 + k * 4) rfl (words4 (M.v2 k)) _ L Try.underlying94 rfl info75 ?_; rw [four_words])
        clear L
        refine (slotIn_any k (M.v2 k) _ hlt).mono ?_
        rintro r w2 ⟨hr, hb2⟩
        have ln := rdL_len M.v2 k
        rcases hr with ⟨hr, rfl⟩ | ⟨hr, rfl⟩
        · have HR : Hid (recI (M.v2 k) k) := hr
          have hb3 : Blw wr ((w2.alloc (.cells #[.int .i64 (M.v2 k 0), .int .i64 (M.v2 k 1), .int .i64 (M.v2 k 2)] 56)).alloc (.cells #[.int .i64 (M.v2 k 0), .int .i64 (M.v2 k 1), .int .i64 (M.v2 k 2)] 56)) := (hb2.alloc _).alloc _
          have HO : Hid (PutS wz ((w2.alloc (.cells #[.int .i64 (M.v2 k 0), .int .i64 (M.v2 k 1), .int .i64 (M.v2 k 2)] 56)).alloc (.cells #[.int .i64 (M.v2 k 0), .int .i64 (M.v2 k 1), .int .i64 (M.v2 k 2)] 56)) _ (rdL M.v2 k)) := HI.out.more hb3
          have HSrc := slot_src (w2.alloc (.cells #[.int .i64 (M.v2 k 0), .int .i64 (M.v2 k 1), .int .i64 (M.v2 k 2)] 56)) (M.v2 k 0) (M.v2 k 1) (M.v2 k 2)
          rw [World.size_alloc] at HSrc
          have HS : Hid _ := HSrc
          clear hb3 hb2 HSrc HI hr
          go_wp2_with (at_builtin; refine wpList_append_lies _ rfl (.tmp 30) (.tmp 32) 64 rfl 0 56 i0 (.agg #[.int .i64 0, .int .i64 0, .int .i64 0]) 3 24 Try.underlying64 hi0 hz0 hz1 hz2 rfl (by decide) _ (rdL M.v2 k).length _ rfl HO.out.own ⟨w2.heap.size + 1, 0, none⟩ 1 1 [.int .i64 (M.v2 k 0), .int .i64 (M.v2 k 1), .int .i64 (M.v2 k 2)] rfl (by simp) HS.out (slot_one _ _ _) (by omega) (by unfold maxLen; omega) (by omega) (by omega) _ rfl ?_; intro g cap w' own' gr hg hgl; have I' := HO.out.next (t := (M.v2 k 0, M.v2 k 1, M.v2 k 2)) own' gr hg hgl; clear own' gr hg hgl)
          clear HO HS
          go_roundw
          case rel => exact ⟨k + 1, by omega, by go_num, by rw [rdL_yes HR.out]; exact I'⟩
          case measure => simp [intOf]; omega
        · have HR : Hid (¬ recI (M.v2 k) k) := hr
          have hb3 : Blw wr (w2.alloc (.cells #[.int .i64 0, .int .i64 0, .int .i64 0] 56)) := hb2.alloc _
          have I' := HI.out.more hb3
          clear hb3 hb2 HI hr
          go_wp2
          go_roundw
          case rel => exact ⟨k + 1, by omega, by go_num, by rw [rdL_no HR.out]; exact I'⟩
          case measure => simp [intOf]; omega
      · obtain rfl : k = 2 := by omega
        obtain ⟨ao, cap, rfl, own⟩ := I.owned (rdL_len M.v2 2)
        have hbI := HZ.out.2.trans I.blw
        have zz := HZ.out.2.size
        clear I HZ
        go_wp2
        go_ret2
        exact ⟨ao, _, cap, _, true, rfl, Or.inl ⟨GD.out, rfl, rfl, rfl⟩, own.mono (fun b hb => ⟨by omega, hb.2⟩), hbI⟩
  · have NG : Hid (¬ M.Good) := bad
    clear bad
    go_wp2_with (refine wpList_store_row rfl 98 (.tmp 4) (.tmp 13) rfl w1.heap.size 0 Try.zeroCells98 rfl rfl 108 _ (hcell zeros zeros (fun _ => false)) r79 (by rw [size79]; omega) (by rw [size79]; exact info79) one79 cell79 ?_; intro wz qz1 qz2 qz3; have hz := held_facts' hb1 qz1 qz2 size79; obtain ⟨rH, hbz⟩ := hz; clear qz1 qz2 qz3 rH)
    go_ret2
    exact zero_givesS NG.out hbz
end Go.Proofs.Ytnbcjdoohmjghaa
