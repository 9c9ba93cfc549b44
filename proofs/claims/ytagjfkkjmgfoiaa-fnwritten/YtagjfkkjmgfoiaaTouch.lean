/- 'touched': the cells of the log, rising. -/
import Derived.Test.YtagjfkkjmgfoiaaSortB
import Derived.Test.YtagjfkkjmgfoiaaGive
namespace Go.Proofs.Ytagjfkkjmgfoiaa
open Go.RowKit Go.ChangeMaps
set_option linter.unusedSimpArgs false
set_option linter.unusedVariables false
def pick (seen : List Nat) (lc : Nat → Int) : Nat → Int := fun i => lc (seen.getD i 0)
theorem pick_at {seen : List Nat} {lc : Nat → Int} {i : Nat} (hi : i < seen.length) : pick seen lc i = lc seen[i] := by simp [pick, hi]
theorem pick_snoc (seen : List Nat) (lc : Nat → Int) (i t : Nat) (ht : t < seen.length + 1) : snoc' seen.length (pick seen lc) (lc i) t = pick (seen ++ [i]) lc t := by
  by_cases e : t = seen.length
  · subst e; simp [snoc', pick]
  · have h1 : t < seen.length := by omega
    simp [snoc', e, pick, h1, List.getElem?_append_left]
theorem all_seen {seen : List Nat} {k : Nat} (hn : seen.Nodup) (hlt : ∀ t ∈ seen, t < k) (hall : ∀ t, t < k → t ∈ seen) : seen.length = k := by
  have h1 := seen_le hn hlt
  have h2 : k ≤ seen.length := by
    refine pigeon seen.length k (fun i => ((seen.idxOf i : Nat) : Int)) (fun i hi => ?_) (fun i j hi hj e => ?_)
    · have := List.idxOf_lt_length_of_mem (hall i hi)
      omega
    · have a := List.idxOf_lt_length_of_mem (hall i hi)
      have b := List.idxOf_lt_length_of_mem (hall j hj)
      have e1 : seen.idxOf i = seen.idxOf j := by dsimp only at e; omega
      have e2 := List.getElem_idxOf a
      have e3 := List.getElem_idxOf b
      rw [← e2, ← e3]
      simp [e1]
  omega
/-- What stands while the cells are collected. -/
structure Coll (w wr : World) (r bm cl k : Nat) (lc lw : Nat → Int) (v : Value) (seen : List Nat) : Prop where
  blw : Blw w wr
  it : Iter wr bm r cl lc lw (List.range k) seen
  nd : seen.Nodup
  lt : ∀ t ∈ seen, t < k
  buf : BufI (fun b => w.heap.size < b ∧ b < wr.heap.size) wr v seen.length (pick seen lc)
set_option maxHeartbeats 3200000 in
theorem touched_any (H bm cl k : Nat) (c lc lw : Nat → Int) (w : World) (hk : k ≤ 8) (hcl : k ≤ cl) (hd : distinct k lc) (hB : Row w H 9 (hcell c bm)) (hL : LogIx w bm cl lc lw (List.range k)) :
    Calls Try.prog 72 #[.pointer (some ⟨H, 0, none⟩)] w fun e w' => ∃ (ao : Option Addr) (cap : Nat) (f : Nat → Int), e = .returned (.slice ao k cap) ∧ tOut k lc k f ∧ IntsOwn (fun b => w.heap.size < b ∧ b < w'.heap.size) w' ao k f ∧ Blw w w' := by
  have p8 : w.cell? ⟨H, 8, none⟩ = some (.map (some bm)) := by
    have := hB.cell (i := 8) (by omega)
    simpa [hcell] using this
  have HD : Hid (distinct k lc) := hd
  have hM := hL.lt
  clear hB hd
  go_enter Try.func72, Try.ntmps72
  go_wp2_with (first | (at_range; refine wpList_range_log rfl _ rfl rfl hL ?_; intro hit) | go_in)
  have HT : Hid (Iter (w.alloc (.mapIter (some bm) cl #[] cl)) bm w.heap.size cl lc lw (List.range k) []) := hit
  clear hit p8 hL
  go_frame
  go_loopw [3, 4] (fun v _ wr => ∃ seen, Coll w wr w.heap.size bm cl k lc lw v seen) (fun _ _ wr => itLeft wr w.heap.size k)
  case atStart => exact ⟨[], (Blw.refl _).alloc _, HT.out, List.nodup_nil, fun t ht => absurd ht (by simp), Buf.nil _ _ _ _ _⟩
  case round =>
    obtain ⟨seen, hc⟩ := hrel
    have HC : Hid (Coll w wr w.heap.size bm cl k lc lw u3 seen) := hc
    have hit := hc.it
    have hsl := seen_le hc.nd hc.lt
    clear hc HT
    go_wp2_with (first | (at_next; refine wpList_next_log rfl _ rfl rfl hit (fun t ht => by have := List.mem_range.1 ht; omega) List.nodup_range (by omega) ?_ ?_) | go_in)
    · intro hall
      have hlen : seen.length = k := all_seen HC.out.nd HC.out.lt (fun t ht => hall t (by first | exact ht | exact List.mem_range.2 ht))
      have hbf := HC.out.buf
      rw [hlen] at hbf
      have HBF : Hid (BufI (fun b => w.heap.size < b ∧ b < wr.heap.size) wr u3 k (pick seen lc)) := hbf
      have HIN : Hid (∀ x, isIn k (pick seen lc) x ↔ ∃ t, t < k ∧ lc t = x) := fun x => by
        constructor
        · rintro ⟨i, hi, e⟩
          rw [pick_at (by omega)] at e
          exact ⟨_, HC.out.lt _ (List.getElem_mem _), e⟩
        · rintro ⟨t, ht, e⟩
          have hm : t ∈ seen := hall t (by first | exact ht | exact List.mem_range.2 ht)
          have hl := List.idxOf_lt_length_of_mem hm
          exact ⟨seen.idxOf t, by omega, by rw [pick_at hl, List.getElem_idxOf hl, e]⟩
      have HDS : Hid (distinct k (pick seen lc)) := fun p q hp hq e => by
        rw [pick_at (by omega), pick_at (by omega)] at e
        exact nodup_inj HC.out.nd (by omega) (by omega) (HD.out _ _ (HC.out.lt _ (List.getElem_mem _)) (HC.out.lt _ (List.getElem_mem _)) e)
      have HW : Hid (Blw w wr) := HC.out.blw
      clear hbf hall hit hlen HC hsl
      rcases HBF.out.1.2 with ⟨rfl, rfl⟩ | ⟨g, cap, cur, rfl, -, hb, -⟩
      · go_wp2_with fail
        refine (sort_nil _).mono ?_
        rintro e w' ⟨rfl, rfl⟩
        go_wp2
        go_ret
        exact ⟨none, 0, pick seen lc, rfl, ⟨fun i j _ hj => absurd hj (Nat.not_lt_zero _), HIN.out⟩, IntsOwn.nil _ _ _ _, HW.out⟩
      · have hg : w.heap.size < g ∧ g < wr.heap.size := HBF.out.2 g rfl
        have HRW : Hid (Row wr g k (ic (pick seen lc))) := by
          rcases Nat.eq_zero_or_pos k with h0 | h0
          · subst h0
            exact ⟨cur, 3, hb, Nat.zero_le _, fun i hi => absurd hi (Nat.not_lt_zero _)⟩
          · obtain ⟨_, _, e, h1⟩ := Buf.form HBF.out
            cases e
            obtain ⟨g', -, e, r⟩ := h1 h0
            cases e
            rw [Nat.mul_one] at r
            exact r
        clear hb HBF
        go_wp2_with fail
        refine (sort_any g k cap (pick seen lc) _ hk HDS.out HRW.out).mono ?_
        rintro e w2 ⟨rfl, f, hmx, hst, hr, hm⟩
        have HTO : Hid (tOut k lc k f) := ⟨fun i j hij hj => by
          have h1 := hst i j hij hj
          have h2 : f i ≠ f j := fun e => by have := hmx.d i j (by omega) hj e; omega
          omega, fun x => by rw [hmx.m x, HIN.out x]⟩
        have HR2 : Hid (Row w2 g k (ic f)) := hr
        have HM2 : Hid (Mod (fun x => x = g) wr w2) := hm
        clear hmx hst hr hm HRW HDS HIN
        go_wp2
        go_ret
        have h5 := HM2.out.size
        exact ⟨some ⟨g, 0, none⟩, cap, f, rfl, HTO.out, ⟨by omega, fun _ => ⟨g, by omega, rfl, HR2.out⟩⟩, Mod.blw HW.out HM2.out (fun i hi => by omega)⟩
    · intro i w2 hi hns hit2 hm2 hen
      have hik : i < k := by simpa using hi
      have hbf2 := Buf.mod HC.out.buf hm2 (fun b hb e => by omega)
      obtain ⟨ao, cap, w3, hrun, hB3, hM3⟩ := pushI hbf2 (by omega) (lc i)
      have hb2 : Blw w w2 := Mod.blw HC.out.blw hm2 (fun i hi => by omega)
      have hx : ∀ b, u3.ownBlock = some b → w.heap.size < b := fun b hb => (HC.out.buf.2 b hb).1
      have HS : Hid (Coll w w3 w.heap.size bm cl k lc lw (.slice ao (seen.length + 1) cap) (seen ++ [i])) := by
        have h2 := hb2.size
        refine ⟨Mod.blw hb2 hM3 (fun b hb => Nat.le_of_lt (hx b hb)), hit2.mod hM3 (fun e => by have := hx _ e; omega) (fun e => by have := hx _ e; omega), ?_, ?_, ?_⟩
        · rw [List.nodup_append]
          exact ⟨HC.out.nd, by simp, fun a ha b hb e => by simp at hb; subst hb; subst e; exact hns ha⟩
        · intro t ht
          rcases List.mem_append.1 ht with ht | ht
          · exact HC.out.lt t ht
          · simp at ht; omega
        · have e1 : (seen ++ [i]).length = seen.length + 1 := by simp
          rw [e1]
          refine (Buf.congr hB3 (fun t ht => ?_)).mono (fun b hb => ⟨?_, hb.2⟩)
          · simp only [ic]
            rw [pick_snoc seen lc i t (by omega)]
          · rcases hb.1 with h | h
            · exact h.1
            · omega
      have HRN : Hid _ := hrun
      have HL2 : Hid (itLeft w3 w.heap.size k < itLeft wr w.heap.size k) := by
        show _ < _
        rw [HS.out.it.left, HC.out.it.left]
        have := seen_le HS.out.nd HS.out.lt
        simp at this ⊢
        omega
      clear hrun hB3 hM3 hbf2 hb2 hx hit hit2 hm2 hi HC
      go_wp2_with (first | (at_builtin; refine wpList_app (.tmp 14) (.tmp 16) 23 (by kernel_rfl) ?_; refine ⟨_, _, HRN.out, ?_⟩) | go_in)
      go_roundw
      case rel => exact ⟨_, HS.out⟩
      case measure => exact HL2.out
end Go.Proofs.Ytagjfkkjmgfoiaa
