/- The program's tables, held as values. -/
import Derived.Test.YtjplodenflkghaaHoldM
namespace Go.Proofs.Ytjplodenflkghaa
open Go.RowKit
set_option linter.unusedSimpArgs false
set_option linter.unusedVariables false
set_option maxRecDepth 10000 in
set_option maxHeartbeats 6400000 in
theorem hold_any (b : BV) (B : BD) (Y : Nat → Prop) (w : World) (h : BookAt Y w b B) (hY : ∀ x, Y x → x < w.heap.size) :
    Calls Try.prog 102 #[b.val B] w fun e w' => ((∃ zl, B.Good ∧ e = .returned (.tuple #[.agg (held5 B.c zl B.D.n), .bool true]) ∧ Row w' zl (B.D.n * 8) (lc B.D.p B.D.m) ∧ w.heap.size ≤ zl) ∨ (¬ B.Good ∧ e = .returned (.tuple #[.agg zero5, .bool false]))) ∧ Blw w w' := by
  obtain ⟨n, c, ⟨kn, len, p, m⟩⟩ := B
  obtain ⟨a1, a2, q1, q2⟩ := b
  simp only [BV.val] at *
  have hn := h.c.1
  have hk := h.l.1
  dsimp only at hn hk
  have HC : Hid (IntsAt Y w a1 n c) := h.c
  have HL : Hid (PSAt Y w a2 ⟨kn, len, p, m⟩) := h.l
  clear h
  by_cases h4 : n = 4
  case neg =>
    have hb1 : Blw w ((w.alloc (.cells #[.slice a1 n q1, .slice a2 kn q2] 29)).alloc (.cells #[.int .i64 0, .int .i64 0, .int .i64 0, .int .i64 0, .slice none 0 0] 129)) := ((Blw.refl _).alloc _).alloc _
    have rA := (box2 w (.slice a1 n q1) (.slice a2 kn q2) 29).blw ((Blw.refl _).alloc (.cells #[.int .i64 0, .int .i64 0, .int .i64 0, .int .i64 0, .slice none 0 0] 129))
    have rR := zrow5 (w.alloc (.cells #[.slice a1 n q1, .slice a2 kn q2] 29)) (.slice none 0 0) 129
    rw [World.size_alloc] at rR
    obtain ⟨p0, p1⟩ := get2 rA
    obtain ⟨t0, t1, t2, t3, t4⟩ := zget rR
    have f0 := rR.frozen 0; have f1 := rR.frozen 1; have f2 := rR.frozen 2; have f3 := rR.frozen 3; have f4 := rR.frozen 4
    go_enter Try.func102, Try.ntmps102
    have HN : Hid (¬ BD.Good ⟨n, c, ⟨kn, len, p, m⟩⟩) := fun g => h4 g.n
    have d4 : ((n : Int) != 4) = true := by simp; omega
    clear h4 rA rR
    go_wp2
    refine bodyPost_ret (v := .tuple #[.agg zero5, .bool false]) (by simp [results, Try.results102, go_sem, t0, t1, t2, t3, t4]) rfl ?_
    refine ⟨Or.inr ⟨HN.out, rfl⟩, ?_⟩
    first | exact hb1 | exact set5_blw hb1 (by omega) _ _ _ _ _
  subst h4
  have hb1 : Blw w ((w.alloc (.cells #[.slice a1 4 q1, .slice a2 kn q2] 29)).alloc (.cells #[.int .i64 0, .int .i64 0, .int .i64 0, .int .i64 0, .slice none 0 0] 129)) := ((Blw.refl _).alloc _).alloc _
  have rA := (box2 w (.slice a1 4 q1) (.slice a2 kn q2) 29).blw ((Blw.refl _).alloc (.cells #[.int .i64 0, .int .i64 0, .int .i64 0, .int .i64 0, .slice none 0 0] 129))
  have rR := zrow5 (w.alloc (.cells #[.slice a1 4 q1, .slice a2 kn q2] 29)) (.slice none 0 0) 129
  rw [World.size_alloc] at rR
  obtain ⟨p0, p1⟩ := get2 rA
  obtain ⟨t0, t1, t2, t3, t4⟩ := zget rR
  have f0 := rR.frozen 0; have f1 := rR.frozen 1; have f2 := rR.frozen 2; have f3 := rR.frozen 3; have f4 := rR.frozen 4
  go_enter Try.func102, Try.ntmps102
  go_wp2_with fail
  refine (isCnt_any (kn : Int) _).mono ?_
  rintro e w' ⟨r, rfl, hr, hw⟩
  subst hw
  have HR : Hid (r = true ↔ cntOK (kn : Int)) := hr
  clear hr
  cases r
  · have HN : Hid (¬ BD.Good ⟨4, c, ⟨kn, len, p, m⟩⟩) := fun g => by have := HR.out.2 ⟨by have := g.k.1; dsimp only at this; omega, by have := g.k.2; dsimp only at this; omega⟩; simp at this
    clear HR rA rR
    go_wp2
    refine bodyPost_ret (v := .tuple #[.agg zero5, .bool false]) (by simp [results, Try.results102, go_sem, t0, t1, t2, t3, t4]) rfl ?_
    refine ⟨Or.inr ⟨HN.out, rfl⟩, ?_⟩
    first | exact hb1 | exact set5_blw hb1 (by omega) _ _ _ _ _
  have hcnt : 1 ≤ kn ∧ kn ≤ 4 := by have := HR.out.1 (by first | rfl | trivial); unfold cntOK at this; omega
  have HK : Hid (1 ≤ kn ∧ kn ≤ 4) := hcnt
  have hk4 : kn ≤ 4 := hcnt.2
  have hmk := mk8 kn hk4
  have H4 : Hid ((4 : Nat) = 4) := rfl
  clear HR hcnt
  have hb3 : Blw ((w.alloc (.cells #[.slice a1 4 q1, .slice a2 kn q2] 29)).alloc (.cells #[.int .i64 0, .int .i64 0, .int .i64 0, .int .i64 0, .slice none 0 0] 129)) ((((w.alloc (.cells #[.slice a1 4 q1, .slice a2 kn q2] 29)).alloc (.cells #[.int .i64 0, .int .i64 0, .int .i64 0, .int .i64 0, .slice none 0 0] 129)).alloc (.cells (madeCells #[.int .i64 0, .int .i64 0, .int .i64 0, .int .i64 0, .int .i64 0, .int .i64 0, .int .i64 0, .int .i64 0] (kn * 8)) 186)).alloc (.cells #[.int .i64 0, .int .i64 0, .int .i64 0, .int .i64 0, .slice (some ⟨w.heap.size + 1 + 1, 0, none⟩) kn kn] 129)) := ((Blw.refl _).alloc _).alloc _
  have rL := (Row.made8 ((w.alloc (.cells #[.slice a1 4 q1, .slice a2 kn q2] 29)).alloc (.cells #[.int .i64 0, .int .i64 0, .int .i64 0, .int .i64 0, .slice none 0 0] 129)) (.int .i64 0) (kn * 8) 186).blw ((Blw.refl _).alloc (.cells #[.int .i64 0, .int .i64 0, .int .i64 0, .int .i64 0, .slice (some ⟨w.heap.size + 1 + 1, 0, none⟩) kn kn] 129))
  have rH := zrow5 (((w.alloc (.cells #[.slice a1 4 q1, .slice a2 kn q2] 29)).alloc (.cells #[.int .i64 0, .int .i64 0, .int .i64 0, .int .i64 0, .slice none 0 0] 129)).alloc (.cells (madeCells #[.int .i64 0, .int .i64 0, .int .i64 0, .int .i64 0, .int .i64 0, .int .i64 0, .int .i64 0, .int .i64 0] (kn * 8)) 186)) (.slice (some ⟨w.heap.size + 1 + 1, 0, none⟩) kn kn) 129
  have sz1 : ((w.alloc (.cells #[.slice a1 4 q1, .slice a2 kn q2] 29)).alloc (.cells #[.int .i64 0, .int .i64 0, .int .i64 0, .int .i64 0, .slice none 0 0] 129)).heap.size = w.heap.size + 1 + 1 := by simp
  have sz2 : (((w.alloc (.cells #[.slice a1 4 q1, .slice a2 kn q2] 29)).alloc (.cells #[.int .i64 0, .int .i64 0, .int .i64 0, .int .i64 0, .slice none 0 0] 129)).alloc (.cells (madeCells #[.int .i64 0, .int .i64 0, .int .i64 0, .int .i64 0, .int .i64 0, .int .i64 0, .int .i64 0, .int .i64 0] (kn * 8)) 186)).heap.size = w.heap.size + 1 + 1 + 1 := by simp
  rw [sz1] at rL
  rw [sz2] at rH
  have sz3 : ((((w.alloc (.cells #[.slice a1 4 q1, .slice a2 kn q2] 29)).alloc (.cells #[.int .i64 0, .int .i64 0, .int .i64 0, .int .i64 0, .slice none 0 0] 129)).alloc (.cells (madeCells #[.int .i64 0, .int .i64 0, .int .i64 0, .int .i64 0, .int .i64 0, .int .i64 0, .int .i64 0, .int .i64 0] (kn * 8)) 186)).alloc (.cells #[.int .i64 0, .int .i64 0, .int .i64 0, .int .i64 0, .slice (some ⟨w.heap.size + 1 + 1, 0, none⟩) kn kn] 129)).heap.size = w.heap.size + 1 + 1 + 1 + 1 := by simp
  have pA := rA.blw hb3
  have pR := rR.blw hb3
  obtain ⟨o0, o1⟩ := get2 pA
  go_wp2_with fail
  clear hmk t0 t1 t2 t3 t4 f0 f1 f2 f3 f4 p0 p1 rA rR o0 o1 sz1 sz2
  replace hb3 := hb1.trans hb3
  clear hb1
  generalize ((((w.alloc (.cells #[.slice a1 4 q1, .slice a2 kn q2] 29)).alloc (.cells #[.int .i64 0, .int .i64 0, .int .i64 0, .int .i64 0, .slice none 0 0] 129)).alloc (.cells (madeCells #[.int .i64 0, .int .i64 0, .int .i64 0, .int .i64 0, .int .i64 0, .int .i64 0, .int .i64 0, .int .i64 0] (kn * 8)) 186)).alloc (.cells #[.int .i64 0, .int .i64 0, .int .i64 0, .int .i64 0, .slice (some ⟨w.heap.size + 1 + 1, 0, none⟩) kn kn] 129)) = w3 at *
  have HB3 : Hid (Blw w w3) := hb3
  have HA : Hid (Row w3 w.heap.size 2 (fun i => if i = 0 then .slice a1 4 q1 else .slice a2 kn q2)) := pA
  have HRR : Hid (Row w3 (w.heap.size + 1) 5 (zrow (.slice none 0 0))) := pR
  have HH : Hid (Row w3 (w.heap.size + 1 + 1 + 1) 5 (zrow (.slice (some ⟨w.heap.size + 1 + 1, 0, none⟩) kn kn))) := rH
  have HRL : Hid (Row w3 (w.heap.size + 1 + 1) (kn * 8) (lc (upTo 0 p) (upTo 0 m))) := rL.congr (fun i hi => by unfold lc upTo; simp)
  have HSZ : Hid (w3.heap.size = w.heap.size + 1 + 1 + 1 + 1) := sz3
  replace HC : Hid (IntsAt Y w3 a1 4 c) := HC.out.blw hb3
  replace HL : Hid (PSAt Y w3 a2 ⟨kn, len, p, m⟩) := HL.out.blw hb3
  clear hb3 rL rH pA pR sz3
  go_loopw [28] (fun i wr => ∃ j : Nat, j ≤ kn ∧ i = .int .i64 j ∧ (∀ i, i < j → listOK ⟨kn, len, p, m⟩ i) ∧ Row wr (w.heap.size + 1 + 1) (kn * 8) (lc (upTo j p) (upTo j m)) ∧ Mod (fun x => x = w.heap.size + 1 + 1) w3 wr) (fun i _ => kn - (intOf i).toNat)
  case atStart => exact ⟨0, Nat.zero_le _, rfl, fun t ht => absurd ht (Nat.not_lt_zero _), HRL.out, Mod.refl _ _⟩
  case round =>
    obtain ⟨j, hj, rfl, hok, hrl, hm⟩ := hrel
    have HO : Hid (∀ i, i < j → listOK ⟨kn, len, p, m⟩ i) := hok
    have HM : Hid (Mod (fun x => x = w.heap.size + 1 + 1) w3 wr) := hm
    have HRW : Hid (Row wr (w.heap.size + 1 + 1) (kn * 8) (lc (upTo j p) (upTo j m))) := hrl
    have HBW : Hid (Blw w wr) := Mod.blw HB3.out hm (fun i hi => by omega)
    clear hok hm hrl HRL
    by_cases hlt : j < kn
    · have hlt' : (j : Int) < (kn : Int) := by omega
      obtain ⟨bb, oo, aa, cc, ea, -, g1, g2⟩ := (HL.out.mod HM.out (fun x hx e => by have := hY x hx; omega)).2 j hlt
      dsimp only at g1 g2
      subst ea
      have G2 : Hid (UndosAt Y wr aa (len j) (p j) (m j)) := g2
      clear g2
      have HHW : Hid (Row wr (w.heap.size + 1 + 1 + 1) 5 (zrow (.slice (some ⟨w.heap.size + 1 + 1, 0, none⟩) kn kn))) := HH.out.mod HM.out (by omega)
      have P4 : ∀ w', Row w' (w.heap.size + 1 + 1 + 1) 5 (zrow (.slice (some ⟨w.heap.size + 1 + 1, 0, none⟩) kn kn)) → w'.cell? ⟨w.heap.size + 1 + 1 + 1, 4, none⟩ = some (.slice (some ⟨w.heap.size + 1 + 1, 0, none⟩) kn kn) := fun w' hh => (zget hh).2.2.2.2
      go_upto_region 8 with fail
      clear g1
      refine wp_region_noPanic ?_
      refine wp_region_held_drew (S := fun w' => Row w' (w.heap.size + 1 + 1 + 1) 5 (zrow (.slice (some ⟨w.heap.size + 1 + 1, 0, none⟩) kn kn))) (by kernel_rfl) (HHW.out.blw (Blw.refl _).drew) (fun hB => ?_)
      clear hB
      replace HHW := HHW.out.blw (Blw.refl _).drew
      replace HRW := HRW.out.blw (Blw.refl _).drew
      replace G2 := G2.out.blw (Blw.refl _).drew
      have HWD : Hid (Blw wr wr.drew) := (Blw.refl _).drew
      generalize wr.drew = wd at *
      have HHD : Hid (Row wd (w.heap.size + 1 + 1 + 1) 5 (zrow (.slice (some ⟨w.heap.size + 1 + 1, 0, none⟩) kn kn))) := HHW
      have HRD : Hid (Row wd (w.heap.size + 1 + 1) (kn * 8) (lc (upTo j p) (upTo j m))) := HRW
      have GD : Hid (UndosAt Y wd aa (len j) (p j) (m j)) := G2
      clear HHW HRW G2
      refine wpAnyH_take (i := 0) (oi := { dst := some 34, op := Op.fieldAddr 129 (Operand.tmp 4) 1, type := 0, pos := _, after := #[], guard := none }) (v := (.pointer (some ⟨w.heap.size + 1 + 1 + 1, 4, none⟩))) rfl (by kernel_rfl) (by kernel_rfl) (by kernel_rfl) (fun _ _ _ h => h) (Or.inl ⟨by rfl, fun w' hS => by (try dsimp only at hS); go_simp⟩) HHD.out ?_
      simp only [Act.put, List.setIfInBounds_toArray, List.set_cons_zero, List.set_cons_succ]
      refine wpAnyH_take (i := 1) (oi := { dst := some 35, op := Op.load 127 (Operand.tmp 34), type := 127, pos := _, after := #[{ on := 0, ground := Ground.data }], guard := none }) (v := (.slice (some ⟨w.heap.size + 1 + 1, 0, none⟩) kn kn)) rfl (by kernel_rfl) (by kernel_rfl) (by kernel_rfl) (fun _ _ _ h => h) (Or.inl ⟨by rfl, fun w' hS => by (try dsimp only at hS); go_simp⟩) HHD.out ?_
      simp only [Act.put, List.setIfInBounds_toArray, List.set_cons_zero, List.set_cons_succ]
      refine wpAnyH_take (i := 2) (oi := { dst := some 36, op := Op.move (Operand.tmp 5), type := 3, pos := _, after := #[], guard := none }) (v := (.int .i64 j)) rfl (by kernel_rfl) (by kernel_rfl) (by kernel_rfl) (fun _ _ _ h => h) (Or.inl ⟨by rfl, fun w' hS => by (try dsimp only at hS); go_simp⟩) HHD.out ?_
      simp only [Act.put, List.setIfInBounds_toArray, List.set_cons_zero, List.set_cons_succ]
      refine wpAnyH_take (i := 3) (oi := { dst := some 37, op := Op.move (Operand.tmp 6), type := 147, pos := _, after := #[], guard := none }) (v := (.slice aa (len j) cc)) rfl (by kernel_rfl) (by kernel_rfl) (by kernel_rfl) (fun _ _ _ h => h) (Or.inl ⟨by rfl, fun w' hS => by (try dsimp only at hS); go_simp⟩) HHD.out ?_
      simp only [Act.put, List.setIfInBounds_toArray, List.set_cons_zero, List.set_cons_succ]
      refine wpAnyH_ready (rs := [4]) (by kernel_rfl) (by simp) ?_
      refine AllReadyH.cons (o := { dst := some 38, op := Op.call { callee := Callee.value (Operand.func 159), args := #[Operand.tmp 37], argTypes := #[147] }, type := 187, pos := _, after := #[{ on := 3, ground := Ground.data }], guard := none }) rfl (fun K hK => ?_) AllReadyH.nil
      go_simp
      refine (holdLeaves_any aa cc (len j) (p j) (m j) Y _ GD.out).mono ?_
      rintro e w1 ⟨hres, hb1⟩
      have HH1 : Hid (Row w1 (w.heap.size + 1 + 1 + 1) 5 (zrow (.slice (some ⟨w.heap.size + 1 + 1, 0, none⟩) kn kn))) := HHD.out.blw hb1
      have HR1 : Hid (Row w1 (w.heap.size + 1 + 1) (kn * 8) (lc (upTo j p) (upTo j m))) := HRD.out.blw hb1
      have HB1 : Hid (Blw wr w1) := HWD.out.trans hb1
      have HS1 : Hid (w.heap.size + 1 + 1 + 1 < w1.heap.size) := HH1.out.lt
      clear hb1 HHD HRD GD HWD
      rcases hres with ⟨hls, rfl⟩ | ⟨hls, rfl⟩
      · skip
        have HLS : Hid (lsOK (len j) (p j) (m j)) := hls
        clear hls
        refine hK.out _ _ HH1.out (fun hB => ?_)
        clear hK K hB
        try simp only [Act.put, List.setIfInBounds_toArray, List.set_cons_zero, List.set_cons_succ]
        refine wpAnyH_take (i := 5) (oi := { dst := some 33, op := Op.move (Operand.tmp 38), type := 187, pos := _, after := #[{ on := 4, ground := Ground.data }], guard := none }) (v := (.tuple #[(.agg #[.int .i64 (p j 0), .int .i64 (m j 0), .int .i64 (p j 1), .int .i64 (m j 1), .int .i64 (p j 2), .int .i64 (m j 2), .int .i64 (p j 3), .int .i64 (m j 3)]), .bool true])) rfl (by kernel_rfl) (by kernel_rfl) (by kernel_rfl) (fun _ _ _ h => h) (Or.inl ⟨by rfl, fun w' hS => by (try dsimp only at hS); go_simp⟩) HH1.out ?_
        simp only [Act.put, List.setIfInBounds_toArray, List.set_cons_zero, List.set_cons_succ]
        refine wpAnyH_take (i := 6) (oi := { dst := some 39, op := Op.extract (Operand.tmp 33) 0, type := 186, pos := _, after := #[{ on := 5, ground := Ground.data }], guard := none }) (v := (.agg #[.int .i64 (p j 0), .int .i64 (m j 0), .int .i64 (p j 1), .int .i64 (m j 1), .int .i64 (p j 2), .int .i64 (m j 2), .int .i64 (p j 3), .int .i64 (m j 3)])) rfl (by kernel_rfl) (by kernel_rfl) (by kernel_rfl) (fun _ _ _ h => h) (Or.inl ⟨by rfl, fun w' hS => by (try dsimp only at hS); go_simp⟩) HH1.out ?_
        simp only [Act.put, List.setIfInBounds_toArray, List.set_cons_zero, List.set_cons_succ]
        refine wpAnyH_take (i := 7) (oi := { dst := some 40, op := Op.extract (Operand.tmp 33) 1, type := 4, pos := _, after := #[{ on := 5, ground := Ground.data }, { on := 9, ground := Ground.gcOnly Departure.lateStores }], guard := none }) (v := (.bool true)) rfl (by kernel_rfl) (by kernel_rfl) (by kernel_rfl) (fun _ _ _ h => h) (Or.inl ⟨by rfl, fun w' hS => by (try dsimp only at hS); go_simp⟩) HH1.out ?_
        simp only [Act.put, List.setIfInBounds_toArray, List.set_cons_zero, List.set_cons_succ]
        refine wpAnyH_take (i := 8) (oi := { dst := some 41, op := Op.indexAddr 127 (Operand.tmp 35) (Operand.tmp 36), type := 0, pos := _, after := #[{ on := 1, ground := Ground.data }, { on := 2, ground := Ground.data }, { on := 0, ground := Ground.phase }, { on := 1, ground := Ground.phase }, { on := 2, ground := Ground.phase }, { on := 3, ground := Ground.phase }, { on := 4, ground := Ground.phase }, { on := 5, ground := Ground.phase }, { on := 6, ground := Ground.phase }, { on := 7, ground := Ground.textOnly Departure.lateStores }], guard := none }) (v := (.pointer (some ⟨w.heap.size + 1 + 1, j * 8, none⟩))) rfl (by kernel_rfl) (by kernel_rfl) (by kernel_rfl) (fun _ _ _ h => h) (Or.inl ⟨by rfl, fun w' hS => by (try dsimp only at hS); go_simp⟩) HH1.out ?_
        simp only [Act.put, List.setIfInBounds_toArray, List.set_cons_zero, List.set_cons_succ]
        refine wpAnyH_ready (rs := [9]) (by kernel_rfl) (by simp) ?_
        refine AllReadyH.cons (o := { dst := none, op := Op.store 186 (Operand.tmp 41) (Operand.tmp 39), type := 0, pos := _, after := #[{ on := 8, ground := Ground.data }, { on := 6, ground := Ground.data }, { on := 4, ground := Ground.chain }, { on := 0, ground := Ground.phase }, { on := 1, ground := Ground.phase }, { on := 2, ground := Ground.phase }, { on := 3, ground := Ground.phase }, { on := 4, ground := Ground.phase }, { on := 5, ground := Ground.phase }, { on := 6, ground := Ground.phase }, { on := 7, ground := Ground.textOnly Departure.lateStores }], guard := none }) rfl (fun K hK => ?_) AllReadyH.nil
        obtain ⟨z0, z1, z2, z3, z4, z5, z6, z7⟩ := lc8 HR1.out hlt
        have f0 := HR1.out.frozen (j * 8); have f1 := HR1.out.frozen (j * 8 + 1); have f2 := HR1.out.frozen (j * 8 + 2); have f3 := HR1.out.frozen (j * 8 + 3); have f4 := HR1.out.frozen (j * 8 + 4); have f5 := HR1.out.frozen (j * 8 + 5); have f6 := HR1.out.frozen (j * 8 + 6); have f7 := HR1.out.frozen (j * 8 + 7)
        have MS : Hid (Mod (fun x => x = w.heap.size + 1 + 1) w1 (set8 w1 (w.heap.size + 1 + 1) (j * 8) (p j) (m j))) := set8_mod _ _ _ _ _
        have HH2 : Hid (Row (set8 w1 (w.heap.size + 1 + 1) (j * 8) (p j) (m j)) (w.heap.size + 1 + 1 + 1) 5 (zrow (.slice (some ⟨w.heap.size + 1 + 1, 0, none⟩) kn kn))) := HH1.out.mod MS.out (by omega)
        have HRN : Hid (Row (set8 w1 (w.heap.size + 1 + 1) (j * 8) (p j) (m j)) (w.heap.size + 1 + 1) (kn * 8) (lc (upTo (j + 1) p) (upTo (j + 1) m))) := lc_step HR1.out
        go_simp
        refine hK.out _ _ HH2.out (fun hB => ?_)
        clear hK K hB z0 z1 z2 z3 z4 z5 z6 z7 f0 f1 f2 f3 f4 f5 f6 f7
        try simp only [Act.put, List.setIfInBounds_toArray, List.set_cons_zero, List.set_cons_succ]
        refine wpAnyH_take (i := 10) (oi := { dst := some 7, op := Op.assign (Operand.tmp 40), type := 4, pos := _, after := #[{ on := 7, ground := Ground.data }, { on := 9, ground := Ground.chain }, { on := 0, ground := Ground.phase }, { on := 1, ground := Ground.phase }, { on := 2, ground := Ground.phase }, { on := 3, ground := Ground.phase }, { on := 4, ground := Ground.phase }, { on := 5, ground := Ground.phase }, { on := 6, ground := Ground.phase }, { on := 7, ground := Ground.phase }, { on := 8, ground := Ground.phase }, { on := 9, ground := Ground.phase }], guard := none }) (v := (.bool true)) rfl (by kernel_rfl) (by kernel_rfl) (by kernel_rfl) (fun _ _ _ h => h) (Or.inl ⟨by rfl, fun w' hS => by (try dsimp only at hS); go_simp⟩) HH2.out ?_
        simp only [Act.put, List.setIfInBounds_toArray, List.set_cons_zero, List.set_cons_succ]
        refine wpAnyH_done (by kernel_rfl) ?_ _
        refine NoPanic.normal ?_
        have HMN : Hid (Mod (fun x => x = w.heap.size + 1 + 1) w3 (set8 w1 (w.heap.size + 1 + 1) (j * 8) (p j) (m j))) := (HM.out.trans (HB1.out.mod _)).trans MS.out
        have HON : Hid (∀ i, i < j + 1 → listOK ⟨kn, len, p, m⟩ i) := fun i hi => by
          by_cases e : i = j
          · subst e; exact HLS.out
          · exact HO.out i (by omega)
        clear HM HO HH1 HR1 HB1 HH2 MS HLS HBW
        obtain ⟨w5, hw5⟩ : ∃ w5, w5 = set8 w1 (w.heap.size + 1 + 1) (j * 8) (p j) (m j) := ⟨_, rfl⟩
        rw [← hw5] at HMN HRN
        simp only [set8] at hw5
        rw [← hw5]
        clear hw5
        go_wp2
        go_roundw
        case rel => exact ⟨j + 1, by omega, by go_num, HON.out, HRN.out, HMN.out⟩
        case measure => simp [intOf]; omega
      · skip
        have HLS : Hid (¬ lsOK (len j) (p j) (m j)) := hls
        clear hls
        refine hK.out _ _ HH1.out (fun hB => ?_)
        clear hK K hB
        try simp only [Act.put, List.setIfInBounds_toArray, List.set_cons_zero, List.set_cons_succ]
        refine wpAnyH_take (i := 5) (oi := { dst := some 33, op := Op.move (Operand.tmp 38), type := 187, pos := _, after := #[{ on := 4, ground := Ground.data }], guard := none }) (v := (.tuple #[(.agg #[.int .i64 (0), .int .i64 (0), .int .i64 (0), .int .i64 (0), .int .i64 (0), .int .i64 (0), .int .i64 (0), .int .i64 (0)]), .bool false])) rfl (by kernel_rfl) (by kernel_rfl) (by kernel_rfl) (fun _ _ _ h => h) (Or.inl ⟨by rfl, fun w' hS => by (try dsimp only at hS); go_simp⟩) HH1.out ?_
        simp only [Act.put, List.setIfInBounds_toArray, List.set_cons_zero, List.set_cons_succ]
        refine wpAnyH_take (i := 6) (oi := { dst := some 39, op := Op.extract (Operand.tmp 33) 0, type := 186, pos := _, after := #[{ on := 5, ground := Ground.data }], guard := none }) (v := (.agg #[.int .i64 (0), .int .i64 (0), .int .i64 (0), .int .i64 (0), .int .i64 (0), .int .i64 (0), .int .i64 (0), .int .i64 (0)])) rfl (by kernel_rfl) (by kernel_rfl) (by kernel_rfl) (fun _ _ _ h => h) (Or.inl ⟨by rfl, fun w' hS => by (try dsimp only at hS); go_simp⟩) HH1.out ?_
        simp only [Act.put, List.setIfInBounds_toArray, List.set_cons_zero, List.set_cons_succ]
        refine wpAnyH_take (i := 7) (oi := { dst := some 40, op := Op.extract (Operand.tmp 33) 1, type := 4, pos := _, after := #[{ on := 5, ground := Ground.data }, { on := 9, ground := Ground.gcOnly Departure.lateStores }], guard := none }) (v := (.bool false)) rfl (by kernel_rfl) (by kernel_rfl) (by kernel_rfl) (fun _ _ _ h => h) (Or.inl ⟨by rfl, fun w' hS => by (try dsimp only at hS); go_simp⟩) HH1.out ?_
        simp only [Act.put, List.setIfInBounds_toArray, List.set_cons_zero, List.set_cons_succ]
        refine wpAnyH_take (i := 8) (oi := { dst := some 41, op := Op.indexAddr 127 (Operand.tmp 35) (Operand.tmp 36), type := 0, pos := _, after := #[{ on := 1, ground := Ground.data }, { on := 2, ground := Ground.data }, { on := 0, ground := Ground.phase }, { on := 1, ground := Ground.phase }, { on := 2, ground := Ground.phase }, { on := 3, ground := Ground.phase }, { on := 4, ground := Ground.phase }, { on := 5, ground := Ground.phase }, { on := 6, ground := Ground.phase }, { on := 7, ground := Ground.textOnly Departure.lateStores }], guard := none }) (v := (.pointer (some ⟨w.heap.size + 1 + 1, j * 8, none⟩))) rfl (by kernel_rfl) (by kernel_rfl) (by kernel_rfl) (fun _ _ _ h => h) (Or.inl ⟨by rfl, fun w' hS => by (try dsimp only at hS); go_simp⟩) HH1.out ?_
        simp only [Act.put, List.setIfInBounds_toArray, List.set_cons_zero, List.set_cons_succ]
        refine wpAnyH_ready (rs := [9]) (by kernel_rfl) (by simp) ?_
        refine AllReadyH.cons (o := { dst := none, op := Op.store 186 (Operand.tmp 41) (Operand.tmp 39), type := 0, pos := _, after := #[{ on := 8, ground := Ground.data }, { on := 6, ground := Ground.data }, { on := 4, ground := Ground.chain }, { on := 0, ground := Ground.phase }, { on := 1, ground := Ground.phase }, { on := 2, ground := Ground.phase }, { on := 3, ground := Ground.phase }, { on := 4, ground := Ground.phase }, { on := 5, ground := Ground.phase }, { on := 6, ground := Ground.phase }, { on := 7, ground := Ground.textOnly Departure.lateStores }], guard := none }) rfl (fun K hK => ?_) AllReadyH.nil
        obtain ⟨z0, z1, z2, z3, z4, z5, z6, z7⟩ := lc8 HR1.out hlt
        have f0 := HR1.out.frozen (j * 8); have f1 := HR1.out.frozen (j * 8 + 1); have f2 := HR1.out.frozen (j * 8 + 2); have f3 := HR1.out.frozen (j * 8 + 3); have f4 := HR1.out.frozen (j * 8 + 4); have f5 := HR1.out.frozen (j * 8 + 5); have f6 := HR1.out.frozen (j * 8 + 6); have f7 := HR1.out.frozen (j * 8 + 7)
        have MS : Hid (Mod (fun x => x = w.heap.size + 1 + 1) w1 (set8 w1 (w.heap.size + 1 + 1) (j * 8) (zf) (zf))) := set8_mod _ _ _ _ _
        have HH2 : Hid (Row (set8 w1 (w.heap.size + 1 + 1) (j * 8) (zf) (zf)) (w.heap.size + 1 + 1 + 1) 5 (zrow (.slice (some ⟨w.heap.size + 1 + 1, 0, none⟩) kn kn))) := HH1.out.mod MS.out (by omega)
        go_simp
        refine hK.out _ _ HH2.out (fun hB => ?_)
        clear hK K hB z0 z1 z2 z3 z4 z5 z6 z7 f0 f1 f2 f3 f4 f5 f6 f7
        try simp only [Act.put, List.setIfInBounds_toArray, List.set_cons_zero, List.set_cons_succ]
        refine wpAnyH_take (i := 10) (oi := { dst := some 7, op := Op.assign (Operand.tmp 40), type := 4, pos := _, after := #[{ on := 7, ground := Ground.data }, { on := 9, ground := Ground.chain }, { on := 0, ground := Ground.phase }, { on := 1, ground := Ground.phase }, { on := 2, ground := Ground.phase }, { on := 3, ground := Ground.phase }, { on := 4, ground := Ground.phase }, { on := 5, ground := Ground.phase }, { on := 6, ground := Ground.phase }, { on := 7, ground := Ground.phase }, { on := 8, ground := Ground.phase }, { on := 9, ground := Ground.phase }], guard := none }) (v := (.bool false)) rfl (by kernel_rfl) (by kernel_rfl) (by kernel_rfl) (fun _ _ _ h => h) (Or.inl ⟨by rfl, fun w' hS => by (try dsimp only at hS); go_simp⟩) HH2.out ?_
        simp only [Act.put, List.setIfInBounds_toArray, List.set_cons_zero, List.set_cons_succ]
        refine wpAnyH_done (by kernel_rfl) ?_ _
        refine NoPanic.normal ?_
        have HN : Hid (¬ BD.Good ⟨4, c, ⟨kn, len, p, m⟩⟩) := fun g => HLS.out (g.leaf j hlt)
        have HRZ := (((HRR.out.mod HM.out (by omega)).blw HB1.out).mod MS.out (by omega))
        have HBF : Hid (Blw w (set8 w1 (w.heap.size + 1 + 1) (j * 8) zf zf)) := Mod.blw (HBW.out.trans HB1.out) MS.out (fun i hi => by omega)
        clear HM HO HH1 HR1 HB1 HH2 MS HLS HBW HRR
        obtain ⟨w5, hw5⟩ : ∃ w5, w5 = set8 w1 (w.heap.size + 1 + 1) (j * 8) zf zf := ⟨_, rfl⟩
        rw [← hw5] at HRZ HBF
        simp only [set8, zf] at hw5
        rw [← hw5]
        clear hw5
        obtain ⟨t0, t1, t2, t3, t4⟩ := zget HRZ
        have f0 := HRZ.frozen 0; have f1 := HRZ.frozen 1; have f2 := HRZ.frozen 2; have f3 := HRZ.frozen 3; have f4 := HRZ.frozen 4
        clear HRZ
        go_wp2
        refine bodyPost_ret (v := .tuple #[.agg zero5, .bool false]) (by simp [results, Try.results102, go_sem, t0, t1, t2, t3, t4]) rfl ?_
        refine ⟨Or.inr ⟨HN.out, rfl⟩, ?_⟩
        exact set5_blw HBF.out (by omega) _ _ _ _ _
    · obtain rfl : j = kn := by omega
      obtain ⟨bb, oo, ea, -, -⟩ := HC.out.2 0 (by omega)
      subst ea
      have HLF : Hid (Row wr (w.heap.size + 1 + 1) (j * 8) (lc p m)) := HRW.out.congr (fun i hi => by
        have e1 : i / 8 < j := by omega
        unfold lc upTo
        simp only [e1, if_true])
      have HHW : Hid (Row wr (w.heap.size + 1 + 1 + 1) 5 (zrow (.slice (some ⟨w.heap.size + 1 + 1, 0, none⟩) j j))) := HH.out.mod HM.out (by omega)
      have HAW : Hid (Row wr w.heap.size 2 (fun i => if i = 0 then .slice (some ⟨bb, oo, none⟩) 4 q1 else .slice a2 j q2)) := HA.out.mod HM.out (by omega)
      have HRZ : Hid (Row wr (w.heap.size + 1) 5 (zrow (.slice none 0 0))) := HRR.out.mod HM.out (by omega)
      have HCW : Hid (IntsAt Y wr (some ⟨bb, oo, none⟩) 4 c) := HC.out.mod HM.out (fun x hx e => by have := hY x hx; omega)
      have HLO : Hid (∀ i, i < j → listOK ⟨j, len, p, m⟩ i) := HO.out
      clear HO HM HRW HC HL HH HA HRR HB3 hlt
      go_upto_region 12 with fail
      refine wp_region_noPanic ?_
      have P0 : ∀ w', Row w' w.heap.size 2 (fun i => if i = 0 then .slice (some ⟨bb, oo, none⟩) 4 q1 else .slice a2 j q2) → w'.cell? ⟨w.heap.size, 0, none⟩ = some (.slice (some ⟨bb, oo, none⟩) 4 q1) := fun w' hh => (get2 hh).1
      refine wp_region_held_drew (S := fun w' => Row w' w.heap.size 2 (fun i => if i = 0 then .slice (some ⟨bb, oo, none⟩) 4 q1 else .slice a2 j q2)) (by kernel_rfl) (HAW.out.blw (Blw.refl _).drew) (fun hB => ?_)
      clear hB
      have HWD : Hid (Blw wr wr.drew) := (Blw.refl _).drew
      replace HLF : Hid (Row wr.drew (w.heap.size + 1 + 1) (j * 8) (lc p m)) := HLF.out.blw HWD.out
      replace HHW : Hid (Row wr.drew (w.heap.size + 1 + 1 + 1) 5 (zrow (.slice (some ⟨w.heap.size + 1 + 1, 0, none⟩) j j))) := HHW.out.blw HWD.out
      replace HAW : Hid (Row wr.drew w.heap.size 2 (fun i => if i = 0 then .slice (some ⟨bb, oo, none⟩) 4 q1 else .slice a2 j q2)) := HAW.out.blw HWD.out
      replace HRZ : Hid (Row wr.drew (w.heap.size + 1) 5 (zrow (.slice none 0 0))) := HRZ.out.blw HWD.out
      replace HCW : Hid (IntsAt Y wr.drew (some ⟨bb, oo, none⟩) 4 c) := HCW.out.blw HWD.out
      replace HBW : Hid (Blw w wr.drew) := HBW.out.trans HWD.out
      clear HWD
      generalize wr.drew = wd at *
      refine wpAnyH_take (i := 0) (oi := { dst := some 46, op := Op.fieldAddr 129 (Operand.tmp 4) 0, type := 0, pos := _, after := #[], guard := none }) (v := (.pointer (some ⟨w.heap.size + 1 + 1 + 1, 0, none⟩))) rfl (by kernel_rfl) (by kernel_rfl) (by kernel_rfl) (fun _ _ _ h => h) (Or.inl ⟨by rfl, fun w' hS => by (try dsimp only at hS); go_simp⟩) HAW.out ?_
      simp only [Act.put, List.setIfInBounds_toArray, List.set_cons_zero, List.set_cons_succ]
      refine wpAnyH_take (i := 1) (oi := { dst := some 47, op := Op.slice 126 (Operand.tmp 46) none none none, type := 26, pos := _, after := #[{ on := 0, ground := Ground.data }], guard := none }) (v := (.slice (some ⟨w.heap.size + 1 + 1 + 1, 0, none⟩) 4 4)) rfl (by kernel_rfl) (by kernel_rfl) (by kernel_rfl) (fun _ _ _ h => h) (Or.inl ⟨by rfl, fun w' hS => by (try dsimp only at hS); go_simp⟩) HAW.out ?_
      simp only [Act.put, List.setIfInBounds_toArray, List.set_cons_zero, List.set_cons_succ]
      refine wpAnyH_take (i := 2) (oi := { dst := some 48, op := Op.fieldAddr 29 (Operand.tmp 1) 0, type := 0, pos := _, after := #[], guard := none }) (v := (.pointer (some ⟨w.heap.size, 0, none⟩))) rfl (by kernel_rfl) (by kernel_rfl) (by kernel_rfl) (fun _ _ _ h => h) (Or.inl ⟨by rfl, fun w' hS => by (try dsimp only at hS); go_simp⟩) HAW.out ?_
      simp only [Act.put, List.setIfInBounds_toArray, List.set_cons_zero, List.set_cons_succ]
      refine wpAnyH_take (i := 3) (oi := { dst := some 49, op := Op.load 26 (Operand.tmp 48), type := 26, pos := _, after := #[{ on := 2, ground := Ground.data }], guard := none }) (v := (.slice (some ⟨bb, oo, none⟩) 4 q1)) rfl (by kernel_rfl) (by kernel_rfl) (by kernel_rfl) (fun _ _ _ h => h) (Or.inl ⟨by rfl, fun w' hS => by (try dsimp only at hS); go_simp⟩) HAW.out ?_
      simp only [Act.put, List.setIfInBounds_toArray, List.set_cons_zero, List.set_cons_succ]
      refine wpAnyH_ready (rs := [4]) (by kernel_rfl) (by simp) ?_
      refine AllReadyH.cons (o := { dst := some 50, op := Op.call { callee := Callee.builtin Builtin.copy, args := #[Operand.tmp 47, Operand.tmp 49], argTypes := #[26, 26] }, type := 3, pos := _, after := #[{ on := 1, ground := Ground.data }, { on := 3, ground := Ground.data }], guard := none }) rfl (fun K hK => ?_) AllReadyH.nil
      obtain ⟨w6, hcp, hr6, hm6, -⟩ := run_copy_fn (P := Try.prog) wd 26 26 3 3 (w.heap.size + 1 + 1 + 1) 0 4 4 ⟨bb, oo, none⟩ 4 q1 4 (ic c) 5 (zrow (.slice (some ⟨w.heap.size + 1 + 1, 0, none⟩) j j)) Try.underlying26 (by kernel_rfl) rfl (fun t ht => by
        obtain ⟨b', o', e', -, hh⟩ := HCW.out.2 t ht
        cases e'
        rw [Addr.add_mid]
        exact hh) (fun t ht => rfl) HHW.out (by omega)
      have HR6 : Hid (Row w6 (w.heap.size + 1 + 1 + 1) 5 (row5f c (.slice (some ⟨w.heap.size + 1 + 1, 0, none⟩) j j))) := hr6.congr (fun i hi => by
        match i, hi with
        | 0, _ => rfl
        | 1, _ => rfl
        | 2, _ => rfl
        | 3, _ => rfl
        | 4, _ => rfl)
      have HA6 : Hid (Row w6 w.heap.size 2 (fun i => if i = 0 then .slice (some ⟨bb, oo, none⟩) 4 q1 else .slice a2 j q2)) := HAW.out.mod hm6 (by omega)
      have HL6 : Hid (Row w6 (w.heap.size + 1 + 1) (j * 8) (lc p m)) := HLF.out.mod hm6 (by omega)
      have HZ6 : Hid (Row w6 (w.heap.size + 1) 5 (zrow (.slice none 0 0))) := HRZ.out.mod hm6 (by omega)
      have HB6 : Hid (Blw w w6) := Mod.blw HBW.out hm6 (fun i hi => by omega)
      clear hr6 hm6 HAW HLF HRZ HBW HHW HCW
      go_simp
      refine hK.out _ _ HA6.out (fun hB => ?_)
      clear hK K hB hcp P0
      try simp only [Act.put, List.setIfInBounds_toArray, List.set_cons_zero, List.set_cons_succ]
      refine wpAnyH_done (by kernel_rfl) ?_ _
      refine NoPanic.normal ?_
      obtain ⟨s0, s1, s2, s3, s4⟩ := get5 HR6.out
      go_wp2_with fail
      clear s0 s1 s2 s3 s4
      refine (standWell_any c (w.heap.size + 1 + 1) j p m _ hk4 HL6.out).mono ?_
      rintro e w7 ⟨r, rfl, hr, hb7⟩
      have HGS : Hid (r = true ↔ BD.Good ⟨4, c, ⟨j, len, p, m⟩⟩) := hr.trans (good_sw rfl HK.out HLO.out).symm
      have HZ7 : Hid (Row w7 (w.heap.size + 1) 5 (zrow (.slice none 0 0))) := HZ6.out.blw hb7
      have HR7 : Hid (Row w7 (w.heap.size + 1 + 1 + 1) 5 (row5f c (.slice (some ⟨w.heap.size + 1 + 1, 0, none⟩) j j))) := HR6.out.blw hb7
      have HL7 : Hid (Row w7 (w.heap.size + 1 + 1) (j * 8) (lc p m)) := HL6.out.blw hb7
      have HB7 : Hid (Blw w w7) := HB6.out.trans hb7
      clear hr hb7 HZ6 HR6 HL6 HB6 HA6
      obtain ⟨t0, t1, t2, t3, t4⟩ := zget HZ7.out
      have f0 := HZ7.out.frozen 0; have f1 := HZ7.out.frozen 1; have f2 := HZ7.out.frozen 2; have f3 := HZ7.out.frozen 3; have f4 := HZ7.out.frozen 4
      cases r
      · have HN : Hid (¬ BD.Good ⟨4, c, ⟨j, len, p, m⟩⟩) := fun g => by have := HGS.out.2 g; simp at this
        clear HGS HL7 HR7
        go_wp2
        refine bodyPost_ret (v := .tuple #[.agg zero5, .bool false]) (by simp [results, Try.results102, go_sem, t0, t1, t2, t3, t4]) rfl ?_
        refine ⟨Or.inr ⟨HN.out, rfl⟩, ?_⟩
        exact set5_blw HB7.out (by omega) _ _ _ _ _
      · have HY : Hid (BD.Good ⟨4, c, ⟨j, len, p, m⟩⟩) := HGS.out.1 (by first | rfl | trivial)
        obtain ⟨s0, s1, s2, s3, s4⟩ := get5 HR7.out
        clear HGS HR7
        go_wp2
        refine bodyPost_ret (v := .tuple #[.agg (held5 c (w.heap.size + 1 + 1) j), .bool true]) (by simp [results, Try.results102, go_sem, t0, t1, t2, t3, t4]) rfl ?_
        refine ⟨Or.inl ⟨w.heap.size + 1 + 1, HY.out, rfl, ?_, by omega⟩, ?_⟩
        · exact ((((HL7.out.setOther (a := ⟨w.heap.size + 1, 0, none⟩) (by show w.heap.size + 1 + 1 ≠ w.heap.size + 1; omega) _).setOther (a := ⟨w.heap.size + 1, 1, none⟩) (by show w.heap.size + 1 + 1 ≠ w.heap.size + 1; omega) _).setOther (a := ⟨w.heap.size + 1, 2, none⟩) (by show w.heap.size + 1 + 1 ≠ w.heap.size + 1; omega) _).setOther (a := ⟨w.heap.size + 1, 3, none⟩) (by show w.heap.size + 1 + 1 ≠ w.heap.size + 1; omega) _).setOther (a := ⟨w.heap.size + 1, 4, none⟩) (by show w.heap.size + 1 + 1 ≠ w.heap.size + 1; omega) _
        · exact set5_blw HB7.out (by omega) _ _ _ _ _
end Go.Proofs.Ytjplodenflkghaa
