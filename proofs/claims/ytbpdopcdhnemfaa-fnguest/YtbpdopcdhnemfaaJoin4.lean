/- Merged by program, in this order: Iq, Big, Hg. -/
import Derived.Deep.MidRow
import Derived.Laws.ResultCell
import Derived.Great.BuildSlice
import Derived.Test.YtbpdopcdhnemfaaJoin3
/- Instructions: the program's. -/
namespace Go.Proofs.Ytbpdopcdhnemfaa
open Go.RowKit
set_option linter.unusedSimpArgs false
set_option linter.unusedVariables false
theorem infoIf : (Try.prog.info? 214).map (fun i => (i.zero, i.size, i.bytes)) = some (some .nilIface, 1, 16) := by kernel_rfl
theorem mkIf (n : Nat) (hn : n ≤ 1048576) (w : World) : (Instr.makeSlice 144 (.int .i64 n) (.int .i64 n)).run Try.prog w = .ok (.slice (some ⟨w.heap.size, 0, none⟩) n n) (w.alloc (.cells (madeCells #[.nilIface] n) 214)) :=
  run_make_row' (P := Try.prog) 144 214 .nilIface 16 Try.underlying144 infoIf rfl .i64 .i64 n (by omega) (by omega) w
theorem method1 (x : Int) (w : World) : (method 157 228 (.agg #[.int .i64 x]) "loop.example/g00620/impl.written").run Try.prog w = .ok (229, .agg #[.int .i64 x]) w := by kernel_rfl
theorem ahead1 (x : Int) (w : World) : (nilAhead 157 228 (.agg #[.int .i64 x]) "loop.example/g00620/impl.written").run Try.prog w = .ok (some false) w := by kernel_rfl
theorem method2 (x : Int) (w : World) : (method 157 229 (.agg #[.int .i64 x]) "loop.example/g00620/impl.written").run Try.prog w = .ok (230, .agg #[.int .i64 x]) w := by kernel_rfl
theorem ahead2 (x : Int) (w : World) : (nilAhead 157 229 (.agg #[.int .i64 x]) "loop.example/g00620/impl.written").run Try.prog w = .ok (some false) w := by kernel_rfl
theorem method3 (a : Int) (w : World) : (method 157 231 (.agg #[.int .i64 a]) "loop.example/g00620/impl.written").run Try.prog w = .ok (231, .agg #[.int .i64 a]) w := by kernel_rfl
theorem ahead3 (a : Int) (w : World) : (nilAhead 157 231 (.agg #[.int .i64 a]) "loop.example/g00620/impl.written").run Try.prog w = .ok (some false) w := by kernel_rfl
theorem method4 (a : Int) (w : World) : (method 157 232 (.agg #[.int .i64 a]) "loop.example/g00620/impl.written").run Try.prog w = .ok (232, .agg #[.int .i64 a]) w := by kernel_rfl
theorem ahead4 (a : Int) (w : World) : (nilAhead 157 232 (.agg #[.int .i64 a]) "loop.example/g00620/impl.written").run Try.prog w = .ok (some false) w := by kernel_rfl
theorem method5 (x : Int) (w : World) : (method 157 234 (.agg #[.int .i64 x]) "loop.example/g00620/impl.written").run Try.prog w = .ok (233, .agg #[.int .i64 x]) w := by kernel_rfl
theorem ahead5 (x : Int) (w : World) : (nilAhead 157 234 (.agg #[.int .i64 x]) "loop.example/g00620/impl.written").run Try.prog w = .ok (some false) w := by kernel_rfl
theorem method6 (w : World) : (method 157 236 (.agg #[]) "loop.example/g00620/impl.written").run Try.prog w = .ok (234, .agg #[]) w := by kernel_rfl
theorem ahead6 (w : World) : (nilAhead 157 236 (.agg #[]) "loop.example/g00620/impl.written").run Try.prog w = .ok (some false) w := by kernel_rfl
theorem method7 (w : World) : (method 157 237 (.agg #[]) "loop.example/g00620/impl.written").run Try.prog w = .ok (235, .agg #[]) w := by kernel_rfl
theorem ahead7 (w : World) : (nilAhead 157 237 (.agg #[]) "loop.example/g00620/impl.written").run Try.prog w = .ok (some false) w := by kernel_rfl
theorem trip_eq (k b c b' c' : Int) (h : b' = b ∧ c' = c) (w : World) : (binOp .neq 170 (.agg #[.int .i64 k, .int .i64 b, .int .i64 c]) (.agg #[.int .i64 k, .int .i64 b', .int .i64 c'])).run Try.prog w = .ok (.bool false) w := by
  obtain ⟨h1, h2⟩ := h
  rw [tripNe, h1, h2]
  simp
theorem trip_ne (k b c b' c' : Int) (h : ¬ (b' = b ∧ c' = c)) (w : World) : (binOp .neq 170 (.agg #[.int .i64 k, .int .i64 b, .int .i64 c]) (.agg #[.int .i64 k, .int .i64 b', .int .i64 c'])).run Try.prog w = .ok (.bool true) w := by
  have hh : ((k == k) && ((b == b') && (c == c'))) = false := by
    rw [Bool.eq_false_iff]
    intro hh
    simp at hh
    exact h ⟨hh.1.symm, hh.2.symm⟩
  rw [tripNe, hh]
  rfl
theorem pc_step {w wr : World} {n j : Nat} {F : Nat → Nat → Int} {u : Value} (hu : iv (F j 0) (F j 1) (F j 2) = u) (hb : Blw w wr) (hr : Row wr w.heap.size n (fun i => if i < j then iv (F i 0) (F i 1) (F i 2) else .nilIface)) :
    Row (wr.setCell ⟨w.heap.size, j, none⟩ u) w.heap.size n (fun i => if i < j + 1 then iv (F i 0) (F i 1) (F i 2) else .nilIface) ∧ Blw w (wr.setCell ⟨w.heap.size, j, none⟩ u) := by
  refine ⟨(hr.set j _).congr fun i hi => ?_, hb.setCell (Nat.le_refl _) _⟩
  by_cases h1 : i = j
  · subst h1; simp [hu]
  · by_cases h2 : i < j
    · simp [h1, h2, Nat.lt_succ_of_lt h2]
    · have h3 : ¬ i < j + 1 := by omega
      simp [h1, h2, h3]
set_option maxRecDepth 10000 in
set_option maxHeartbeats 6400000 in
theorem holdProgram_any (ao : Option Addr) (cp n : Nat) (F : Nat → Nat → Int) (Y : Nat → Prop) (w : World) (h : KAt 3 Y w ao n F) :
    Calls Try.prog 129 #[.slice ao n cp] w fun e w' => ((∃ z, progOK n F ∧ e = .returned (.tuple #[.slice (some ⟨z, 0, none⟩) n n, .bool true]) ∧ Row w' z n (fun i => iv (F i 0) (F i 1) (F i 2)) ∧ w.heap.size ≤ z) ∨ (¬ progOK n F ∧ e = .returned (.tuple #[.slice none 0 0, .bool false]))) ∧ Blw w w' := by
  have H : Hid (KAt 3 Y w ao n F) := h
  have hnn := h.1
  clear h
  by_cases h1 : n < 1
  · have HN : Hid (¬ progOK n F) := fun g => by have := g.n1; omega
    go_enter Try.func129, Try.ntmps129
    go_wp2
    exact bodyPost_ret (v := .tuple #[.slice none 0 0, .bool false]) (by simp [results, Try.results129, go_sem]) rfl ⟨Or.inr ⟨HN.out, rfl⟩, Blw.refl _⟩
  by_cases h2 : 16 < n
  · have HN : Hid (¬ progOK n F) := fun g => by have := g.n2; omega
    go_enter Try.func129, Try.ntmps129
    go_wp2
    exact bodyPost_ret (v := .tuple #[.slice none 0 0, .bool false]) (by simp [results, Try.results129, go_sem]) rfl ⟨Or.inr ⟨HN.out, rfl⟩, Blw.refl _⟩
  have hmk := mkIf n (by omega)
  go_enter Try.func129, Try.ntmps129
  go_wp2_with fail
  clear hmk
  go_loopw [22] (fun iv' wr => ∃ j : Nat, j ≤ n ∧ iv' = .int .i64 j ∧ (∀ t, t < j → insOK (F t 0) (F t 1) (F t 2)) ∧ Row wr w.heap.size n (fun i => if i < j then iv (F i 0) (F i 1) (F i 2) else .nilIface) ∧ Blw w wr) (fun i _ => n - (intOf i).toNat)
  case atStart => exact ⟨0, Nat.zero_le _, rfl, fun t ht => absurd ht (Nat.not_lt_zero _), (Row.made w .nilIface n 214).congr (fun i _ => by simp), (Blw.refl _).alloc _⟩
  case round =>
    obtain ⟨j, hj, rfl, hok, hr, hb⟩ := hrel
    have HO : Hid (∀ t, t < j → insOK (F t 0) (F t 1) (F t 2)) := hok
    have HPW : Hid (Row wr w.heap.size n (fun i => if i < j then iv (F i 0) (F i 1) (F i 2) else .nilIface)) := hr
    have HBW : Hid (Blw w wr) := hb
    clear hok hr hb
    by_cases hlt : j < n
    · obtain ⟨b, o, rfl, -, g⟩ := (H.out.blw HBW.out).2 j hlt
      have g0 := g 0 (by omega)
      have g1 := g 1 (by omega)
      have g2 := g 2 (by omega)
      have hlt' : (j : Int) < n := by omega
      have HLT : Hid (j < n) := hlt
      have hA : Blw wr (wr.alloc (.cells #[.int .i64 (F j 0), .int .i64 (F j 1), .int .i64 (F j 2)] 170)) := (Blw.refl _).alloc _
      replace HBW : Hid (Blw w (wr.alloc (.cells #[.int .i64 (F j 0), .int .i64 (F j 1), .int .i64 (F j 2)] 170))) := HBW.out.trans hA
      replace HPW : Hid (Row (wr.alloc (.cells #[.int .i64 (F j 0), .int .i64 (F j 1), .int .i64 (F j 2)] 170)) w.heap.size n (fun i => if i < j then iv (F i 0) (F i 1) (F i 2) else .nilIface)) := HPW.out.blw hA
      have HX : Hid (Row (wr.alloc (.cells #[.int .i64 (F j 0), .int .i64 (F j 1), .int .i64 (F j 2)] 170)) wr.heap.size 3 (fun i => if i = 0 then .int .i64 (F j 0) else if i = 1 then .int .i64 (F j 1) else .int .i64 (F j 2))) := box3 wr _ _ _ 170
      clear g hA
      rw [Nat.add_zero] at g0
      go_upto_region 7 with fail
      generalize (wr.alloc (.cells #[.int .i64 (F j 0), .int .i64 (F j 1), .int .i64 (F j 2)] 170)) = w1 at *
      generalize wr.heap.size = zb at *
      clear g0 g1 g2
      obtain ⟨p0, p1, p2⟩ := get3 HX.out
      go_wp2_with fail
      clear p0 p1 p2
      refine (readIns_any (F j 0) (F j 1) (F j 2) _).mono ?_
      rintro e w2 ⟨v, r, rfl, hv, hft, hb⟩
      replace HBW : Hid (Blw w w2) := HBW.out.trans hb
      replace HPW : Hid (Row w2 w.heap.size n (fun i => if i < j then iv (F i 0) (F i 1) (F i 2) else .nilIface)) := HPW.out.blw hb
      replace HX : Hid (Row w2 zb 3 (fun i => if i = 0 then .int .i64 (F j 0) else if i = 1 then .int .i64 (F j 1) else .int .i64 (F j 2))) := HX.out.blw hb
      have HFTI : Hid (r = true ↔ fits (F j 0) (F j 1) (F j 2)) := hft
      clear hb hft
      cases r
      · have HN : Hid (¬ progOK n F) := fun g => by have h9 := ((insOK_iff _ _ _).1 (g.i j HLT.out)).1; have := HFTI.out.2 h9; cases this
        clear hv
        go_upto_region 8 with fail
        refine wp_region_noPanic ?_
        refine wp_region_held_drew (S := fun _ => True) (by kernel_rfl) trivial (fun hB => ?_)
        clear hB
        refine wpAnyH_take (i := 0) (oi := { dst := some 32, op := Op.move (Operand.tmp 8), type := 4, pos := _, after := #[], guard := none }) (v := (.bool false)) rfl (by kernel_rfl) (by kernel_rfl) (by kernel_rfl) (fun _ _ _ h => h) (Or.inl ⟨by rfl, fun w' hS => by (try dsimp only at hS); go_simp⟩) trivial ?_
        simp only [Act.put, List.setIfInBounds_toArray, List.set_cons_zero, List.set_cons_succ]
        refine wpAnyH_take (i := 1) (oi := { dst := some 33, op := Op.unOp UnOp.not 4 (Operand.tmp 32), type := 4, pos := _, after := #[{ on := 0, ground := Ground.data }], guard := none }) (v := (.bool true)) rfl (by kernel_rfl) (by kernel_rfl) (by kernel_rfl) (fun _ _ _ h => h) (Or.inl ⟨by rfl, fun w' hS => by (try dsimp only at hS); go_simp⟩) trivial ?_
        simp only [Act.put, List.setIfInBounds_toArray, List.set_cons_zero, List.set_cons_succ]
        refine wpAnyH_take (i := 2) (oi := { dst := some 34, op := Op.move (Operand.tmp 33), type := 4, pos := _, after := #[{ on := 1, ground := Ground.data }], guard := none }) (v := (.bool true)) rfl (by kernel_rfl) (by kernel_rfl) (by kernel_rfl) (fun _ _ _ h => h) (Or.inl ⟨by rfl, fun w' hS => by (try dsimp only at hS); go_simp⟩) trivial ?_
        simp only [Act.put, List.setIfInBounds_toArray, List.set_cons_zero, List.set_cons_succ]
        refine wpAnyH_take (i := 3) (oi := { dst := some 35, op := Op.move (Operand.tmp 7), type := 214, pos := _, after := #[{ on := 2, ground := Ground.guard }], guard := some (2, false) }) (v := undef) rfl (by kernel_rfl) (by kernel_rfl) (by kernel_rfl) (fun _ _ _ h => h) (Or.inr ⟨by rfl, rfl⟩) trivial ?_
        simp only [Act.put, List.setIfInBounds_toArray, List.set_cons_zero, List.set_cons_succ]
        refine wpAnyH_take (i := 5) (oi := { dst := some 37, op := Op.load 170 (Operand.tmp 6), type := 170, pos := _, after := #[{ on := 2, ground := Ground.guard }], guard := some (2, false) }) (v := undef) rfl (by kernel_rfl) (by kernel_rfl) (by kernel_rfl) (fun _ _ _ h => h) (Or.inr ⟨by rfl, rfl⟩) trivial ?_
        simp only [Act.put, List.setIfInBounds_toArray, List.set_cons_zero, List.set_cons_succ]
        refine wpAnyH_take (i := 4) (oi := { dst := some 36, op := Op.call { callee := Callee.invoke (Operand.tmp 35) "loop.example/g00620/impl.written", args := #[], argTypes := #[] }, type := 170, pos := _, after := #[{ on := 3, ground := Ground.data }, { on := 2, ground := Ground.chain }, { on := 2, ground := Ground.guard }], guard := some (2, false) }) (v := undef) rfl (by kernel_rfl) (by kernel_rfl) (by kernel_rfl) (fun _ _ _ h => h) (Or.inr ⟨by rfl, rfl⟩) trivial ?_
        simp only [Act.put, List.setIfInBounds_toArray, List.set_cons_zero, List.set_cons_succ]
        refine wpAnyH_take (i := 6) (oi := { dst := some 38, op := Op.binOp BinOp.neq 170 (Operand.tmp 36) (Operand.tmp 37) 170, type := 4, pos := _, after := #[{ on := 4, ground := Ground.data }, { on := 5, ground := Ground.data }, { on := 2, ground := Ground.guard }], guard := some (2, false) }) (v := undef) rfl (by kernel_rfl) (by kernel_rfl) (by kernel_rfl) (fun _ _ _ h => h) (Or.inr ⟨by rfl, rfl⟩) trivial ?_
        simp only [Act.put, List.setIfInBounds_toArray, List.set_cons_zero, List.set_cons_succ]
        refine wpAnyH_take (i := 7) (oi := { dst := some 39, op := Op.pick (Operand.tmp 34) (Operand.const (Value.bool true)) (Operand.tmp 38), type := 4, pos := _, after := #[{ on := 2, ground := Ground.data }, { on := 6, ground := Ground.data }], guard := none }) (v := (.bool true)) rfl (by kernel_rfl) (by kernel_rfl) (by kernel_rfl) (fun _ _ _ h => h) (Or.inl ⟨by rfl, fun w' hS => by (try dsimp only at hS); go_simp⟩) trivial ?_
        simp only [Act.put, List.setIfInBounds_toArray, List.set_cons_zero, List.set_cons_succ]
        refine wpAnyH_done (by kernel_rfl) ?_ _
        refine NoPanic.normal ?_
        go_wp2
        exact bodyPost_ret (v := .tuple #[.slice none 0 0, .bool false]) (by simp [results, Try.results129, go_sem]) rfl ⟨Or.inr ⟨HN.out, rfl⟩, HBW.out.drew⟩
      have HFT : Hid (fits (F j 0) (F j 1) (F j 2)) := HFTI.out.1 (by first | rfl | trivial)
      obtain rfl := hv (by first | rfl | trivial)
      clear hv HFTI
      rcases (show F j 0 = 1 ∨ F j 0 = 2 ∨ F j 0 = 3 ∨ F j 0 = 4 ∨ F j 0 = 5 ∨ F j 0 = 6 ∨ F j 0 = 7 by have := HFT.out.2.2.1; omega) with e | e | e | e | e | e | e
      · have HV : Hid (iv (F j 0) (F j 1) (F j 2) = .iface 228 (.agg #[.int .i64 (F j 2)])) := by show _ = _; rw [e]; rfl
        rw [HV.out, e]
        have HE : Hid (F j 0 = 1) := e
        have HBX : Hid (Row w2 zb 3 (fun i => if i = 0 then .int .i64 (1 : Int) else if i = 1 then .int .i64 (F j 1) else .int .i64 (F j 2))) := by have h9 := HX.out; rw [e] at h9; exact h9
        clear e HX
        by_cases hB : F j 1 = 0 ∧ F j 2 = (F j 2)
        · have hN : ∀ w', (binOp .neq 170 (.agg #[.int .i64 (1 : Int), .int .i64 0, .int .i64 (F j 2)]) (.agg #[.int .i64 (1 : Int), .int .i64 (F j 1), .int .i64 (F j 2)])).run Try.prog w' = .ok (.bool false) w' := fun w' => trip_eq _ _ _ _ _ hB w'
          have HOK : Hid (insOK (F j 0) (F j 1) (F j 2)) := (insOK_iff _ _ _).2 ⟨HFT.out, by rw [HE.out]; (try rw [hB.1]); simp [wa], by rw [HE.out]; (try rw [hB.2]); simp [wx]⟩
          clear hB
          go_upto_region 8 with fail
          have hS0 := get3 (HBX.out.blw (Blw.refl w2).drew)
          refine wp_region_noPanic ?_
          refine wp_region_held_drew (S := fun w' => w'.cell? ⟨zb, 0, none⟩ = some (.int .i64 (1 : Int)) ∧ w'.cell? ⟨zb, 1, none⟩ = some (.int .i64 (F j 1)) ∧ w'.cell? ⟨zb, 2, none⟩ = some (.int .i64 (F j 2))) (by kernel_rfl) hS0 (fun hB => ?_)
          clear hB
          refine wpAnyH_take (i := 0) (oi := { dst := some 32, op := Op.move (Operand.tmp 8), type := 4, pos := _, after := #[], guard := none }) (v := (.bool true)) rfl (by kernel_rfl) (by kernel_rfl) (by kernel_rfl) (fun _ _ _ h => h) (Or.inl ⟨by rfl, fun w' hS => by (try dsimp only at hS); go_simp⟩) hS0 ?_
          simp only [Act.put, List.setIfInBounds_toArray, List.set_cons_zero, List.set_cons_succ]
          refine wpAnyH_take (i := 1) (oi := { dst := some 33, op := Op.unOp UnOp.not 4 (Operand.tmp 32), type := 4, pos := _, after := #[{ on := 0, ground := Ground.data }], guard := none }) (v := (.bool false)) rfl (by kernel_rfl) (by kernel_rfl) (by kernel_rfl) (fun _ _ _ h => h) (Or.inl ⟨by rfl, fun w' hS => by (try dsimp only at hS); go_simp⟩) hS0 ?_
          simp only [Act.put, List.setIfInBounds_toArray, List.set_cons_zero, List.set_cons_succ]
          refine wpAnyH_take (i := 2) (oi := { dst := some 34, op := Op.move (Operand.tmp 33), type := 4, pos := _, after := #[{ on := 1, ground := Ground.data }], guard := none }) (v := (.bool false)) rfl (by kernel_rfl) (by kernel_rfl) (by kernel_rfl) (fun _ _ _ h => h) (Or.inl ⟨by rfl, fun w' hS => by (try dsimp only at hS); go_simp⟩) hS0 ?_
          simp only [Act.put, List.setIfInBounds_toArray, List.set_cons_zero, List.set_cons_succ]
          refine wpAnyH_take (i := 3) (oi := { dst := some 35, op := Op.move (Operand.tmp 7), type := 214, pos := _, after := #[{ on := 2, ground := Ground.guard }], guard := some (2, false) }) (v := (.iface 228 (.agg #[.int .i64 (F j 2)]))) rfl (by kernel_rfl) (by kernel_rfl) (by kernel_rfl) (fun _ _ _ h => h) (Or.inl ⟨by rfl, fun w' hS => by (try dsimp only at hS); go_simp⟩) hS0 ?_
          simp only [Act.put, List.setIfInBounds_toArray, List.set_cons_zero, List.set_cons_succ]
          refine wpAnyH_take (i := 5) (oi := { dst := some 37, op := Op.load 170 (Operand.tmp 6), type := 170, pos := _, after := #[{ on := 2, ground := Ground.guard }], guard := some (2, false) }) (v := (.agg #[.int .i64 (1 : Int), .int .i64 (F j 1), .int .i64 (F j 2)])) rfl (by kernel_rfl) (by kernel_rfl) (by kernel_rfl) (fun _ _ _ h => h) (Or.inl ⟨by rfl, fun w' hS => by (try dsimp only at hS); go_simp⟩) hS0 ?_
          simp only [Act.put, List.setIfInBounds_toArray, List.set_cons_zero, List.set_cons_succ]
          refine wpAnyH_ready (rs := [4]) (by kernel_rfl) (by simp) ?_
          refine AllReadyH.cons (o := { dst := some 36, op := Op.call { callee := Callee.invoke (Operand.tmp 35) "loop.example/g00620/impl.written", args := #[], argTypes := #[] }, type := 170, pos := _, after := #[{ on := 3, ground := Ground.data }, { on := 2, ground := Ground.chain }, { on := 2, ground := Ground.guard }], guard := some (2, false) }) rfl (fun K hK => ?_) AllReadyH.nil
          have hm := method1 (F j 2)
          have ha := ahead1 (F j 2)
          go_simp
          clear hm ha
          refine (written1_any (F j 2) _).mono ?_
          rintro e w7 ⟨rfl, hb7⟩
          replace HBW : Hid (Blw w w7) := (HBW.out.trans (Blw.refl w2).drew).trans hb7
          replace HPW : Hid (Row w7 w.heap.size n (fun i => if i < j then iv (F i 0) (F i 1) (F i 2) else .nilIface)) := (HPW.out.blw (Blw.refl w2).drew).blw hb7
          have hS9 := get3 ((HBX.out.blw (Blw.refl w2).drew).blw hb7)
          clear hb7
          refine hK.out _ _ hS9 (fun hB => ?_)
          clear hK K hB
          try simp only [Act.put, List.setIfInBounds_toArray, List.set_cons_zero, List.set_cons_succ]
          refine wpAnyH_take (i := 6) (oi := { dst := some 38, op := Op.binOp BinOp.neq 170 (Operand.tmp 36) (Operand.tmp 37) 170, type := 4, pos := _, after := #[{ on := 4, ground := Ground.data }, { on := 5, ground := Ground.data }, { on := 2, ground := Ground.guard }], guard := some (2, false) }) (v := (.bool false)) rfl (by kernel_rfl) (by kernel_rfl) (by kernel_rfl) (fun _ _ _ h => h) (Or.inl ⟨by rfl, fun w' hS => by (try dsimp only at hS); go_simp⟩) hS9 ?_
          simp only [Act.put, List.setIfInBounds_toArray, List.set_cons_zero, List.set_cons_succ]
          refine wpAnyH_take (i := 7) (oi := { dst := some 39, op := Op.pick (Operand.tmp 34) (Operand.const (Value.bool true)) (Operand.tmp 38), type := 4, pos := _, after := #[{ on := 2, ground := Ground.data }, { on := 6, ground := Ground.data }], guard := none }) (v := (.bool false)) rfl (by kernel_rfl) (by kernel_rfl) (by kernel_rfl) (fun _ _ _ h => h) (Or.inl ⟨by rfl, fun w' hS => by (try dsimp only at hS); go_simp⟩) hS9 ?_
          simp only [Act.put, List.setIfInBounds_toArray, List.set_cons_zero, List.set_cons_succ]
          refine wpAnyH_done (by kernel_rfl) ?_ _
          refine NoPanic.normal ?_
          clear hN
          have HSTP : Hid _ := pc_step HV.out HBW.out HPW.out
          have HON : Hid (∀ t, t < j + 1 → insOK (F t 0) (F t 1) (F t 2)) := fun t ht => by
            by_cases e : t = j
            · rw [e]; exact HOK.out
            · exact HO.out t (by omega)
          obtain ⟨vv, gv⟩ : ∃ v, w7.cell? ⟨w.heap.size, j, none⟩ = some v := ⟨_, HPW.out.cell HLT.out⟩
          have fq := HPW.out.frozen j
          clear HO HOK HV HPW HBW HBX HE HFT
          go_wp2
          go_roundw
          case rel => exact ⟨j + 1, by omega, by go_num, HON.out, HSTP.out.1, HSTP.out.2⟩
          case measure => simp [intOf]; omega
        · have hN : ∀ w', (binOp .neq 170 (.agg #[.int .i64 (1 : Int), .int .i64 0, .int .i64 (F j 2)]) (.agg #[.int .i64 (1 : Int), .int .i64 (F j 1), .int .i64 (F j 2)])).run Try.prog w' = .ok (.bool true) w' := fun w' => trip_ne _ _ _ _ _ hB w'
          have HOK : Hid (¬ insOK (F j 0) (F j 1) (F j 2)) := fun g => by
            have h1 := (insOK_iff _ _ _).1 g
            have h2 := h1.2.1
            have h3 := h1.2.2
            rw [HE.out] at h2 h3
            simp [wa] at h2
            simp [wx] at h3
            exact hB (by constructor <;> omega)
          clear hB
          go_upto_region 8 with fail
          have hS0 := get3 (HBX.out.blw (Blw.refl w2).drew)
          refine wp_region_noPanic ?_
          refine wp_region_held_drew (S := fun w' => w'.cell? ⟨zb, 0, none⟩ = some (.int .i64 (1 : Int)) ∧ w'.cell? ⟨zb, 1, none⟩ = some (.int .i64 (F j 1)) ∧ w'.cell? ⟨zb, 2, none⟩ = some (.int .i64 (F j 2))) (by kernel_rfl) hS0 (fun hB => ?_)
          clear hB
          refine wpAnyH_take (i := 0) (oi := { dst := some 32, op := Op.move (Operand.tmp 8), type := 4, pos := _, after := #[], guard := none }) (v := (.bool true)) rfl (by kernel_rfl) (by kernel_rfl) (by kernel_rfl) (fun _ _ _ h => h) (Or.inl ⟨by rfl, fun w' hS => by (try dsimp only at hS); go_simp⟩) hS0 ?_
          simp only [Act.put, List.setIfInBounds_toArray, List.set_cons_zero, List.set_cons_succ]
          refine wpAnyH_take (i := 1) (oi := { dst := some 33, op := Op.unOp UnOp.not 4 (Operand.tmp 32), type := 4, pos := _, after := #[{ on := 0, ground := Ground.data }], guard := none }) (v := (.bool false)) rfl (by kernel_rfl) (by kernel_rfl) (by kernel_rfl) (fun _ _ _ h => h) (Or.inl ⟨by rfl, fun w' hS => by (try dsimp only at hS); go_simp⟩) hS0 ?_
          simp only [Act.put, List.setIfInBounds_toArray, List.set_cons_zero, List.set_cons_succ]
          refine wpAnyH_take (i := 2) (oi := { dst := some 34, op := Op.move (Operand.tmp 33), type := 4, pos := _, after := #[{ on := 1, ground := Ground.data }], guard := none }) (v := (.bool false)) rfl (by kernel_rfl) (by kernel_rfl) (by kernel_rfl) (fun _ _ _ h => h) (Or.inl ⟨by rfl, fun w' hS => by (try dsimp only at hS); go_simp⟩) hS0 ?_
          simp only [Act.put, List.setIfInBounds_toArray, List.set_cons_zero, List.set_cons_succ]
          refine wpAnyH_take (i := 3) (oi := { dst := some 35, op := Op.move (Operand.tmp 7), type := 214, pos := _, after := #[{ on := 2, ground := Ground.guard }], guard := some (2, false) }) (v := (.iface 228 (.agg #[.int .i64 (F j 2)]))) rfl (by kernel_rfl) (by kernel_rfl) (by kernel_rfl) (fun _ _ _ h => h) (Or.inl ⟨by rfl, fun w' hS => by (try dsimp only at hS); go_simp⟩) hS0 ?_
          simp only [Act.put, List.setIfInBounds_toArray, List.set_cons_zero, List.set_cons_succ]
          refine wpAnyH_take (i := 5) (oi := { dst := some 37, op := Op.load 170 (Operand.tmp 6), type := 170, pos := _, after := #[{ on := 2, ground := Ground.guard }], guard := some (2, false) }) (v := (.agg #[.int .i64 (1 : Int), .int .i64 (F j 1), .int .i64 (F j 2)])) rfl (by kernel_rfl) (by kernel_rfl) (by kernel_rfl) (fun _ _ _ h => h) (Or.inl ⟨by rfl, fun w' hS => by (try dsimp only at hS); go_simp⟩) hS0 ?_
          simp only [Act.put, List.setIfInBounds_toArray, List.set_cons_zero, List.set_cons_succ]
          refine wpAnyH_ready (rs := [4]) (by kernel_rfl) (by simp) ?_
          refine AllReadyH.cons (o := { dst := some 36, op := Op.call { callee := Callee.invoke (Operand.tmp 35) "loop.example/g00620/impl.written", args := #[], argTypes := #[] }, type := 170, pos := _, after := #[{ on := 3, ground := Ground.data }, { on := 2, ground := Ground.chain }, { on := 2, ground := Ground.guard }], guard := some (2, false) }) rfl (fun K hK => ?_) AllReadyH.nil
          have hm := method1 (F j 2)
          have ha := ahead1 (F j 2)
          go_simp
          clear hm ha
          refine (written1_any (F j 2) _).mono ?_
          rintro e w7 ⟨rfl, hb7⟩
          replace HBW : Hid (Blw w w7) := (HBW.out.trans (Blw.refl w2).drew).trans hb7
          replace HPW : Hid (Row w7 w.heap.size n (fun i => if i < j then iv (F i 0) (F i 1) (F i 2) else .nilIface)) := (HPW.out.blw (Blw.refl w2).drew).blw hb7
          have hS9 := get3 ((HBX.out.blw (Blw.refl w2).drew).blw hb7)
          clear hb7
          refine hK.out _ _ hS9 (fun hB => ?_)
          clear hK K hB
          try simp only [Act.put, List.setIfInBounds_toArray, List.set_cons_zero, List.set_cons_succ]
          refine wpAnyH_take (i := 6) (oi := { dst := some 38, op := Op.binOp BinOp.neq 170 (Operand.tmp 36) (Operand.tmp 37) 170, type := 4, pos := _, after := #[{ on := 4, ground := Ground.data }, { on := 5, ground := Ground.data }, { on := 2, ground := Ground.guard }], guard := some (2, false) }) (v := (.bool true)) rfl (by kernel_rfl) (by kernel_rfl) (by kernel_rfl) (fun _ _ _ h => h) (Or.inl ⟨by rfl, fun w' hS => by (try dsimp only at hS); go_simp⟩) hS9 ?_
          simp only [Act.put, List.setIfInBounds_toArray, List.set_cons_zero, List.set_cons_succ]
          refine wpAnyH_take (i := 7) (oi := { dst := some 39, op := Op.pick (Operand.tmp 34) (Operand.const (Value.bool true)) (Operand.tmp 38), type := 4, pos := _, after := #[{ on := 2, ground := Ground.data }, { on := 6, ground := Ground.data }], guard := none }) (v := (.bool true)) rfl (by kernel_rfl) (by kernel_rfl) (by kernel_rfl) (fun _ _ _ h => h) (Or.inl ⟨by rfl, fun w' hS => by (try dsimp only at hS); go_simp⟩) hS9 ?_
          simp only [Act.put, List.setIfInBounds_toArray, List.set_cons_zero, List.set_cons_succ]
          refine wpAnyH_done (by kernel_rfl) ?_ _
          refine NoPanic.normal ?_
          clear hN HV
          go_wp2
          exact bodyPost_ret (v := .tuple #[.slice none 0 0, .bool false]) (by simp [results, Try.results129, go_sem]) rfl ⟨Or.inr ⟨fun g => HOK.out (g.i j HLT.out), rfl⟩, HBW.out⟩
      · have HV : Hid (iv (F j 0) (F j 1) (F j 2) = .iface 229 (.agg #[.int .i64 (F j 2)])) := by show _ = _; rw [e]; rfl
        rw [HV.out, e]
        have HE : Hid (F j 0 = 2) := e
        have HBX : Hid (Row w2 zb 3 (fun i => if i = 0 then .int .i64 (2 : Int) else if i = 1 then .int .i64 (F j 1) else .int .i64 (F j 2))) := by have h9 := HX.out; rw [e] at h9; exact h9
        clear e HX
        by_cases hB : F j 1 = 0 ∧ F j 2 = (F j 2)
        · have hN : ∀ w', (binOp .neq 170 (.agg #[.int .i64 (2 : Int), .int .i64 0, .int .i64 (F j 2)]) (.agg #[.int .i64 (2 : Int), .int .i64 (F j 1), .int .i64 (F j 2)])).run Try.prog w' = .ok (.bool false) w' := fun w' => trip_eq _ _ _ _ _ hB w'
          have HOK : Hid (insOK (F j 0) (F j 1) (F j 2)) := (insOK_iff _ _ _).2 ⟨HFT.out, by rw [HE.out]; (try rw [hB.1]); simp [wa], by rw [HE.out]; (try rw [hB.2]); simp [wx]⟩
          clear hB
          go_upto_region 8 with fail
          have hS0 := get3 (HBX.out.blw (Blw.refl w2).drew)
          refine wp_region_noPanic ?_
          refine wp_region_held_drew (S := fun w' => w'.cell? ⟨zb, 0, none⟩ = some (.int .i64 (2 : Int)) ∧ w'.cell? ⟨zb, 1, none⟩ = some (.int .i64 (F j 1)) ∧ w'.cell? ⟨zb, 2, none⟩ = some (.int .i64 (F j 2))) (by kernel_rfl) hS0 (fun hB => ?_)
          clear hB
          refine wpAnyH_take (i := 0) (oi := { dst := some 32, op := Op.move (Operand.tmp 8), type := 4, pos := _, after := #[], guard := none }) (v := (.bool true)) rfl (by kernel_rfl) (by kernel_rfl) (by kernel_rfl) (fun _ _ _ h => h) (Or.inl ⟨by rfl, fun w' hS => by (try dsimp only at hS); go_simp⟩) hS0 ?_
          simp only [Act.put, List.setIfInBounds_toArray, List.set_cons_zero, List.set_cons_succ]
          refine wpAnyH_take (i := 1) (oi := { dst := some 33, op := Op.unOp UnOp.not 4 (Operand.tmp 32), type := 4, pos := _, after := #[{ on := 0, ground := Ground.data }], guard := none }) (v := (.bool false)) rfl (by kernel_rfl) (by kernel_rfl) (by kernel_rfl) (fun _ _ _ h => h) (Or.inl ⟨by rfl, fun w' hS => by (try dsimp only at hS); go_simp⟩) hS0 ?_
          simp only [Act.put, List.setIfInBounds_toArray, List.set_cons_zero, List.set_cons_succ]
          refine wpAnyH_take (i := 2) (oi := { dst := some 34, op := Op.move (Operand.tmp 33), type := 4, pos := _, after := #[{ on := 1, ground := Ground.data }], guard := none }) (v := (.bool false)) rfl (by kernel_rfl) (by kernel_rfl) (by kernel_rfl) (fun _ _ _ h => h) (Or.inl ⟨by rfl, fun w' hS => by (try dsimp only at hS); go_simp⟩) hS0 ?_
          simp only [Act.put, List.setIfInBounds_toArray, List.set_cons_zero, List.set_cons_succ]
          refine wpAnyH_take (i := 3) (oi := { dst := some 35, op := Op.move (Operand.tmp 7), type := 214, pos := _, after := #[{ on := 2, ground := Ground.guard }], guard := some (2, false) }) (v := (.iface 229 (.agg #[.int .i64 (F j 2)]))) rfl (by kernel_rfl) (by kernel_rfl) (by kernel_rfl) (fun _ _ _ h => h) (Or.inl ⟨by rfl, fun w' hS => by (try dsimp only at hS); go_simp⟩) hS0 ?_
          simp only [Act.put, List.setIfInBounds_toArray, List.set_cons_zero, List.set_cons_succ]
          refine wpAnyH_take (i := 5) (oi := { dst := some 37, op := Op.load 170 (Operand.tmp 6), type := 170, pos := _, after := #[{ on := 2, ground := Ground.guard }], guard := some (2, false) }) (v := (.agg #[.int .i64 (2 : Int), .int .i64 (F j 1), .int .i64 (F j 2)])) rfl (by kernel_rfl) (by kernel_rfl) (by kernel_rfl) (fun _ _ _ h => h) (Or.inl ⟨by rfl, fun w' hS => by (try dsimp only at hS); go_simp⟩) hS0 ?_
          simp only [Act.put, List.setIfInBounds_toArray, List.set_cons_zero, List.set_cons_succ]
          refine wpAnyH_ready (rs := [4]) (by kernel_rfl) (by simp) ?_
          refine AllReadyH.cons (o := { dst := some 36, op := Op.call { callee := Callee.invoke (Operand.tmp 35) "loop.example/g00620/impl.written", args := #[], argTypes := #[] }, type := 170, pos := _, after := #[{ on := 3, ground := Ground.data }, { on := 2, ground := Ground.chain }, { on := 2, ground := Ground.guard }], guard := some (2, false) }) rfl (fun K hK => ?_) AllReadyH.nil
          have hm := method2 (F j 2)
          have ha := ahead2 (F j 2)
          go_simp
          clear hm ha
          refine (written2_any (F j 2) _).mono ?_
          rintro e w7 ⟨rfl, hb7⟩
          replace HBW : Hid (Blw w w7) := (HBW.out.trans (Blw.refl w2).drew).trans hb7
          replace HPW : Hid (Row w7 w.heap.size n (fun i => if i < j then iv (F i 0) (F i 1) (F i 2) else .nilIface)) := (HPW.out.blw (Blw.refl w2).drew).blw hb7
          have hS9 := get3 ((HBX.out.blw (Blw.refl w2).drew).blw hb7)
          clear hb7
          refine hK.out _ _ hS9 (fun hB => ?_)
          clear hK K hB
          try simp only [Act.put, List.setIfInBounds_toArray, List.set_cons_zero, List.set_cons_succ]
          refine wpAnyH_take (i := 6) (oi := { dst := some 38, op := Op.binOp BinOp.neq 170 (Operand.tmp 36) (Operand.tmp 37) 170, type := 4, pos := _, after := #[{ on := 4, ground := Ground.data }, { on := 5, ground := Ground.data }, { on := 2, ground := Ground.guard }], guard := some (2, false) }) (v := (.bool false)) rfl (by kernel_rfl) (by kernel_rfl) (by kernel_rfl) (fun _ _ _ h => h) (Or.inl ⟨by rfl, fun w' hS => by (try dsimp only at hS); go_simp⟩) hS9 ?_
          simp only [Act.put, List.setIfInBounds_toArray, List.set_cons_zero, List.set_cons_succ]
          refine wpAnyH_take (i := 7) (oi := { dst := some 39, op := Op.pick (Operand.tmp 34) (Operand.const (Value.bool true)) (Operand.tmp 38), type := 4, pos := _, after := #[{ on := 2, ground := Ground.data }, { on := 6, ground := Ground.data }], guard := none }) (v := (.bool false)) rfl (by kernel_rfl) (by kernel_rfl) (by kernel_rfl) (fun _ _ _ h => h) (Or.inl ⟨by rfl, fun w' hS => by (try dsimp only at hS); go_simp⟩) hS9 ?_
          simp only [Act.put, List.setIfInBounds_toArray, List.set_cons_zero, List.set_cons_succ]
          refine wpAnyH_done (by kernel_rfl) ?_ _
          refine NoPanic.normal ?_
          clear hN
          have HSTP : Hid _ := pc_step HV.out HBW.out HPW.out
          have HON : Hid (∀ t, t < j + 1 → insOK (F t 0) (F t 1) (F t 2)) := fun t ht => by
            by_cases e : t = j
            · rw [e]; exact HOK.out
            · exact HO.out t (by omega)
          obtain ⟨vv, gv⟩ : ∃ v, w7.cell? ⟨w.heap.size, j, none⟩ = some v := ⟨_, HPW.out.cell HLT.out⟩
          have fq := HPW.out.frozen j
          clear HO HOK HV HPW HBW HBX HE HFT
          go_wp2
          go_roundw
          case rel => exact ⟨j + 1, by omega, by go_num, HON.out, HSTP.out.1, HSTP.out.2⟩
          case measure => simp [intOf]; omega
        · have hN : ∀ w', (binOp .neq 170 (.agg #[.int .i64 (2 : Int), .int .i64 0, .int .i64 (F j 2)]) (.agg #[.int .i64 (2 : Int), .int .i64 (F j 1), .int .i64 (F j 2)])).run Try.prog w' = .ok (.bool true) w' := fun w' => trip_ne _ _ _ _ _ hB w'
          have HOK : Hid (¬ insOK (F j 0) (F j 1) (F j 2)) := fun g => by
            have h1 := (insOK_iff _ _ _).1 g
            have h2 := h1.2.1
            have h3 := h1.2.2
            rw [HE.out] at h2 h3
            simp [wa] at h2
            simp [wx] at h3
            exact hB (by constructor <;> omega)
          clear hB
          go_upto_region 8 with fail
          have hS0 := get3 (HBX.out.blw (Blw.refl w2).drew)
          refine wp_region_noPanic ?_
          refine wp_region_held_drew (S := fun w' => w'.cell? ⟨zb, 0, none⟩ = some (.int .i64 (2 : Int)) ∧ w'.cell? ⟨zb, 1, none⟩ = some (.int .i64 (F j 1)) ∧ w'.cell? ⟨zb, 2, none⟩ = some (.int .i64 (F j 2))) (by kernel_rfl) hS0 (fun hB => ?_)
          clear hB
          refine wpAnyH_take (i := 0) (oi := { dst := some 32, op := Op.move (Operand.tmp 8), type := 4, pos := _, after := #[], guard := none }) (v := (.bool true)) rfl (by kernel_rfl) (by kernel_rfl) (by kernel_rfl) (fun _ _ _ h => h) (Or.inl ⟨by rfl, fun w' hS => by (try dsimp only at hS); go_simp⟩) hS0 ?_
          simp only [Act.put, List.setIfInBounds_toArray, List.set_cons_zero, List.set_cons_succ]
          refine wpAnyH_take (i := 1) (oi := { dst := some 33, op := Op.unOp UnOp.not 4 (Operand.tmp 32), type := 4, pos := _, after := #[{ on := 0, ground := Ground.data }], guard := none }) (v := (.bool false)) rfl (by kernel_rfl) (by kernel_rfl) (by kernel_rfl) (fun _ _ _ h => h) (Or.inl ⟨by rfl, fun w' hS => by (try dsimp only at hS); go_simp⟩) hS0 ?_
          simp only [Act.put, List.setIfInBounds_toArray, List.set_cons_zero, List.set_cons_succ]
          refine wpAnyH_take (i := 2) (oi := { dst := some 34, op := Op.move (Operand.tmp 33), type := 4, pos := _, after := #[{ on := 1, ground := Ground.data }], guard := none }) (v := (.bool false)) rfl (by kernel_rfl) (by kernel_rfl) (by kernel_rfl) (fun _ _ _ h => h) (Or.inl ⟨by rfl, fun w' hS => by (try dsimp only at hS); go_simp⟩) hS0 ?_
          simp only [Act.put, List.setIfInBounds_toArray, List.set_cons_zero, List.set_cons_succ]
          refine wpAnyH_take (i := 3) (oi := { dst := some 35, op := Op.move (Operand.tmp 7), type := 214, pos := _, after := #[{ on := 2, ground := Ground.guard }], guard := some (2, false) }) (v := (.iface 229 (.agg #[.int .i64 (F j 2)]))) rfl (by kernel_rfl) (by kernel_rfl) (by kernel_rfl) (fun _ _ _ h => h) (Or.inl ⟨by rfl, fun w' hS => by (try dsimp only at hS); go_simp⟩) hS0 ?_
          simp only [Act.put, List.setIfInBounds_toArray, List.set_cons_zero, List.set_cons_succ]
          refine wpAnyH_take (i := 5) (oi := { dst := some 37, op := Op.load 170 (Operand.tmp 6), type := 170, pos := _, after := #[{ on := 2, ground := Ground.guard }], guard := some (2, false) }) (v := (.agg #[.int .i64 (2 : Int), .int .i64 (F j 1), .int .i64 (F j 2)])) rfl (by kernel_rfl) (by kernel_rfl) (by kernel_rfl) (fun _ _ _ h => h) (Or.inl ⟨by rfl, fun w' hS => by (try dsimp only at hS); go_simp⟩) hS0 ?_
          simp only [Act.put, List.setIfInBounds_toArray, List.set_cons_zero, List.set_cons_succ]
          refine wpAnyH_ready (rs := [4]) (by kernel_rfl) (by simp) ?_
          refine AllReadyH.cons (o := { dst := some 36, op := Op.call { callee := Callee.invoke (Operand.tmp 35) "loop.example/g00620/impl.written", args := #[], argTypes := #[] }, type := 170, pos := _, after := #[{ on := 3, ground := Ground.data }, { on := 2, ground := Ground.chain }, { on := 2, ground := Ground.guard }], guard := some (2, false) }) rfl (fun K hK => ?_) AllReadyH.nil
          have hm := method2 (F j 2)
          have ha := ahead2 (F j 2)
          go_simp
          clear hm ha
          refine (written2_any (F j 2) _).mono ?_
          rintro e w7 ⟨rfl, hb7⟩
          replace HBW : Hid (Blw w w7) := (HBW.out.trans (Blw.refl w2).drew).trans hb7
          replace HPW : Hid (Row w7 w.heap.size n (fun i => if i < j then iv (F i 0) (F i 1) (F i 2) else .nilIface)) := (HPW.out.blw (Blw.refl w2).drew).blw hb7
          have hS9 := get3 ((HBX.out.blw (Blw.refl w2).drew).blw hb7)
          clear hb7
          refine hK.out _ _ hS9 (fun hB => ?_)
          clear hK K hB
          try simp only [Act.put, List.setIfInBounds_toArray, List.set_cons_zero, List.set_cons_succ]
          refine wpAnyH_take (i := 6) (oi := { dst := some 38, op := Op.binOp BinOp.neq 170 (Operand.tmp 36) (Operand.tmp 37) 170, type := 4, pos := _, after := #[{ on := 4, ground := Ground.data }, { on := 5, ground := Ground.data }, { on := 2, ground := Ground.guard }], guard := some (2, false) }) (v := (.bool true)) rfl (by kernel_rfl) (by kernel_rfl) (by kernel_rfl) (fun _ _ _ h => h) (Or.inl ⟨by rfl, fun w' hS => by (try dsimp only at hS); go_simp⟩) hS9 ?_
          simp only [Act.put, List.setIfInBounds_toArray, List.set_cons_zero, List.set_cons_succ]
          refine wpAnyH_take (i := 7) (oi := { dst := some 39, op := Op.pick (Operand.tmp 34) (Operand.const (Value.bool true)) (Operand.tmp 38), type := 4, pos := _, after := #[{ on := 2, ground := Ground.data }, { on := 6, ground := Ground.data }], guard := none }) (v := (.bool true)) rfl (by kernel_rfl) (by kernel_rfl) (by kernel_rfl) (fun _ _ _ h => h) (Or.inl ⟨by rfl, fun w' hS => by (try dsimp only at hS); go_simp⟩) hS9 ?_
          simp only [Act.put, List.setIfInBounds_toArray, List.set_cons_zero, List.set_cons_succ]
          refine wpAnyH_done (by kernel_rfl) ?_ _
          refine NoPanic.normal ?_
          clear hN HV
          go_wp2
          exact bodyPost_ret (v := .tuple #[.slice none 0 0, .bool false]) (by simp [results, Try.results129, go_sem]) rfl ⟨Or.inr ⟨fun g => HOK.out (g.i j HLT.out), rfl⟩, HBW.out⟩
      · have HV : Hid (iv (F j 0) (F j 1) (F j 2) = .iface 231 (.agg #[.int .i64 (F j 1)])) := by show _ = _; rw [e]; rfl
        rw [HV.out, e]
        have HE : Hid (F j 0 = 3) := e
        have HBX : Hid (Row w2 zb 3 (fun i => if i = 0 then .int .i64 (3 : Int) else if i = 1 then .int .i64 (F j 1) else .int .i64 (F j 2))) := by have h9 := HX.out; rw [e] at h9; exact h9
        clear e HX
        by_cases hB : F j 1 = (F j 1) ∧ F j 2 = 0
        · have hN : ∀ w', (binOp .neq 170 (.agg #[.int .i64 (3 : Int), .int .i64 (F j 1), .int .i64 0]) (.agg #[.int .i64 (3 : Int), .int .i64 (F j 1), .int .i64 (F j 2)])).run Try.prog w' = .ok (.bool false) w' := fun w' => trip_eq _ _ _ _ _ hB w'
          have HOK : Hid (insOK (F j 0) (F j 1) (F j 2)) := (insOK_iff _ _ _).2 ⟨HFT.out, by rw [HE.out]; (try rw [hB.1]); simp [wa], by rw [HE.out]; (try rw [hB.2]); simp [wx]⟩
          clear hB
          go_upto_region 8 with fail
          have hS0 := get3 (HBX.out.blw (Blw.refl w2).drew)
          refine wp_region_noPanic ?_
          refine wp_region_held_drew (S := fun w' => w'.cell? ⟨zb, 0, none⟩ = some (.int .i64 (3 : Int)) ∧ w'.cell? ⟨zb, 1, none⟩ = some (.int .i64 (F j 1)) ∧ w'.cell? ⟨zb, 2, none⟩ = some (.int .i64 (F j 2))) (by kernel_rfl) hS0 (fun hB => ?_)
          clear hB
          refine wpAnyH_take (i := 0) (oi := { dst := some 32, op := Op.move (Operand.tmp 8), type := 4, pos := _, after := #[], guard := none }) (v := (.bool true)) rfl (by kernel_rfl) (by kernel_rfl) (by kernel_rfl) (fun _ _ _ h => h) (Or.inl ⟨by rfl, fun w' hS => by (try dsimp only at hS); go_simp⟩) hS0 ?_
          simp only [Act.put, List.setIfInBounds_toArray, List.set_cons_zero, List.set_cons_succ]
          refine wpAnyH_take (i := 1) (oi := { dst := some 33, op := Op.unOp UnOp.not 4 (Operand.tmp 32), type := 4, pos := _, after := #[{ on := 0, ground := Ground.data }], guard := none }) (v := (.bool false)) rfl (by kernel_rfl) (by kernel_rfl) (by kernel_rfl) (fun _ _ _ h => h) (Or.inl ⟨by rfl, fun w' hS => by (try dsimp only at hS); go_simp⟩) hS0 ?_
          simp only [Act.put, List.setIfInBounds_toArray, List.set_cons_zero, List.set_cons_succ]
          refine wpAnyH_take (i := 2) (oi := { dst := some 34, op := Op.move (Operand.tmp 33), type := 4, pos := _, after := #[{ on := 1, ground := Ground.data }], guard := none }) (v := (.bool false)) rfl (by kernel_rfl) (by kernel_rfl) (by kernel_rfl) (fun _ _ _ h => h) (Or.inl ⟨by rfl, fun w' hS => by (try dsimp only at hS); go_simp⟩) hS0 ?_
          simp only [Act.put, List.setIfInBounds_toArray, List.set_cons_zero, List.set_cons_succ]
          refine wpAnyH_take (i := 3) (oi := { dst := some 35, op := Op.move (Operand.tmp 7), type := 214, pos := _, after := #[{ on := 2, ground := Ground.guard }], guard := some (2, false) }) (v := (.iface 231 (.agg #[.int .i64 (F j 1)]))) rfl (by kernel_rfl) (by kernel_rfl) (by kernel_rfl) (fun _ _ _ h => h) (Or.inl ⟨by rfl, fun w' hS => by (try dsimp only at hS); go_simp⟩) hS0 ?_
          simp only [Act.put, List.setIfInBounds_toArray, List.set_cons_zero, List.set_cons_succ]
          refine wpAnyH_take (i := 5) (oi := { dst := some 37, op := Op.load 170 (Operand.tmp 6), type := 170, pos := _, after := #[{ on := 2, ground := Ground.guard }], guard := some (2, false) }) (v := (.agg #[.int .i64 (3 : Int), .int .i64 (F j 1), .int .i64 (F j 2)])) rfl (by kernel_rfl) (by kernel_rfl) (by kernel_rfl) (fun _ _ _ h => h) (Or.inl ⟨by rfl, fun w' hS => by (try dsimp only at hS); go_simp⟩) hS0 ?_
          simp only [Act.put, List.setIfInBounds_toArray, List.set_cons_zero, List.set_cons_succ]
          refine wpAnyH_ready (rs := [4]) (by kernel_rfl) (by simp) ?_
          refine AllReadyH.cons (o := { dst := some 36, op := Op.call { callee := Callee.invoke (Operand.tmp 35) "loop.example/g00620/impl.written", args := #[], argTypes := #[] }, type := 170, pos := _, after := #[{ on := 3, ground := Ground.data }, { on := 2, ground := Ground.chain }, { on := 2, ground := Ground.guard }], guard := some (2, false) }) rfl (fun K hK => ?_) AllReadyH.nil
          have hm := method3 (F j 1)
          have ha := ahead3 (F j 1)
          go_simp
          clear hm ha
          refine (written3_any (F j 1) _).mono ?_
          rintro e w7 ⟨rfl, hb7⟩
          replace HBW : Hid (Blw w w7) := (HBW.out.trans (Blw.refl w2).drew).trans hb7
          replace HPW : Hid (Row w7 w.heap.size n (fun i => if i < j then iv (F i 0) (F i 1) (F i 2) else .nilIface)) := (HPW.out.blw (Blw.refl w2).drew).blw hb7
          have hS9 := get3 ((HBX.out.blw (Blw.refl w2).drew).blw hb7)
          clear hb7
          refine hK.out _ _ hS9 (fun hB => ?_)
          clear hK K hB
          try simp only [Act.put, List.setIfInBounds_toArray, List.set_cons_zero, List.set_cons_succ]
          refine wpAnyH_take (i := 6) (oi := { dst := some 38, op := Op.binOp BinOp.neq 170 (Operand.tmp 36) (Operand.tmp 37) 170, type := 4, pos := _, after := #[{ on := 4, ground := Ground.data }, { on := 5, ground := Ground.data }, { on := 2, ground := Ground.guard }], guard := some (2, false) }) (v := (.bool false)) rfl (by kernel_rfl) (by kernel_rfl) (by kernel_rfl) (fun _ _ _ h => h) (Or.inl ⟨by rfl, fun w' hS => by (try dsimp only at hS); go_simp⟩) hS9 ?_
          simp only [Act.put, List.setIfInBounds_toArray, List.set_cons_zero, List.set_cons_succ]
          refine wpAnyH_take (i := 7) (oi := { dst := some 39, op := Op.pick (Operand.tmp 34) (Operand.const (Value.bool true)) (Operand.tmp 38), type := 4, pos := _, after := #[{ on := 2, ground := Ground.data }, { on := 6, ground := Ground.data }], guard := none }) (v := (.bool false)) rfl (by kernel_rfl) (by kernel_rfl) (by kernel_rfl) (fun _ _ _ h => h) (Or.inl ⟨by rfl, fun w' hS => by (try dsimp only at hS); go_simp⟩) hS9 ?_
          simp only [Act.put, List.setIfInBounds_toArray, List.set_cons_zero, List.set_cons_succ]
          refine wpAnyH_done (by kernel_rfl) ?_ _
          refine NoPanic.normal ?_
          clear hN
          have HSTP : Hid _ := pc_step HV.out HBW.out HPW.out
          have HON : Hid (∀ t, t < j + 1 → insOK (F t 0) (F t 1) (F t 2)) := fun t ht => by
            by_cases e : t = j
            · rw [e]; exact HOK.out
            · exact HO.out t (by omega)
          obtain ⟨vv, gv⟩ : ∃ v, w7.cell? ⟨w.heap.size, j, none⟩ = some v := ⟨_, HPW.out.cell HLT.out⟩
          have fq := HPW.out.frozen j
          clear HO HOK HV HPW HBW HBX HE HFT
          go_wp2
          go_roundw
          case rel => exact ⟨j + 1, by omega, by go_num, HON.out, HSTP.out.1, HSTP.out.2⟩
          case measure => simp [intOf]; omega
        · have hN : ∀ w', (binOp .neq 170 (.agg #[.int .i64 (3 : Int), .int .i64 (F j 1), .int .i64 0]) (.agg #[.int .i64 (3 : Int), .int .i64 (F j 1), .int .i64 (F j 2)])).run Try.prog w' = .ok (.bool true) w' := fun w' => trip_ne _ _ _ _ _ hB w'
          have HOK : Hid (¬ insOK (F j 0) (F j 1) (F j 2)) := fun g => by
            have h1 := (insOK_iff _ _ _).1 g
            have h2 := h1.2.1
            have h3 := h1.2.2
            rw [HE.out] at h2 h3
            simp [wa] at h2
            simp [wx] at h3
            exact hB (by constructor <;> omega)
          clear hB
          go_upto_region 8 with fail
          have hS0 := get3 (HBX.out.blw (Blw.refl w2).drew)
          refine wp_region_noPanic ?_
          refine wp_region_held_drew (S := fun w' => w'.cell? ⟨zb, 0, none⟩ = some (.int .i64 (3 : Int)) ∧ w'.cell? ⟨zb, 1, none⟩ = some (.int .i64 (F j 1)) ∧ w'.cell? ⟨zb, 2, none⟩ = some (.int .i64 (F j 2))) (by kernel_rfl) hS0 (fun hB => ?_)
          clear hB
          refine wpAnyH_take (i := 0) (oi := { dst := some 32, op := Op.move (Operand.tmp 8), type := 4, pos := _, after := #[], guard := none }) (v := (.bool true)) rfl (by kernel_rfl) (by kernel_rfl) (by kernel_rfl) (fun _ _ _ h => h) (Or.inl ⟨by rfl, fun w' hS => by (try dsimp only at hS); go_simp⟩) hS0 ?_
          simp only [Act.put, List.setIfInBounds_toArray, List.set_cons_zero, List.set_cons_succ]
          refine wpAnyH_take (i := 1) (oi := { dst := some 33, op := Op.unOp UnOp.not 4 (Operand.tmp 32), type := 4, pos := _, after := #[{ on := 0, ground := Ground.data }], guard := none }) (v := (.bool false)) rfl (by kernel_rfl) (by kernel_rfl) (by kernel_rfl) (fun _ _ _ h => h) (Or.inl ⟨by rfl, fun w' hS => by (try dsimp only at hS); go_simp⟩) hS0 ?_
          simp only [Act.put, List.setIfInBounds_toArray, List.set_cons_zero, List.set_cons_succ]
          refine wpAnyH_take (i := 2) (oi := { dst := some 34, op := Op.move (Operand.tmp 33), type := 4, pos := _, after := #[{ on := 1, ground := Ground.data }], guard := none }) (v := (.bool false)) rfl (by kernel_rfl) (by kernel_rfl) (by kernel_rfl) (fun _ _ _ h => h) (Or.inl ⟨by rfl, fun w' hS => by (try dsimp only at hS); go_simp⟩) hS0 ?_
          simp only [Act.put, List.setIfInBounds_toArray, List.set_cons_zero, List.set_cons_succ]
          refine wpAnyH_take (i := 3) (oi := { dst := some 35, op := Op.move (Operand.tmp 7), type := 214, pos := _, after := #[{ on := 2, ground := Ground.guard }], guard := some (2, false) }) (v := (.iface 231 (.agg #[.int .i64 (F j 1)]))) rfl (by kernel_rfl) (by kernel_rfl) (by kernel_rfl) (fun _ _ _ h => h) (Or.inl ⟨by rfl, fun w' hS => by (try dsimp only at hS); go_simp⟩) hS0 ?_
          simp only [Act.put, List.setIfInBounds_toArray, List.set_cons_zero, List.set_cons_succ]
          refine wpAnyH_take (i := 5) (oi := { dst := some 37, op := Op.load 170 (Operand.tmp 6), type := 170, pos := _, after := #[{ on := 2, ground := Ground.guard }], guard := some (2, false) }) (v := (.agg #[.int .i64 (3 : Int), .int .i64 (F j 1), .int .i64 (F j 2)])) rfl (by kernel_rfl) (by kernel_rfl) (by kernel_rfl) (fun _ _ _ h => h) (Or.inl ⟨by rfl, fun w' hS => by (try dsimp only at hS); go_simp⟩) hS0 ?_
          simp only [Act.put, List.setIfInBounds_toArray, List.set_cons_zero, List.set_cons_succ]
          refine wpAnyH_ready (rs := [4]) (by kernel_rfl) (by simp) ?_
          refine AllReadyH.cons (o := { dst := some 36, op := Op.call { callee := Callee.invoke (Operand.tmp 35) "loop.example/g00620/impl.written", args := #[], argTypes := #[] }, type := 170, pos := _, after := #[{ on := 3, ground := Ground.data }, { on := 2, ground := Ground.chain }, { on := 2, ground := Ground.guard }], guard := some (2, false) }) rfl (fun K hK => ?_) AllReadyH.nil
          have hm := method3 (F j 1)
          have ha := ahead3 (F j 1)
          go_simp
          clear hm ha
          refine (written3_any (F j 1) _).mono ?_
          rintro e w7 ⟨rfl, hb7⟩
          replace HBW : Hid (Blw w w7) := (HBW.out.trans (Blw.refl w2).drew).trans hb7
          replace HPW : Hid (Row w7 w.heap.size n (fun i => if i < j then iv (F i 0) (F i 1) (F i 2) else .nilIface)) := (HPW.out.blw (Blw.refl w2).drew).blw hb7
          have hS9 := get3 ((HBX.out.blw (Blw.refl w2).drew).blw hb7)
          clear hb7
          refine hK.out _ _ hS9 (fun hB => ?_)
          clear hK K hB
          try simp only [Act.put, List.setIfInBounds_toArray, List.set_cons_zero, List.set_cons_succ]
          refine wpAnyH_take (i := 6) (oi := { dst := some 38, op := Op.binOp BinOp.neq 170 (Operand.tmp 36) (Operand.tmp 37) 170, type := 4, pos := _, after := #[{ on := 4, ground := Ground.data }, { on := 5, ground := Ground.data }, { on := 2, ground := Ground.guard }], guard := some (2, false) }) (v := (.bool true)) rfl (by kernel_rfl) (by kernel_rfl) (by kernel_rfl) (fun _ _ _ h => h) (Or.inl ⟨by rfl, fun w' hS => by (try dsimp only at hS); go_simp⟩) hS9 ?_
          simp only [Act.put, List.setIfInBounds_toArray, List.set_cons_zero, List.set_cons_succ]
          refine wpAnyH_take (i := 7) (oi := { dst := some 39, op := Op.pick (Operand.tmp 34) (Operand.const (Value.bool true)) (Operand.tmp 38), type := 4, pos := _, after := #[{ on := 2, ground := Ground.data }, { on := 6, ground := Ground.data }], guard := none }) (v := (.bool true)) rfl (by kernel_rfl) (by kernel_rfl) (by kernel_rfl) (fun _ _ _ h => h) (Or.inl ⟨by rfl, fun w' hS => by (try dsimp only at hS); go_simp⟩) hS9 ?_
          simp only [Act.put, List.setIfInBounds_toArray, List.set_cons_zero, List.set_cons_succ]
          refine wpAnyH_done (by kernel_rfl) ?_ _
          refine NoPanic.normal ?_
          clear hN HV
          go_wp2
          exact bodyPost_ret (v := .tuple #[.slice none 0 0, .bool false]) (by simp [results, Try.results129, go_sem]) rfl ⟨Or.inr ⟨fun g => HOK.out (g.i j HLT.out), rfl⟩, HBW.out⟩
      · have HV : Hid (iv (F j 0) (F j 1) (F j 2) = .iface 232 (.agg #[.int .i64 (F j 1)])) := by show _ = _; rw [e]; rfl
        rw [HV.out, e]
        have HE : Hid (F j 0 = 4) := e
        have HBX : Hid (Row w2 zb 3 (fun i => if i = 0 then .int .i64 (4 : Int) else if i = 1 then .int .i64 (F j 1) else .int .i64 (F j 2))) := by have h9 := HX.out; rw [e] at h9; exact h9
        clear e HX
        by_cases hB : F j 1 = (F j 1) ∧ F j 2 = 0
        · have hN : ∀ w', (binOp .neq 170 (.agg #[.int .i64 (4 : Int), .int .i64 (F j 1), .int .i64 0]) (.agg #[.int .i64 (4 : Int), .int .i64 (F j 1), .int .i64 (F j 2)])).run Try.prog w' = .ok (.bool false) w' := fun w' => trip_eq _ _ _ _ _ hB w'
          have HOK : Hid (insOK (F j 0) (F j 1) (F j 2)) := (insOK_iff _ _ _).2 ⟨HFT.out, by rw [HE.out]; (try rw [hB.1]); simp [wa], by rw [HE.out]; (try rw [hB.2]); simp [wx]⟩
          clear hB
          go_upto_region 8 with fail
          have hS0 := get3 (HBX.out.blw (Blw.refl w2).drew)
          refine wp_region_noPanic ?_
          refine wp_region_held_drew (S := fun w' => w'.cell? ⟨zb, 0, none⟩ = some (.int .i64 (4 : Int)) ∧ w'.cell? ⟨zb, 1, none⟩ = some (.int .i64 (F j 1)) ∧ w'.cell? ⟨zb, 2, none⟩ = some (.int .i64 (F j 2))) (by kernel_rfl) hS0 (fun hB => ?_)
          clear hB
          refine wpAnyH_take (i := 0) (oi := { dst := some 32, op := Op.move (Operand.tmp 8), type := 4, pos := _, after := #[], guard := none }) (v := (.bool true)) rfl (by kernel_rfl) (by kernel_rfl) (by kernel_rfl) (fun _ _ _ h => h) (Or.inl ⟨by rfl, fun w' hS => by (try dsimp only at hS); go_simp⟩) hS0 ?_
          simp only [Act.put, List.setIfInBounds_toArray, List.set_cons_zero, List.set_cons_succ]
          refine wpAnyH_take (i := 1) (oi := { dst := some 33, op := Op.unOp UnOp.not 4 (Operand.tmp 32), type := 4, pos := _, after := #[{ on := 0, ground := Ground.data }], guard := none }) (v := (.bool false)) rfl (by kernel_rfl) (by kernel_rfl) (by kernel_rfl) (fun _ _ _ h => h) (Or.inl ⟨by rfl, fun w' hS => by (try dsimp only at hS); go_simp⟩) hS0 ?_
          simp only [Act.put, List.setIfInBounds_toArray, List.set_cons_zero, List.set_cons_succ]
          refine wpAnyH_take (i := 2) (oi := { dst := some 34, op := Op.move (Operand.tmp 33), type := 4, pos := _, after := #[{ on := 1, ground := Ground.data }], guard := none }) (v := (.bool false)) rfl (by kernel_rfl) (by kernel_rfl) (by kernel_rfl) (fun _ _ _ h => h) (Or.inl ⟨by rfl, fun w' hS => by (try dsimp only at hS); go_simp⟩) hS0 ?_
          simp only [Act.put, List.setIfInBounds_toArray, List.set_cons_zero, List.set_cons_succ]
          refine wpAnyH_take (i := 3) (oi := { dst := some 35, op := Op.move (Operand.tmp 7), type := 214, pos := _, after := #[{ on := 2, ground := Ground.guard }], guard := some (2, false) }) (v := (.iface 232 (.agg #[.int .i64 (F j 1)]))) rfl (by kernel_rfl) (by kernel_rfl) (by kernel_rfl) (fun _ _ _ h => h) (Or.inl ⟨by rfl, fun w' hS => by (try dsimp only at hS); go_simp⟩) hS0 ?_
          simp only [Act.put, List.setIfInBounds_toArray, List.set_cons_zero, List.set_cons_succ]
          refine wpAnyH_take (i := 5) (oi := { dst := some 37, op := Op.load 170 (Operand.tmp 6), type := 170, pos := _, after := #[{ on := 2, ground := Ground.guard }], guard := some (2, false) }) (v := (.agg #[.int .i64 (4 : Int), .int .i64 (F j 1), .int .i64 (F j 2)])) rfl (by kernel_rfl) (by kernel_rfl) (by kernel_rfl) (fun _ _ _ h => h) (Or.inl ⟨by rfl, fun w' hS => by (try dsimp only at hS); go_simp⟩) hS0 ?_
          simp only [Act.put, List.setIfInBounds_toArray, List.set_cons_zero, List.set_cons_succ]
          refine wpAnyH_ready (rs := [4]) (by kernel_rfl) (by simp) ?_
          refine AllReadyH.cons (o := { dst := some 36, op := Op.call { callee := Callee.invoke (Operand.tmp 35) "loop.example/g00620/impl.written", args := #[], argTypes := #[] }, type := 170, pos := _, after := #[{ on := 3, ground := Ground.data }, { on := 2, ground := Ground.chain }, { on := 2, ground := Ground.guard }], guard := some (2, false) }) rfl (fun K hK => ?_) AllReadyH.nil
          have hm := method4 (F j 1)
          have ha := ahead4 (F j 1)
          go_simp
          clear hm ha
          refine (written4_any (F j 1) _).mono ?_
          rintro e w7 ⟨rfl, hb7⟩
          replace HBW : Hid (Blw w w7) := (HBW.out.trans (Blw.refl w2).drew).trans hb7
          replace HPW : Hid (Row w7 w.heap.size n (fun i => if i < j then iv (F i 0) (F i 1) (F i 2) else .nilIface)) := (HPW.out.blw (Blw.refl w2).drew).blw hb7
          have hS9 := get3 ((HBX.out.blw (Blw.refl w2).drew).blw hb7)
          clear hb7
          refine hK.out _ _ hS9 (fun hB => ?_)
          clear hK K hB
          try simp only [Act.put, List.setIfInBounds_toArray, List.set_cons_zero, List.set_cons_succ]
          refine wpAnyH_take (i := 6) (oi := { dst := some 38, op := Op.binOp BinOp.neq 170 (Operand.tmp 36) (Operand.tmp 37) 170, type := 4, pos := _, after := #[{ on := 4, ground := Ground.data }, { on := 5, ground := Ground.data }, { on := 2, ground := Ground.guard }], guard := some (2, false) }) (v := (.bool false)) rfl (by kernel_rfl) (by kernel_rfl) (by kernel_rfl) (fun _ _ _ h => h) (Or.inl ⟨by rfl, fun w' hS => by (try dsimp only at hS); go_simp⟩) hS9 ?_
          simp only [Act.put, List.setIfInBounds_toArray, List.set_cons_zero, List.set_cons_succ]
          refine wpAnyH_take (i := 7) (oi := { dst := some 39, op := Op.pick (Operand.tmp 34) (Operand.const (Value.bool true)) (Operand.tmp 38), type := 4, pos := _, after := #[{ on := 2, ground := Ground.data }, { on := 6, ground := Ground.data }], guard := none }) (v := (.bool false)) rfl (by kernel_rfl) (by kernel_rfl) (by kernel_rfl) (fun _ _ _ h => h) (Or.inl ⟨by rfl, fun w' hS => by (try dsimp only at hS); go_simp⟩) hS9 ?_
          simp only [Act.put, List.setIfInBounds_toArray, List.set_cons_zero, List.set_cons_succ]
          refine wpAnyH_done (by kernel_rfl) ?_ _
          refine NoPanic.normal ?_
          clear hN
          have HSTP : Hid _ := pc_step HV.out HBW.out HPW.out
          have HON : Hid (∀ t, t < j + 1 → insOK (F t 0) (F t 1) (F t 2)) := fun t ht => by
            by_cases e : t = j
            · rw [e]; exact HOK.out
            · exact HO.out t (by omega)
          obtain ⟨vv, gv⟩ : ∃ v, w7.cell? ⟨w.heap.size, j, none⟩ = some v := ⟨_, HPW.out.cell HLT.out⟩
          have fq := HPW.out.frozen j
          clear HO HOK HV HPW HBW HBX HE HFT
          go_wp2
          go_roundw
          case rel => exact ⟨j + 1, by omega, by go_num, HON.out, HSTP.out.1, HSTP.out.2⟩
          case measure => simp [intOf]; omega
        · have hN : ∀ w', (binOp .neq 170 (.agg #[.int .i64 (4 : Int), .int .i64 (F j 1), .int .i64 0]) (.agg #[.int .i64 (4 : Int), .int .i64 (F j 1), .int .i64 (F j 2)])).run Try.prog w' = .ok (.bool true) w' := fun w' => trip_ne _ _ _ _ _ hB w'
          have HOK : Hid (¬ insOK (F j 0) (F j 1) (F j 2)) := fun g => by
            have h1 := (insOK_iff _ _ _).1 g
            have h2 := h1.2.1
            have h3 := h1.2.2
            rw [HE.out] at h2 h3
            simp [wa] at h2
            simp [wx] at h3
            exact hB (by constructor <;> omega)
          clear hB
          go_upto_region 8 with fail
          have hS0 := get3 (HBX.out.blw (Blw.refl w2).drew)
          refine wp_region_noPanic ?_
          refine wp_region_held_drew (S := fun w' => w'.cell? ⟨zb, 0, none⟩ = some (.int .i64 (4 : Int)) ∧ w'.cell? ⟨zb, 1, none⟩ = some (.int .i64 (F j 1)) ∧ w'.cell? ⟨zb, 2, none⟩ = some (.int .i64 (F j 2))) (by kernel_rfl) hS0 (fun hB => ?_)
          clear hB
          refine wpAnyH_take (i := 0) (oi := { dst := some 32, op := Op.move (Operand.tmp 8), type := 4, pos := _, after := #[], guard := none }) (v := (.bool true)) rfl (by kernel_rfl) (by kernel_rfl) (by kernel_rfl) (fun _ _ _ h => h) (Or.inl ⟨by rfl, fun w' hS => by (try dsimp only at hS); go_simp⟩) hS0 ?_
          simp only [Act.put, List.setIfInBounds_toArray, List.set_cons_zero, List.set_cons_succ]
          refine wpAnyH_take (i := 1) (oi := { dst := some 33, op := Op.unOp UnOp.not 4 (Operand.tmp 32), type := 4, pos := _, after := #[{ on := 0, ground := Ground.data }], guard := none }) (v := (.bool false)) rfl (by kernel_rfl) (by kernel_rfl) (by kernel_rfl) (fun _ _ _ h => h) (Or.inl ⟨by rfl, fun w' hS => by (try dsimp only at hS); go_simp⟩) hS0 ?_
          simp only [Act.put, List.setIfInBounds_toArray, List.set_cons_zero, List.set_cons_succ]
          refine wpAnyH_take (i := 2) (oi := { dst := some 34, op := Op.move (Operand.tmp 33), type := 4, pos := _, after := #[{ on := 1, ground := Ground.data }], guard := none }) (v := (.bool false)) rfl (by kernel_rfl) (by kernel_rfl) (by kernel_rfl) (fun _ _ _ h => h) (Or.inl ⟨by rfl, fun w' hS => by (try dsimp only at hS); go_simp⟩) hS0 ?_
          simp only [Act.put, List.setIfInBounds_toArray, List.set_cons_zero, List.set_cons_succ]
          refine wpAnyH_take (i := 3) (oi := { dst := some 35, op := Op.move (Operand.tmp 7), type := 214, pos := _, after := #[{ on := 2, ground := Ground.guard }], guard := some (2, false) }) (v := (.iface 232 (.agg #[.int .i64 (F j 1)]))) rfl (by kernel_rfl) (by kernel_rfl) (by kernel_rfl) (fun _ _ _ h => h) (Or.inl ⟨by rfl, fun w' hS => by (try dsimp only at hS); go_simp⟩) hS0 ?_
          simp only [Act.put, List.setIfInBounds_toArray, List.set_cons_zero, List.set_cons_succ]
          refine wpAnyH_take (i := 5) (oi := { dst := some 37, op := Op.load 170 (Operand.tmp 6), type := 170, pos := _, after := #[{ on := 2, ground := Ground.guard }], guard := some (2, false) }) (v := (.agg #[.int .i64 (4 : Int), .int .i64 (F j 1), .int .i64 (F j 2)])) rfl (by kernel_rfl) (by kernel_rfl) (by kernel_rfl) (fun _ _ _ h => h) (Or.inl ⟨by rfl, fun w' hS => by (try dsimp only at hS); go_simp⟩) hS0 ?_
          simp only [Act.put, List.setIfInBounds_toArray, List.set_cons_zero, List.set_cons_succ]
          refine wpAnyH_ready (rs := [4]) (by kernel_rfl) (by simp) ?_
          refine AllReadyH.cons (o := { dst := some 36, op := Op.call { callee := Callee.invoke (Operand.tmp 35) "loop.example/g00620/impl.written", args := #[], argTypes := #[] }, type := 170, pos := _, after := #[{ on := 3, ground := Ground.data }, { on := 2, ground := Ground.chain }, { on := 2, ground := Ground.guard }], guard := some (2, false) }) rfl (fun K hK => ?_) AllReadyH.nil
          have hm := method4 (F j 1)
          have ha := ahead4 (F j 1)
          go_simp
          clear hm ha
          refine (written4_any (F j 1) _).mono ?_
          rintro e w7 ⟨rfl, hb7⟩
          replace HBW : Hid (Blw w w7) := (HBW.out.trans (Blw.refl w2).drew).trans hb7
          replace HPW : Hid (Row w7 w.heap.size n (fun i => if i < j then iv (F i 0) (F i 1) (F i 2) else .nilIface)) := (HPW.out.blw (Blw.refl w2).drew).blw hb7
          have hS9 := get3 ((HBX.out.blw (Blw.refl w2).drew).blw hb7)
          clear hb7
          refine hK.out _ _ hS9 (fun hB => ?_)
          clear hK K hB
          try simp only [Act.put, List.setIfInBounds_toArray, List.set_cons_zero, List.set_cons_succ]
          refine wpAnyH_take (i := 6) (oi := { dst := some 38, op := Op.binOp BinOp.neq 170 (Operand.tmp 36) (Operand.tmp 37) 170, type := 4, pos := _, after := #[{ on := 4, ground := Ground.data }, { on := 5, ground := Ground.data }, { on := 2, ground := Ground.guard }], guard := some (2, false) }) (v := (.bool true)) rfl (by kernel_rfl) (by kernel_rfl) (by kernel_rfl) (fun _ _ _ h => h) (Or.inl ⟨by rfl, fun w' hS => by (try dsimp only at hS); go_simp⟩) hS9 ?_
          simp only [Act.put, List.setIfInBounds_toArray, List.set_cons_zero, List.set_cons_succ]
          refine wpAnyH_take (i := 7) (oi := { dst := some 39, op := Op.pick (Operand.tmp 34) (Operand.const (Value.bool true)) (Operand.tmp 38), type := 4, pos := _, after := #[{ on := 2, ground := Ground.data }, { on := 6, ground := Ground.data }], guard := none }) (v := (.bool true)) rfl (by kernel_rfl) (by kernel_rfl) (by kernel_rfl) (fun _ _ _ h => h) (Or.inl ⟨by rfl, fun w' hS => by (try dsimp only at hS); go_simp⟩) hS9 ?_
          simp only [Act.put, List.setIfInBounds_toArray, List.set_cons_zero, List.set_cons_succ]
          refine wpAnyH_done (by kernel_rfl) ?_ _
          refine NoPanic.normal ?_
          clear hN HV
          go_wp2
          exact bodyPost_ret (v := .tuple #[.slice none 0 0, .bool false]) (by simp [results, Try.results129, go_sem]) rfl ⟨Or.inr ⟨fun g => HOK.out (g.i j HLT.out), rfl⟩, HBW.out⟩
      · have HV : Hid (iv (F j 0) (F j 1) (F j 2) = .iface 234 (.agg #[.int .i64 (F j 2)])) := by show _ = _; rw [e]; rfl
        rw [HV.out, e]
        have HE : Hid (F j 0 = 5) := e
        have HBX : Hid (Row w2 zb 3 (fun i => if i = 0 then .int .i64 (5 : Int) else if i = 1 then .int .i64 (F j 1) else .int .i64 (F j 2))) := by have h9 := HX.out; rw [e] at h9; exact h9
        clear e HX
        by_cases hB : F j 1 = 0 ∧ F j 2 = (F j 2)
        · have hN : ∀ w', (binOp .neq 170 (.agg #[.int .i64 (5 : Int), .int .i64 0, .int .i64 (F j 2)]) (.agg #[.int .i64 (5 : Int), .int .i64 (F j 1), .int .i64 (F j 2)])).run Try.prog w' = .ok (.bool false) w' := fun w' => trip_eq _ _ _ _ _ hB w'
          have HOK : Hid (insOK (F j 0) (F j 1) (F j 2)) := (insOK_iff _ _ _).2 ⟨HFT.out, by rw [HE.out]; (try rw [hB.1]); simp [wa], by rw [HE.out]; (try rw [hB.2]); simp [wx]⟩
          clear hB
          go_upto_region 8 with fail
          have hS0 := get3 (HBX.out.blw (Blw.refl w2).drew)
          refine wp_region_noPanic ?_
          refine wp_region_held_drew (S := fun w' => w'.cell? ⟨zb, 0, none⟩ = some (.int .i64 (5 : Int)) ∧ w'.cell? ⟨zb, 1, none⟩ = some (.int .i64 (F j 1)) ∧ w'.cell? ⟨zb, 2, none⟩ = some (.int .i64 (F j 2))) (by kernel_rfl) hS0 (fun hB => ?_)
          clear hB
          refine wpAnyH_take (i := 0) (oi := { dst := some 32, op := Op.move (Operand.tmp 8), type := 4, pos := _, after := #[], guard := none }) (v := (.bool true)) rfl (by kernel_rfl) (by kernel_rfl) (by kernel_rfl) (fun _ _ _ h => h) (Or.inl ⟨by rfl, fun w' hS => by (try dsimp only at hS); go_simp⟩) hS0 ?_
          simp only [Act.put, List.setIfInBounds_toArray, List.set_cons_zero, List.set_cons_succ]
          refine wpAnyH_take (i := 1) (oi := { dst := some 33, op := Op.unOp UnOp.not 4 (Operand.tmp 32), type := 4, pos := _, after := #[{ on := 0, ground := Ground.data }], guard := none }) (v := (.bool false)) rfl (by kernel_rfl) (by kernel_rfl) (by kernel_rfl) (fun _ _ _ h => h) (Or.inl ⟨by rfl, fun w' hS => by (try dsimp only at hS); go_simp⟩) hS0 ?_
          simp only [Act.put, List.setIfInBounds_toArray, List.set_cons_zero, List.set_cons_succ]
          refine wpAnyH_take (i := 2) (oi := { dst := some 34, op := Op.move (Operand.tmp 33), type := 4, pos := _, after := #[{ on := 1, ground := Ground.data }], guard := none }) (v := (.bool false)) rfl (by kernel_rfl) (by kernel_rfl) (by kernel_rfl) (fun _ _ _ h => h) (Or.inl ⟨by rfl, fun w' hS => by (try dsimp only at hS); go_simp⟩) hS0 ?_
          simp only [Act.put, List.setIfInBounds_toArray, List.set_cons_zero, List.set_cons_succ]
          refine wpAnyH_take (i := 3) (oi := { dst := some 35, op := Op.move (Operand.tmp 7), type := 214, pos := _, after := #[{ on := 2, ground := Ground.guard }], guard := some (2, false) }) (v := (.iface 234 (.agg #[.int .i64 (F j 2)]))) rfl (by kernel_rfl) (by kernel_rfl) (by kernel_rfl) (fun _ _ _ h => h) (Or.inl ⟨by rfl, fun w' hS => by (try dsimp only at hS); go_simp⟩) hS0 ?_
          simp only [Act.put, List.setIfInBounds_toArray, List.set_cons_zero, List.set_cons_succ]
          refine wpAnyH_take (i := 5) (oi := { dst := some 37, op := Op.load 170 (Operand.tmp 6), type := 170, pos := _, after := #[{ on := 2, ground := Ground.guard }], guard := some (2, false) }) (v := (.agg #[.int .i64 (5 : Int), .int .i64 (F j 1), .int .i64 (F j 2)])) rfl (by kernel_rfl) (by kernel_rfl) (by kernel_rfl) (fun _ _ _ h => h) (Or.inl ⟨by rfl, fun w' hS => by (try dsimp only at hS); go_simp⟩) hS0 ?_
          simp only [Act.put, List.setIfInBounds_toArray, List.set_cons_zero, List.set_cons_succ]
          refine wpAnyH_ready (rs := [4]) (by kernel_rfl) (by simp) ?_
          refine AllReadyH.cons (o := { dst := some 36, op := Op.call { callee := Callee.invoke (Operand.tmp 35) "loop.example/g00620/impl.written", args := #[], argTypes := #[] }, type := 170, pos := _, after := #[{ on := 3, ground := Ground.data }, { on := 2, ground := Ground.chain }, { on := 2, ground := Ground.guard }], guard := some (2, false) }) rfl (fun K hK => ?_) AllReadyH.nil
          have hm := method5 (F j 2)
          have ha := ahead5 (F j 2)
          go_simp
          clear hm ha
          refine (written5_any (F j 2) _).mono ?_
          rintro e w7 ⟨rfl, hb7⟩
          replace HBW : Hid (Blw w w7) := (HBW.out.trans (Blw.refl w2).drew).trans hb7
          replace HPW : Hid (Row w7 w.heap.size n (fun i => if i < j then iv (F i 0) (F i 1) (F i 2) else .nilIface)) := (HPW.out.blw (Blw.refl w2).drew).blw hb7
          have hS9 := get3 ((HBX.out.blw (Blw.refl w2).drew).blw hb7)
          clear hb7
          refine hK.out _ _ hS9 (fun hB => ?_)
          clear hK K hB
          try simp only [Act.put, List.setIfInBounds_toArray, List.set_cons_zero, List.set_cons_succ]
          refine wpAnyH_take (i := 6) (oi := { dst := some 38, op := Op.binOp BinOp.neq 170 (Operand.tmp 36) (Operand.tmp 37) 170, type := 4, pos := _, after := #[{ on := 4, ground := Ground.data }, { on := 5, ground := Ground.data }, { on := 2, ground := Ground.guard }], guard := some (2, false) }) (v := (.bool false)) rfl (by kernel_rfl) (by kernel_rfl) (by kernel_rfl) (fun _ _ _ h => h) (Or.inl ⟨by rfl, fun w' hS => by (try dsimp only at hS); go_simp⟩) hS9 ?_
          simp only [Act.put, List.setIfInBounds_toArray, List.set_cons_zero, List.set_cons_succ]
          refine wpAnyH_take (i := 7) (oi := { dst := some 39, op := Op.pick (Operand.tmp 34) (Operand.const (Value.bool true)) (Operand.tmp 38), type := 4, pos := _, after := #[{ on := 2, ground := Ground.data }, { on := 6, ground := Ground.data }], guard := none }) (v := (.bool false)) rfl (by kernel_rfl) (by kernel_rfl) (by kernel_rfl) (fun _ _ _ h => h) (Or.inl ⟨by rfl, fun w' hS => by (try dsimp only at hS); go_simp⟩) hS9 ?_
          simp only [Act.put, List.setIfInBounds_toArray, List.set_cons_zero, List.set_cons_succ]
          refine wpAnyH_done (by kernel_rfl) ?_ _
          refine NoPanic.normal ?_
          clear hN
          have HSTP : Hid _ := pc_step HV.out HBW.out HPW.out
          have HON : Hid (∀ t, t < j + 1 → insOK (F t 0) (F t 1) (F t 2)) := fun t ht => by
            by_cases e : t = j
            · rw [e]; exact HOK.out
            · exact HO.out t (by omega)
          obtain ⟨vv, gv⟩ : ∃ v, w7.cell? ⟨w.heap.size, j, none⟩ = some v := ⟨_, HPW.out.cell HLT.out⟩
          have fq := HPW.out.frozen j
          clear HO HOK HV HPW HBW HBX HE HFT
          go_wp2
          go_roundw
          case rel => exact ⟨j + 1, by omega, by go_num, HON.out, HSTP.out.1, HSTP.out.2⟩
          case measure => simp [intOf]; omega
        · have hN : ∀ w', (binOp .neq 170 (.agg #[.int .i64 (5 : Int), .int .i64 0, .int .i64 (F j 2)]) (.agg #[.int .i64 (5 : Int), .int .i64 (F j 1), .int .i64 (F j 2)])).run Try.prog w' = .ok (.bool true) w' := fun w' => trip_ne _ _ _ _ _ hB w'
          have HOK : Hid (¬ insOK (F j 0) (F j 1) (F j 2)) := fun g => by
            have h1 := (insOK_iff _ _ _).1 g
            have h2 := h1.2.1
            have h3 := h1.2.2
            rw [HE.out] at h2 h3
            simp [wa] at h2
            simp [wx] at h3
            exact hB (by constructor <;> omega)
          clear hB
          go_upto_region 8 with fail
          have hS0 := get3 (HBX.out.blw (Blw.refl w2).drew)
          refine wp_region_noPanic ?_
          refine wp_region_held_drew (S := fun w' => w'.cell? ⟨zb, 0, none⟩ = some (.int .i64 (5 : Int)) ∧ w'.cell? ⟨zb, 1, none⟩ = some (.int .i64 (F j 1)) ∧ w'.cell? ⟨zb, 2, none⟩ = some (.int .i64 (F j 2))) (by kernel_rfl) hS0 (fun hB => ?_)
          clear hB
          refine wpAnyH_take (i := 0) (oi := { dst := some 32, op := Op.move (Operand.tmp 8), type := 4, pos := _, after := #[], guard := none }) (v := (.bool true)) rfl (by kernel_rfl) (by kernel_rfl) (by kernel_rfl) (fun _ _ _ h => h) (Or.inl ⟨by rfl, fun w' hS => by (try dsimp only at hS); go_simp⟩) hS0 ?_
          simp only [Act.put, List.setIfInBounds_toArray, List.set_cons_zero, List.set_cons_succ]
          refine wpAnyH_take (i := 1) (oi := { dst := some 33, op := Op.unOp UnOp.not 4 (Operand.tmp 32), type := 4, pos := _, after := #[{ on := 0, ground := Ground.data }], guard := none }) (v := (.bool false)) rfl (by kernel_rfl) (by kernel_rfl) (by kernel_rfl) (fun _ _ _ h => h) (Or.inl ⟨by rfl, fun w' hS => by (try dsimp only at hS); go_simp⟩) hS0 ?_
          simp only [Act.put, List.setIfInBounds_toArray, List.set_cons_zero, List.set_cons_succ]
          refine wpAnyH_take (i := 2) (oi := { dst := some 34, op := Op.move (Operand.tmp 33), type := 4, pos := _, after := #[{ on := 1, ground := Ground.data }], guard := none }) (v := (.bool false)) rfl (by kernel_rfl) (by kernel_rfl) (by kernel_rfl) (fun _ _ _ h => h) (Or.inl ⟨by rfl, fun w' hS => by (try dsimp only at hS); go_simp⟩) hS0 ?_
          simp only [Act.put, List.setIfInBounds_toArray, List.set_cons_zero, List.set_cons_succ]
          refine wpAnyH_take (i := 3) (oi := { dst := some 35, op := Op.move (Operand.tmp 7), type := 214, pos := _, after := #[{ on := 2, ground := Ground.guard }], guard := some (2, false) }) (v := (.iface 234 (.agg #[.int .i64 (F j 2)]))) rfl (by kernel_rfl) (by kernel_rfl) (by kernel_rfl) (fun _ _ _ h => h) (Or.inl ⟨by rfl, fun w' hS => by (try dsimp only at hS); go_simp⟩) hS0 ?_
          simp only [Act.put, List.setIfInBounds_toArray, List.set_cons_zero, List.set_cons_succ]
          refine wpAnyH_take (i := 5) (oi := { dst := some 37, op := Op.load 170 (Operand.tmp 6), type := 170, pos := _, after := #[{ on := 2, ground := Ground.guard }], guard := some (2, false) }) (v := (.agg #[.int .i64 (5 : Int), .int .i64 (F j 1), .int .i64 (F j 2)])) rfl (by kernel_rfl) (by kernel_rfl) (by kernel_rfl) (fun _ _ _ h => h) (Or.inl ⟨by rfl, fun w' hS => by (try dsimp only at hS); go_simp⟩) hS0 ?_
          simp only [Act.put, List.setIfInBounds_toArray, List.set_cons_zero, List.set_cons_succ]
          refine wpAnyH_ready (rs := [4]) (by kernel_rfl) (by simp) ?_
          refine AllReadyH.cons (o := { dst := some 36, op := Op.call { callee := Callee.invoke (Operand.tmp 35) "loop.example/g00620/impl.written", args := #[], argTypes := #[] }, type := 170, pos := _, after := #[{ on := 3, ground := Ground.data }, { on := 2, ground := Ground.chain }, { on := 2, ground := Ground.guard }], guard := some (2, false) }) rfl (fun K hK => ?_) AllReadyH.nil
          have hm := method5 (F j 2)
          have ha := ahead5 (F j 2)
          go_simp
          clear hm ha
          refine (written5_any (F j 2) _).mono ?_
          rintro e w7 ⟨rfl, hb7⟩
          replace HBW : Hid (Blw w w7) := (HBW.out.trans (Blw.refl w2).drew).trans hb7
          replace HPW : Hid (Row w7 w.heap.size n (fun i => if i < j then iv (F i 0) (F i 1) (F i 2) else .nilIface)) := (HPW.out.blw (Blw.refl w2).drew).blw hb7
          have hS9 := get3 ((HBX.out.blw (Blw.refl w2).drew).blw hb7)
          clear hb7
          refine hK.out _ _ hS9 (fun hB => ?_)
          clear hK K hB
          try simp only [Act.put, List.setIfInBounds_toArray, List.set_cons_zero, List.set_cons_succ]
          refine wpAnyH_take (i := 6) (oi := { dst := some 38, op := Op.binOp BinOp.neq 170 (Operand.tmp 36) (Operand.tmp 37) 170, type := 4, pos := _, after := #[{ on := 4, ground := Ground.data }, { on := 5, ground := Ground.data }, { on := 2, ground := Ground.guard }], guard := some (2, false) }) (v := (.bool true)) rfl (by kernel_rfl) (by kernel_rfl) (by kernel_rfl) (fun _ _ _ h => h) (Or.inl ⟨by rfl, fun w' hS => by (try dsimp only at hS); go_simp⟩) hS9 ?_
          simp only [Act.put, List.setIfInBounds_toArray, List.set_cons_zero, List.set_cons_succ]
          refine wpAnyH_take (i := 7) (oi := { dst := some 39, op := Op.pick (Operand.tmp 34) (Operand.const (Value.bool true)) (Operand.tmp 38), type := 4, pos := _, after := #[{ on := 2, ground := Ground.data }, { on := 6, ground := Ground.data }], guard := none }) (v := (.bool true)) rfl (by kernel_rfl) (by kernel_rfl) (by kernel_rfl) (fun _ _ _ h => h) (Or.inl ⟨by rfl, fun w' hS => by (try dsimp only at hS); go_simp⟩) hS9 ?_
          simp only [Act.put, List.setIfInBounds_toArray, List.set_cons_zero, List.set_cons_succ]
          refine wpAnyH_done (by kernel_rfl) ?_ _
          refine NoPanic.normal ?_
          clear hN HV
          go_wp2
          exact bodyPost_ret (v := .tuple #[.slice none 0 0, .bool false]) (by simp [results, Try.results129, go_sem]) rfl ⟨Or.inr ⟨fun g => HOK.out (g.i j HLT.out), rfl⟩, HBW.out⟩
      · have HV : Hid (iv (F j 0) (F j 1) (F j 2) = .iface 236 (.agg #[])) := by show _ = _; rw [e]; rfl
        rw [HV.out, e]
        have HE : Hid (F j 0 = 6) := e
        have HBX : Hid (Row w2 zb 3 (fun i => if i = 0 then .int .i64 (6 : Int) else if i = 1 then .int .i64 (F j 1) else .int .i64 (F j 2))) := by have h9 := HX.out; rw [e] at h9; exact h9
        clear e HX
        by_cases hB : F j 1 = 0 ∧ F j 2 = 0
        · have hN : ∀ w', (binOp .neq 170 (.agg #[.int .i64 (6 : Int), .int .i64 0, .int .i64 0]) (.agg #[.int .i64 (6 : Int), .int .i64 (F j 1), .int .i64 (F j 2)])).run Try.prog w' = .ok (.bool false) w' := fun w' => trip_eq _ _ _ _ _ hB w'
          have HOK : Hid (insOK (F j 0) (F j 1) (F j 2)) := (insOK_iff _ _ _).2 ⟨HFT.out, by rw [HE.out]; (try rw [hB.1]); simp [wa], by rw [HE.out]; (try rw [hB.2]); simp [wx]⟩
          clear hB
          go_upto_region 8 with fail
          have hS0 := get3 (HBX.out.blw (Blw.refl w2).drew)
          refine wp_region_noPanic ?_
          refine wp_region_held_drew (S := fun w' => w'.cell? ⟨zb, 0, none⟩ = some (.int .i64 (6 : Int)) ∧ w'.cell? ⟨zb, 1, none⟩ = some (.int .i64 (F j 1)) ∧ w'.cell? ⟨zb, 2, none⟩ = some (.int .i64 (F j 2))) (by kernel_rfl) hS0 (fun hB => ?_)
          clear hB
          refine wpAnyH_take (i := 0) (oi := { dst := some 32, op := Op.move (Operand.tmp 8), type := 4, pos := _, after := #[], guard := none }) (v := (.bool true)) rfl (by kernel_rfl) (by kernel_rfl) (by kernel_rfl) (fun _ _ _ h => h) (Or.inl ⟨by rfl, fun w' hS => by (try dsimp only at hS); go_simp⟩) hS0 ?_
          simp only [Act.put, List.setIfInBounds_toArray, List.set_cons_zero, List.set_cons_succ]
          refine wpAnyH_take (i := 1) (oi := { dst := some 33, op := Op.unOp UnOp.not 4 (Operand.tmp 32), type := 4, pos := _, after := #[{ on := 0, ground := Ground.data }], guard := none }) (v := (.bool false)) rfl (by kernel_rfl) (by kernel_rfl) (by kernel_rfl) (fun _ _ _ h => h) (Or.inl ⟨by rfl, fun w' hS => by (try dsimp only at hS); go_simp⟩) hS0 ?_
          simp only [Act.put, List.setIfInBounds_toArray, List.set_cons_zero, List.set_cons_succ]
          refine wpAnyH_take (i := 2) (oi := { dst := some 34, op := Op.move (Operand.tmp 33), type := 4, pos := _, after := #[{ on := 1, ground := Ground.data }], guard := none }) (v := (.bool false)) rfl (by kernel_rfl) (by kernel_rfl) (by kernel_rfl) (fun _ _ _ h => h) (Or.inl ⟨by rfl, fun w' hS => by (try dsimp only at hS); go_simp⟩) hS0 ?_
          simp only [Act.put, List.setIfInBounds_toArray, List.set_cons_zero, List.set_cons_succ]
          refine wpAnyH_take (i := 3) (oi := { dst := some 35, op := Op.move (Operand.tmp 7), type := 214, pos := _, after := #[{ on := 2, ground := Ground.guard }], guard := some (2, false) }) (v := (.iface 236 (.agg #[]))) rfl (by kernel_rfl) (by kernel_rfl) (by kernel_rfl) (fun _ _ _ h => h) (Or.inl ⟨by rfl, fun w' hS => by (try dsimp only at hS); go_simp⟩) hS0 ?_
          simp only [Act.put, List.setIfInBounds_toArray, List.set_cons_zero, List.set_cons_succ]
          refine wpAnyH_take (i := 5) (oi := { dst := some 37, op := Op.load 170 (Operand.tmp 6), type := 170, pos := _, after := #[{ on := 2, ground := Ground.guard }], guard := some (2, false) }) (v := (.agg #[.int .i64 (6 : Int), .int .i64 (F j 1), .int .i64 (F j 2)])) rfl (by kernel_rfl) (by kernel_rfl) (by kernel_rfl) (fun _ _ _ h => h) (Or.inl ⟨by rfl, fun w' hS => by (try dsimp only at hS); go_simp⟩) hS0 ?_
          simp only [Act.put, List.setIfInBounds_toArray, List.set_cons_zero, List.set_cons_succ]
          refine wpAnyH_ready (rs := [4]) (by kernel_rfl) (by simp) ?_
          refine AllReadyH.cons (o := { dst := some 36, op := Op.call { callee := Callee.invoke (Operand.tmp 35) "loop.example/g00620/impl.written", args := #[], argTypes := #[] }, type := 170, pos := _, after := #[{ on := 3, ground := Ground.data }, { on := 2, ground := Ground.chain }, { on := 2, ground := Ground.guard }], guard := some (2, false) }) rfl (fun K hK => ?_) AllReadyH.nil
          have hm := method6
          have ha := ahead6
          go_simp
          clear hm ha
          refine (written6_any _).mono ?_
          rintro e w7 ⟨rfl, hb7⟩
          replace HBW : Hid (Blw w w7) := (HBW.out.trans (Blw.refl w2).drew).trans hb7
          replace HPW : Hid (Row w7 w.heap.size n (fun i => if i < j then iv (F i 0) (F i 1) (F i 2) else .nilIface)) := (HPW.out.blw (Blw.refl w2).drew).blw hb7
          have hS9 := get3 ((HBX.out.blw (Blw.refl w2).drew).blw hb7)
          clear hb7
          refine hK.out _ _ hS9 (fun hB => ?_)
          clear hK K hB
          try simp only [Act.put, List.setIfInBounds_toArray, List.set_cons_zero, List.set_cons_succ]
          refine wpAnyH_take (i := 6) (oi := { dst := some 38, op := Op.binOp BinOp.neq 170 (Operand.tmp 36) (Operand.tmp 37) 170, type := 4, pos := _, after := #[{ on := 4, ground := Ground.data }, { on := 5, ground := Ground.data }, { on := 2, ground := Ground.guard }], guard := some (2, false) }) (v := (.bool false)) rfl (by kernel_rfl) (by kernel_rfl) (by kernel_rfl) (fun _ _ _ h => h) (Or.inl ⟨by rfl, fun w' hS => by (try dsimp only at hS); go_simp⟩) hS9 ?_
          simp only [Act.put, List.setIfInBounds_toArray, List.set_cons_zero, List.set_cons_succ]
          refine wpAnyH_take (i := 7) (oi := { dst := some 39, op := Op.pick (Operand.tmp 34) (Operand.const (Value.bool true)) (Operand.tmp 38), type := 4, pos := _, after := #[{ on := 2, ground := Ground.data }, { on := 6, ground := Ground.data }], guard := none }) (v := (.bool false)) rfl (by kernel_rfl) (by kernel_rfl) (by kernel_rfl) (fun _ _ _ h => h) (Or.inl ⟨by rfl, fun w' hS => by (try dsimp only at hS); go_simp⟩) hS9 ?_
          simp only [Act.put, List.setIfInBounds_toArray, List.set_cons_zero, List.set_cons_succ]
          refine wpAnyH_done (by kernel_rfl) ?_ _
          refine NoPanic.normal ?_
          clear hN
          have HSTP : Hid _ := pc_step HV.out HBW.out HPW.out
          have HON : Hid (∀ t, t < j + 1 → insOK (F t 0) (F t 1) (F t 2)) := fun t ht => by
            by_cases e : t = j
            · rw [e]; exact HOK.out
            · exact HO.out t (by omega)
          obtain ⟨vv, gv⟩ : ∃ v, w7.cell? ⟨w.heap.size, j, none⟩ = some v := ⟨_, HPW.out.cell HLT.out⟩
          have fq := HPW.out.frozen j
          clear HO HOK HV HPW HBW HBX HE HFT
          go_wp2
          go_roundw
          case rel => exact ⟨j + 1, by omega, by go_num, HON.out, HSTP.out.1, HSTP.out.2⟩
          case measure => simp [intOf]; omega
        · have hN : ∀ w', (binOp .neq 170 (.agg #[.int .i64 (6 : Int), .int .i64 0, .int .i64 0]) (.agg #[.int .i64 (6 : Int), .int .i64 (F j 1), .int .i64 (F j 2)])).run Try.prog w' = .ok (.bool true) w' := fun w' => trip_ne _ _ _ _ _ hB w'
          have HOK : Hid (¬ insOK (F j 0) (F j 1) (F j 2)) := fun g => by
            have h1 := (insOK_iff _ _ _).1 g
            have h2 := h1.2.1
            have h3 := h1.2.2
            rw [HE.out] at h2 h3
            simp [wa] at h2
            simp [wx] at h3
            exact hB (by constructor <;> omega)
          clear hB
          go_upto_region 8 with fail
          have hS0 := get3 (HBX.out.blw (Blw.refl w2).drew)
          refine wp_region_noPanic ?_
          refine wp_region_held_drew (S := fun w' => w'.cell? ⟨zb, 0, none⟩ = some (.int .i64 (6 : Int)) ∧ w'.cell? ⟨zb, 1, none⟩ = some (.int .i64 (F j 1)) ∧ w'.cell? ⟨zb, 2, none⟩ = some (.int .i64 (F j 2))) (by kernel_rfl) hS0 (fun hB => ?_)
          clear hB
          refine wpAnyH_take (i := 0) (oi := { dst := some 32, op := Op.move (Operand.tmp 8), type := 4, pos := _, after := #[], guard := none }) (v := (.bool true)) rfl (by kernel_rfl) (by kernel_rfl) (by kernel_rfl) (fun _ _ _ h => h) (Or.inl ⟨by rfl, fun w' hS => by (try dsimp only at hS); go_simp⟩) hS0 ?_
          simp only [Act.put, List.setIfInBounds_toArray, List.set_cons_zero, List.set_cons_succ]
          refine wpAnyH_take (i := 1) (oi := { dst := some 33, op := Op.unOp UnOp.not 4 (Operand.tmp 32), type := 4, pos := _, after := #[{ on := 0, ground := Ground.data }], guard := none }) (v := (.bool false)) rfl (by kernel_rfl) (by kernel_rfl) (by kernel_rfl) (fun _ _ _ h => h) (Or.inl ⟨by rfl, fun w' hS => by (try dsimp only at hS); go_simp⟩) hS0 ?_
          simp only [Act.put, List.setIfInBounds_toArray, List.set_cons_zero, List.set_cons_succ]
          refine wpAnyH_take (i := 2) (oi := { dst := some 34, op := Op.move (Operand.tmp 33), type := 4, pos := _, after := #[{ on := 1, ground := Ground.data }], guard := none }) (v := (.bool false)) rfl (by kernel_rfl) (by kernel_rfl) (by kernel_rfl) (fun _ _ _ h => h) (Or.inl ⟨by rfl, fun w' hS => by (try dsimp only at hS); go_simp⟩) hS0 ?_
          simp only [Act.put, List.setIfInBounds_toArray, List.set_cons_zero, List.set_cons_succ]
          refine wpAnyH_take (i := 3) (oi := { dst := some 35, op := Op.move (Operand.tmp 7), type := 214, pos := _, after := #[{ on := 2, ground := Ground.guard }], guard := some (2, false) }) (v := (.iface 236 (.agg #[]))) rfl (by kernel_rfl) (by kernel_rfl) (by kernel_rfl) (fun _ _ _ h => h) (Or.inl ⟨by rfl, fun w' hS => by (try dsimp only at hS); go_simp⟩) hS0 ?_
          simp only [Act.put, List.setIfInBounds_toArray, List.set_cons_zero, List.set_cons_succ]
          refine wpAnyH_take (i := 5) (oi := { dst := some 37, op := Op.load 170 (Operand.tmp 6), type := 170, pos := _, after := #[{ on := 2, ground := Ground.guard }], guard := some (2, false) }) (v := (.agg #[.int .i64 (6 : Int), .int .i64 (F j 1), .int .i64 (F j 2)])) rfl (by kernel_rfl) (by kernel_rfl) (by kernel_rfl) (fun _ _ _ h => h) (Or.inl ⟨by rfl, fun w' hS => by (try dsimp only at hS); go_simp⟩) hS0 ?_
          simp only [Act.put, List.setIfInBounds_toArray, List.set_cons_zero, List.set_cons_succ]
          refine wpAnyH_ready (rs := [4]) (by kernel_rfl) (by simp) ?_
          refine AllReadyH.cons (o := { dst := some 36, op := Op.call { callee := Callee.invoke (Operand.tmp 35) "loop.example/g00620/impl.written", args := #[], argTypes := #[] }, type := 170, pos := _, after := #[{ on := 3, ground := Ground.data }, { on := 2, ground := Ground.chain }, { on := 2, ground := Ground.guard }], guard := some (2, false) }) rfl (fun K hK => ?_) AllReadyH.nil
          have hm := method6
          have ha := ahead6
          go_simp
          clear hm ha
          refine (written6_any _).mono ?_
          rintro e w7 ⟨rfl, hb7⟩
          replace HBW : Hid (Blw w w7) := (HBW.out.trans (Blw.refl w2).drew).trans hb7
          replace HPW : Hid (Row w7 w.heap.size n (fun i => if i < j then iv (F i 0) (F i 1) (F i 2) else .nilIface)) := (HPW.out.blw (Blw.refl w2).drew).blw hb7
          have hS9 := get3 ((HBX.out.blw (Blw.refl w2).drew).blw hb7)
          clear hb7
          refine hK.out _ _ hS9 (fun hB => ?_)
          clear hK K hB
          try simp only [Act.put, List.setIfInBounds_toArray, List.set_cons_zero, List.set_cons_succ]
          refine wpAnyH_take (i := 6) (oi := { dst := some 38, op := Op.binOp BinOp.neq 170 (Operand.tmp 36) (Operand.tmp 37) 170, type := 4, pos := _, after := #[{ on := 4, ground := Ground.data }, { on := 5, ground := Ground.data }, { on := 2, ground := Ground.guard }], guard := some (2, false) }) (v := (.bool true)) rfl (by kernel_rfl) (by kernel_rfl) (by kernel_rfl) (fun _ _ _ h => h) (Or.inl ⟨by rfl, fun w' hS => by (try dsimp only at hS); go_simp⟩) hS9 ?_
          simp only [Act.put, List.setIfInBounds_toArray, List.set_cons_zero, List.set_cons_succ]
          refine wpAnyH_take (i := 7) (oi := { dst := some 39, op := Op.pick (Operand.tmp 34) (Operand.const (Value.bool true)) (Operand.tmp 38), type := 4, pos := _, after := #[{ on := 2, ground := Ground.data }, { on := 6, ground := Ground.data }], guard := none }) (v := (.bool true)) rfl (by kernel_rfl) (by kernel_rfl) (by kernel_rfl) (fun _ _ _ h => h) (Or.inl ⟨by rfl, fun w' hS => by (try dsimp only at hS); go_simp⟩) hS9 ?_
          simp only [Act.put, List.setIfInBounds_toArray, List.set_cons_zero, List.set_cons_succ]
          refine wpAnyH_done (by kernel_rfl) ?_ _
          refine NoPanic.normal ?_
          clear hN HV
          go_wp2
          exact bodyPost_ret (v := .tuple #[.slice none 0 0, .bool false]) (by simp [results, Try.results129, go_sem]) rfl ⟨Or.inr ⟨fun g => HOK.out (g.i j HLT.out), rfl⟩, HBW.out⟩
      · have HV : Hid (iv (F j 0) (F j 1) (F j 2) = .iface 237 (.agg #[])) := by show _ = _; rw [e]; rfl
        rw [HV.out, e]
        have HE : Hid (F j 0 = 7) := e
        have HBX : Hid (Row w2 zb 3 (fun i => if i = 0 then .int .i64 (7 : Int) else if i = 1 then .int .i64 (F j 1) else .int .i64 (F j 2))) := by have h9 := HX.out; rw [e] at h9; exact h9
        clear e HX
        by_cases hB : F j 1 = 0 ∧ F j 2 = 0
        · have hN : ∀ w', (binOp .neq 170 (.agg #[.int .i64 (7 : Int), .int .i64 0, .int .i64 0]) (.agg #[.int .i64 (7 : Int), .int .i64 (F j 1), .int .i64 (F j 2)])).run Try.prog w' = .ok (.bool false) w' := fun w' => trip_eq _ _ _ _ _ hB w'
          have HOK : Hid (insOK (F j 0) (F j 1) (F j 2)) := (insOK_iff _ _ _).2 ⟨HFT.out, by rw [HE.out]; (try rw [hB.1]); simp [wa], by rw [HE.out]; (try rw [hB.2]); simp [wx]⟩
          clear hB
          go_upto_region 8 with fail
          have hS0 := get3 (HBX.out.blw (Blw.refl w2).drew)
          refine wp_region_noPanic ?_
          refine wp_region_held_drew (S := fun w' => w'.cell? ⟨zb, 0, none⟩ = some (.int .i64 (7 : Int)) ∧ w'.cell? ⟨zb, 1, none⟩ = some (.int .i64 (F j 1)) ∧ w'.cell? ⟨zb, 2, none⟩ = some (.int .i64 (F j 2))) (by kernel_rfl) hS0 (fun hB => ?_)
          clear hB
          refine wpAnyH_take (i := 0) (oi := { dst := some 32, op := Op.move (Operand.tmp 8), type := 4, pos := _, after := #[], guard := none }) (v := (.bool true)) rfl (by kernel_rfl) (by kernel_rfl) (by kernel_rfl) (fun _ _ _ h => h) (Or.inl ⟨by rfl, fun w' hS => by (try dsimp only at hS); go_simp⟩) hS0 ?_
          simp only [Act.put, List.setIfInBounds_toArray, List.set_cons_zero, List.set_cons_succ]
          refine wpAnyH_take (i := 1) (oi := { dst := some 33, op := Op.unOp UnOp.not 4 (Operand.tmp 32), type := 4, pos := _, after := #[{ on := 0, ground := Ground.data }], guard := none }) (v := (.bool false)) rfl (by kernel_rfl) (by kernel_rfl) (by kernel_rfl) (fun _ _ _ h => h) (Or.inl ⟨by rfl, fun w' hS => by (try dsimp only at hS); go_simp⟩) hS0 ?_
          simp only [Act.put, List.setIfInBounds_toArray, List.set_cons_zero, List.set_cons_succ]
          refine wpAnyH_take (i := 2) (oi := { dst := some 34, op := Op.move (Operand.tmp 33), type := 4, pos := _, after := #[{ on := 1, ground := Ground.data }], guard := none }) (v := (.bool false)) rfl (by kernel_rfl) (by kernel_rfl) (by kernel_rfl) (fun _ _ _ h => h) (Or.inl ⟨by rfl, fun w' hS => by (try dsimp only at hS); go_simp⟩) hS0 ?_
          simp only [Act.put, List.setIfInBounds_toArray, List.set_cons_zero, List.set_cons_succ]
          refine wpAnyH_take (i := 3) (oi := { dst := some 35, op := Op.move (Operand.tmp 7), type := 214, pos := _, after := #[{ on := 2, ground := Ground.guard }], guard := some (2, false) }) (v := (.iface 237 (.agg #[]))) rfl (by kernel_rfl) (by kernel_rfl) (by kernel_rfl) (fun _ _ _ h => h) (Or.inl ⟨by rfl, fun w' hS => by (try dsimp only at hS); go_simp⟩) hS0 ?_
          simp only [Act.put, List.setIfInBounds_toArray, List.set_cons_zero, List.set_cons_succ]
          refine wpAnyH_take (i := 5) (oi := { dst := some 37, op := Op.load 170 (Operand.tmp 6), type := 170, pos := _, after := #[{ on := 2, ground := Ground.guard }], guard := some (2, false) }) (v := (.agg #[.int .i64 (7 : Int), .int .i64 (F j 1), .int .i64 (F j 2)])) rfl (by kernel_rfl) (by kernel_rfl) (by kernel_rfl) (fun _ _ _ h => h) (Or.inl ⟨by rfl, fun w' hS => by (try dsimp only at hS); go_simp⟩) hS0 ?_
          simp only [Act.put, List.setIfInBounds_toArray, List.set_cons_zero, List.set_cons_succ]
          refine wpAnyH_ready (rs := [4]) (by kernel_rfl) (by simp) ?_
          refine AllReadyH.cons (o := { dst := some 36, op := Op.call { callee := Callee.invoke (Operand.tmp 35) "loop.example/g00620/impl.written", args := #[], argTypes := #[] }, type := 170, pos := _, after := #[{ on := 3, ground := Ground.data }, { on := 2, ground := Ground.chain }, { on := 2, ground := Ground.guard }], guard := some (2, false) }) rfl (fun K hK => ?_) AllReadyH.nil
          have hm := method7
          have ha := ahead7
          go_simp
          clear hm ha
          refine (written7_any _).mono ?_
          rintro e w7 ⟨rfl, hb7⟩
          replace HBW : Hid (Blw w w7) := (HBW.out.trans (Blw.refl w2).drew).trans hb7
          replace HPW : Hid (Row w7 w.heap.size n (fun i => if i < j then iv (F i 0) (F i 1) (F i 2) else .nilIface)) := (HPW.out.blw (Blw.refl w2).drew).blw hb7
          have hS9 := get3 ((HBX.out.blw (Blw.refl w2).drew).blw hb7)
          clear hb7
          refine hK.out _ _ hS9 (fun hB => ?_)
          clear hK K hB
          try simp only [Act.put, List.setIfInBounds_toArray, List.set_cons_zero, List.set_cons_succ]
          refine wpAnyH_take (i := 6) (oi := { dst := some 38, op := Op.binOp BinOp.neq 170 (Operand.tmp 36) (Operand.tmp 37) 170, type := 4, pos := _, after := #[{ on := 4, ground := Ground.data }, { on := 5, ground := Ground.data }, { on := 2, ground := Ground.guard }], guard := some (2, false) }) (v := (.bool false)) rfl (by kernel_rfl) (by kernel_rfl) (by kernel_rfl) (fun _ _ _ h => h) (Or.inl ⟨by rfl, fun w' hS => by (try dsimp only at hS); go_simp⟩) hS9 ?_
          simp only [Act.put, List.setIfInBounds_toArray, List.set_cons_zero, List.set_cons_succ]
          refine wpAnyH_take (i := 7) (oi := { dst := some 39, op := Op.pick (Operand.tmp 34) (Operand.const (Value.bool true)) (Operand.tmp 38), type := 4, pos := _, after := #[{ on := 2, ground := Ground.data }, { on := 6, ground := Ground.data }], guard := none }) (v := (.bool false)) rfl (by kernel_rfl) (by kernel_rfl) (by kernel_rfl) (fun _ _ _ h => h) (Or.inl ⟨by rfl, fun w' hS => by (try dsimp only at hS); go_simp⟩) hS9 ?_
          simp only [Act.put, List.setIfInBounds_toArray, List.set_cons_zero, List.set_cons_succ]
          refine wpAnyH_done (by kernel_rfl) ?_ _
          refine NoPanic.normal ?_
          clear hN
          have HSTP : Hid _ := pc_step HV.out HBW.out HPW.out
          have HON : Hid (∀ t, t < j + 1 → insOK (F t 0) (F t 1) (F t 2)) := fun t ht => by
            by_cases e : t = j
            · rw [e]; exact HOK.out
            · exact HO.out t (by omega)
          obtain ⟨vv, gv⟩ : ∃ v, w7.cell? ⟨w.heap.size, j, none⟩ = some v := ⟨_, HPW.out.cell HLT.out⟩
          have fq := HPW.out.frozen j
          clear HO HOK HV HPW HBW HBX HE HFT
          go_wp2
          go_roundw
          case rel => exact ⟨j + 1, by omega, by go_num, HON.out, HSTP.out.1, HSTP.out.2⟩
          case measure => simp [intOf]; omega
        · have hN : ∀ w', (binOp .neq 170 (.agg #[.int .i64 (7 : Int), .int .i64 0, .int .i64 0]) (.agg #[.int .i64 (7 : Int), .int .i64 (F j 1), .int .i64 (F j 2)])).run Try.prog w' = .ok (.bool true) w' := fun w' => trip_ne _ _ _ _ _ hB w'
          have HOK : Hid (¬ insOK (F j 0) (F j 1) (F j 2)) := fun g => by
            have h1 := (insOK_iff _ _ _).1 g
            have h2 := h1.2.1
            have h3 := h1.2.2
            rw [HE.out] at h2 h3
            simp [wa] at h2
            simp [wx] at h3
            exact hB (by constructor <;> omega)
          clear hB
          go_upto_region 8 with fail
          have hS0 := get3 (HBX.out.blw (Blw.refl w2).drew)
          refine wp_region_noPanic ?_
          refine wp_region_held_drew (S := fun w' => w'.cell? ⟨zb, 0, none⟩ = some (.int .i64 (7 : Int)) ∧ w'.cell? ⟨zb, 1, none⟩ = some (.int .i64 (F j 1)) ∧ w'.cell? ⟨zb, 2, none⟩ = some (.int .i64 (F j 2))) (by kernel_rfl) hS0 (fun hB => ?_)
          clear hB
          refine wpAnyH_take (i := 0) (oi := { dst := some 32, op := Op.move (Operand.tmp 8), type := 4, pos := _, after := #[], guard := none }) (v := (.bool true)) rfl (by kernel_rfl) (by kernel_rfl) (by kernel_rfl) (fun _ _ _ h => h) (Or.inl ⟨by rfl, fun w' hS => by (try dsimp only at hS); go_simp⟩) hS0 ?_
          simp only [Act.put, List.setIfInBounds_toArray, List.set_cons_zero, List.set_cons_succ]
          refine wpAnyH_take (i := 1) (oi := { dst := some 33, op := Op.unOp UnOp.not 4 (Operand.tmp 32), type := 4, pos := _, after := #[{ on := 0, ground := Ground.data }], guard := none }) (v := (.bool false)) rfl (by kernel_rfl) (by kernel_rfl) (by kernel_rfl) (fun _ _ _ h => h) (Or.inl ⟨by rfl, fun w' hS => by (try dsimp only at hS); go_simp⟩) hS0 ?_
          simp only [Act.put, List.setIfInBounds_toArray, List.set_cons_zero, List.set_cons_succ]
          refine wpAnyH_take (i := 2) (oi := { dst := some 34, op := Op.move (Operand.tmp 33), type := 4, pos := _, after := #[{ on := 1, ground := Ground.data }], guard := none }) (v := (.bool false)) rfl (by kernel_rfl) (by kernel_rfl) (by kernel_rfl) (fun _ _ _ h => h) (Or.inl ⟨by rfl, fun w' hS => by (try dsimp only at hS); go_simp⟩) hS0 ?_
          simp only [Act.put, List.setIfInBounds_toArray, List.set_cons_zero, List.set_cons_succ]
          refine wpAnyH_take (i := 3) (oi := { dst := some 35, op := Op.move (Operand.tmp 7), type := 214, pos := _, after := #[{ on := 2, ground := Ground.guard }], guard := some (2, false) }) (v := (.iface 237 (.agg #[]))) rfl (by kernel_rfl) (by kernel_rfl) (by kernel_rfl) (fun _ _ _ h => h) (Or.inl ⟨by rfl, fun w' hS => by (try dsimp only at hS); go_simp⟩) hS0 ?_
          simp only [Act.put, List.setIfInBounds_toArray, List.set_cons_zero, List.set_cons_succ]
          refine wpAnyH_take (i := 5) (oi := { dst := some 37, op := Op.load 170 (Operand.tmp 6), type := 170, pos := _, after := #[{ on := 2, ground := Ground.guard }], guard := some (2, false) }) (v := (.agg #[.int .i64 (7 : Int), .int .i64 (F j 1), .int .i64 (F j 2)])) rfl (by kernel_rfl) (by kernel_rfl) (by kernel_rfl) (fun _ _ _ h => h) (Or.inl ⟨by rfl, fun w' hS => by (try dsimp only at hS); go_simp⟩) hS0 ?_
          simp only [Act.put, List.setIfInBounds_toArray, List.set_cons_zero, List.set_cons_succ]
          refine wpAnyH_ready (rs := [4]) (by kernel_rfl) (by simp) ?_
          refine AllReadyH.cons (o := { dst := some 36, op := Op.call { callee := Callee.invoke (Operand.tmp 35) "loop.example/g00620/impl.written", args := #[], argTypes := #[] }, type := 170, pos := _, after := #[{ on := 3, ground := Ground.data }, { on := 2, ground := Ground.chain }, { on := 2, ground := Ground.guard }], guard := some (2, false) }) rfl (fun K hK => ?_) AllReadyH.nil
          have hm := method7
          have ha := ahead7
          go_simp
          clear hm ha
          refine (written7_any _).mono ?_
          rintro e w7 ⟨rfl, hb7⟩
          replace HBW : Hid (Blw w w7) := (HBW.out.trans (Blw.refl w2).drew).trans hb7
          replace HPW : Hid (Row w7 w.heap.size n (fun i => if i < j then iv (F i 0) (F i 1) (F i 2) else .nilIface)) := (HPW.out.blw (Blw.refl w2).drew).blw hb7
          have hS9 := get3 ((HBX.out.blw (Blw.refl w2).drew).blw hb7)
          clear hb7
          refine hK.out _ _ hS9 (fun hB => ?_)
          clear hK K hB
          try simp only [Act.put, List.setIfInBounds_toArray, List.set_cons_zero, List.set_cons_succ]
          refine wpAnyH_take (i := 6) (oi := { dst := some 38, op := Op.binOp BinOp.neq 170 (Operand.tmp 36) (Operand.tmp 37) 170, type := 4, pos := _, after := #[{ on := 4, ground := Ground.data }, { on := 5, ground := Ground.data }, { on := 2, ground := Ground.guard }], guard := some (2, false) }) (v := (.bool true)) rfl (by kernel_rfl) (by kernel_rfl) (by kernel_rfl) (fun _ _ _ h => h) (Or.inl ⟨by rfl, fun w' hS => by (try dsimp only at hS); go_simp⟩) hS9 ?_
          simp only [Act.put, List.setIfInBounds_toArray, List.set_cons_zero, List.set_cons_succ]
          refine wpAnyH_take (i := 7) (oi := { dst := some 39, op := Op.pick (Operand.tmp 34) (Operand.const (Value.bool true)) (Operand.tmp 38), type := 4, pos := _, after := #[{ on := 2, ground := Ground.data }, { on := 6, ground := Ground.data }], guard := none }) (v := (.bool true)) rfl (by kernel_rfl) (by kernel_rfl) (by kernel_rfl) (fun _ _ _ h => h) (Or.inl ⟨by rfl, fun w' hS => by (try dsimp only at hS); go_simp⟩) hS9 ?_
          simp only [Act.put, List.setIfInBounds_toArray, List.set_cons_zero, List.set_cons_succ]
          refine wpAnyH_done (by kernel_rfl) ?_ _
          refine NoPanic.normal ?_
          clear hN HV
          go_wp2
          exact bodyPost_ret (v := .tuple #[.slice none 0 0, .bool false]) (by simp [results, Try.results129, go_sem]) rfl ⟨Or.inr ⟨fun g => HOK.out (g.i j HLT.out), rfl⟩, HBW.out⟩
    · obtain rfl : j = n := by omega
      have HG : Hid (progOK j F) := ⟨by omega, by omega, HO.out⟩
      have HRN : Hid (Row wr w.heap.size j (fun i => iv (F i 0) (F i 1) (F i 2))) := HPW.out.congr (fun i hi => by simp [hi])
      clear HPW HO
      go_wp2
      exact bodyPost_ret (v := .tuple #[.slice (some ⟨w.heap.size, 0, none⟩) j j, .bool true]) (by simp [results, Try.results129, go_sem]) rfl ⟨Or.inl ⟨_, HG.out, rfl, HRN.out, Nat.le_refl _⟩, HBW.out⟩
end Go.Proofs.Ytbpdopcdhnemfaa
/- Great values: laid, read, stored as wholes. -/
namespace Go.Proofs.Ytbpdopcdhnemfaa
open Go.RowKit
set_option linter.unusedSimpArgs false
set_option linter.unusedVariables false
/-- What told is behind the many that count is 0. -/
def tz (g : GD) (i : Nat) : Int := if i < g.nt then g.t i else 0
/-- A held guest's cells. -/
def hcf (at_ acc : Int) (c t : Nat → Int) (many : Int) (d : Bool) : Nat → Value := fun i => if i = 0 then .int .i64 at_ else if i = 1 then .int .i64 acc else if i < 10 then .int .i64 (c (i - 2)) else if i < 30 then .int .i64 (t (i - 10)) else if i = 30 then .int .i64 many else .bool d
def hc (g : GD) : Nat → Value := hcf g.at_ g.acc g.c (tz g) g.nt g.d
def hz : Nat → Value := hcf 0 0 (fun _ => 0) (fun _ => 0) 0 false
def mcf (p : Value) (h : Nat → Value) (st : Nat → Bool) : Nat → Value := fun i => if i = 0 then p else if i < 33 then h (i - 1) else .bool (st (i - 33))
def mc (p : Value) (g : GD) (st : Nat → Bool) : Nat → Value := mcf p (hc g) st
def lst (n : Nat) (f : Nat → Value) : List Value := (List.range n).map f
theorem lst_len (n : Nat) (f : Nat → Value) : (lst n f).length = n := by simp [lst]
theorem lst_get {n : Nat} {f : Nat → Value} {i : Nat} (h : i < n) : (lst n f)[i]? = some (f i) := by simp [lst, h]
theorem lst_one {n : Nat} {f : Nat → Value} (h : ∀ i, i < n → (f i).oneCell' = true) : (lst n f).toArray.all (·.oneCell') = true := all_oneCell_toArray (by
  intro v hv
  obtain ⟨i, hi, rfl⟩ := List.mem_map.1 hv
  exact h i (List.mem_range.1 hi))
theorem hcf_one (at_ acc : Int) (c t : Nat → Int) (many : Int) (d : Bool) (i : Nat) : (hcf at_ acc c t many d i).oneCell' = true := by
  unfold hcf
  repeat' split
  all_goals rfl
theorem hc_one (g : GD) (i : Nat) : (hc g i).oneCell' = true := hcf_one _ _ _ _ _ _ i
theorem mc_one {p : Value} (hp : p.oneCell' = true) (g : GD) (st : Nat → Bool) (i : Nat) : (mc p g st i).oneCell' = true := by
  unfold mc mcf
  split
  · exact hp
  · split
    · exact hc_one _ _
    · rfl
/-- A type of n cells, that is read and stored as a whole. -/
structure Wd (T : TypeId) (n : Nat) : Prop where
  ex : ∃ d, Try.prog.underlying T = some d ∧ d.isRow = true
  size : (Try.prog.info? T).map (·.size) = some n
/-- Cells at a place of a block. -/
def Cells (w : World) (b o n : Nat) (f : Nat → Value) : Prop := ∀ i, i < n → w.cell? ⟨b, o + i, none⟩ = some (f i) ∧ w.frozen? ⟨b, o + i, none⟩ = false
theorem Row.cells {w : World} {b n : Nat} {f : Nat → Value} (h : Row w b n f) : Cells w b 0 n f := fun i hi => by rw [Nat.zero_add]; exact ⟨h.cell hi, h.frozen i⟩
theorem Row.cellsAt {w : World} {b n : Nat} {f g : Nat → Value} (h : Row w b n f) (o m : Nat) (hm : o + m ≤ n) (he : ∀ i, i < m → f (o + i) = g i) : Cells w b o m g := fun i hi => ⟨by rw [h.cell (by omega), he i hi], h.frozen _⟩
theorem Cells.blw {w w' : World} {b o n : Nat} {f : Nat → Value} (h : Cells w b o n f) (hb : Blw w w') : Cells w' b o n f := fun i hi => ⟨hb.cell (h i hi).1, by rw [hb.frozen (p := ⟨b, o + i, none⟩) (World.block_lt_of_cell? _ _ (h i hi).1)]; exact (h i hi).2⟩
theorem Cells.range {w : World} {b o n : Nat} {f : Nat → Value} (h : Cells w b o n f) : w.rangeAt b o (lst n f) := fun j v hv => by
  have hj : j < n := by have := (List.getElem?_eq_some_iff.1 hv).1; rwa [lst_len] at this
  rw [lst_get hj] at hv
  cases hv
  exact (h j hj).1
theorem load_big {ops : Array Oper} {rest : List Oper} {o : Oper} {a : Act} {w : World} {Q : Exit → Act → World → Prop} (hg : o.guard = none) (T : TypeId) (x : Operand) (ho : o.op = .load T x) (b off n : Nat) (hx : a.eval x = .pointer (some ⟨b, off, none⟩)) (f : Nat → Value) (hT : Wd T n) (hc : Cells w b off n f)
    (h : wpList Try.prog ops Q rest (a.put o.dst (.agg (lst n f).toArray)) w) : wpList Try.prog ops Q (o :: rest) a w := by
  obtain ⟨d, hu, hd⟩ := hT.ex
  exact wpList_load_mid hg T x ho b off hx (lst n f) d hc.range hu hd (by rw [lst_len]; exact hT.size) h
theorem run_load_big {w : World} {T : TypeId} {b off n : Nat} {f : Nat → Value} (hT : Wd T n) (hc : Cells w b off n f) : (loadVar T ⟨b, off, none⟩).run Try.prog w = .ok (.agg (lst n f).toArray) w := by
  obtain ⟨d, hu, hd⟩ := hT.ex
  exact run_loadVar_mid w b off T (lst n f) d hc.range hu hd (by rw [lst_len]; exact hT.size)
/-- Many cells of a block are set. -/
theorem setCells_row {w : World} {b n : Nat} {f g : Nat → Value} (h : Row w b n g) : Row (w.setCells b 0 (lst n f)) b n f ∧ Mod (fun x => x = b) w (w.setCells b 0 (lst n f)) ∧ (w.setCells b 0 (lst n f)).heap.size = w.heap.size := by
  suffices H : ∀ (m k : Nat) (w : World) (g : Nat → Value), k + m = n → Row w b n g → Row (w.setCells b k ((List.range' k m).map f)) b n (fun i => if k ≤ i then f i else g i) ∧ Mod (fun x => x = b) w (w.setCells b k ((List.range' k m).map f)) ∧ (w.setCells b k ((List.range' k m).map f)).heap.size = w.heap.size by
    have := H n 0 w g (by omega) h
    rw [← List.range_eq_range'] at this
    exact ⟨this.1.congr (fun i hi => by simp), this.2⟩
  intro m
  induction m with
  | zero =>
    intro k w g hk h
    refine ⟨h.congr (fun i hi => by rw [if_neg (by omega)]), Mod.refl _ _, rfl⟩
  | succ m ih =>
    intro k w g hk h
    have hm : Mod (fun x => x = b) w (w.setCell ⟨b, k, none⟩ (f k)) := Mod.setCell (X := fun x => x = b) _ (p := ⟨b, k, none⟩) rfl _
    obtain ⟨h1, h2, h3⟩ := ih (k + 1) (w.setCell ⟨b, k, none⟩ (f k)) _ (by omega) (h.set k (f k))
    rw [List.range'_succ, List.map_cons, World.setCells]
    refine ⟨h1.congr (fun i hi => ?_), hm.trans h2, h3.trans (by simp [World.setCell])⟩
    by_cases e : k + 1 ≤ i
    · rw [if_pos e, if_pos (by omega)]
    · by_cases e2 : i = k
      · subst e2; simp
      · rw [if_neg e, if_neg e2, if_neg (by omega)]
theorem there_of {w : World} {b n : Nat} {g : Nat → Value} (h : Row w b n g) : w.there b 0 n := fun j hj => by rw [Nat.zero_add, h.cell hj]; exact ⟨rfl, h.frozen j⟩
theorem store_big {ops : Array Oper} {rest : List Oper} {o : Oper} {a : Act} {w : World} {Q : Exit → Act → World → Prop} (hgd : o.guard = none) (T : TypeId) (x y : Operand) (ho : o.op = .store T x y) (b n : Nat) (f g : Nat → Value)
    (hx : a.eval x = .pointer (some ⟨b, 0, none⟩)) (hy : a.eval y = .agg (lst n f).toArray) (hT : Wd T n) (hr : Row w b n g) (h1 : ∀ i, i < n → (f i).oneCell' = true)
    (h : ∀ w', Row w' b n f → Mod (fun x => x = b) w w' → w'.heap.size = w.heap.size → wpList Try.prog ops Q rest (a.put o.dst undef) w') : wpList Try.prog ops Q (o :: rest) a w := by
  have hs : (lst n f).toArray.size = n := by simp [lst]
  refine wpList_store_mid hgd T x y ho b 0 (lst n f).toArray hx hy (by rw [hs]; exact there_of hr) (by rw [hs]; exact hT.size) (lst_one h1) ?_
  obtain ⟨k1, k2, k3⟩ := setCells_row (f := f) hr
  exact h _ k1 k2 k3
theorem alloc_big {ops : Array Oper} {rest : List Oper} {o : Oper} {a : Act} {w : World} {Q : Exit → Act → World → Prop} (hgd : o.guard = none) (T : TypeId) (ho : o.op = .alloc T) (n : Nat) (z : Nat → Value) (hz : ((Try.prog.info? T).bind (·.zero)).map Value.cells = some (lst n z).toArray)
    (h : ∀ w', Row w' w.heap.size n z → Blw w w' → w'.heap.size = w.heap.size + 1 → wpList Try.prog ops Q rest (a.put o.dst (.pointer (some ⟨w.heap.size, 0, none⟩))) w') : wpList Try.prog ops Q (o :: rest) a w := by
  refine wpList_plain hgd fun K hK => ?_
  have hrun : (Instr.alloc T true (.tuple #[])).run Try.prog w = .ok (.pointer (some ⟨w.heap.size, 0, none⟩)) (w.alloc (.cells (lst n z).toArray T)) := by
    cases hq : Try.prog.info? T with
    | none => simp [hq] at hz
    | some i =>
      cases hq2 : i.zero with
      | none => simp [hq, hq2] at hz
      | some v =>
        simp [hq, hq2] at hz
        simp [Instr.alloc, zeroValue, typeInfo, newVar, hq, hq2, go_sem]
        rw [← hz]
        rfl
  unfold Oper.wp execOp
  simp only [ho, Sem.run_bind, hrun, Result.andThen_ok]
  refine hK _ _ (h _ ?_ ((Blw.refl _).alloc _) (by simp))
  exact ⟨_, T, heap_alloc_new _ _, by simp [lst], fun i hi => by simp [lst, hi]⟩
/-- copy as one step, its run said by the caller. -/
theorem step_copy_run {ops : Array Oper} {o : Oper} {a : Act} {w : World} {K : Act → World → Prop} {Q : Exit → Act → World → Prop} {E : Prop} (hgd : o.guard = none) (d s : Operand) (dT sT : TypeId)
    (ho : o.op = .call { callee := .builtin .copy, args := #[d, s], argTypes := #[dT, sT] }) (vd vs : Value) (hd : a.eval d = vd) (hs : a.eval s = vs) (m : Nat) (w' : World)
    (hrun : (Builtin.copy_ #[dT, sT] o.type #[vd, vs]).run Try.prog w = .ok (goInt m) w') (h : K (a.put o.dst (goInt m)) w') :
    if Region.wanted o (yielded ops a.tmps) = true then Oper.wp Try.prog o a w K Q else E := by
  have hw : Region.wanted o (yielded ops a.tmps) = true := by simp [Region.wanted, hgd]
  rw [if_pos hw]
  unfold Oper.wp
  simp [execOp, ho, resolve, invoke, builtin, hd, hs, hrun, Result.andThen]
  exact h
theorem copy_nil (b o dl dc c : Nat) (w : World) : (Builtin.copy_ #[26, 26] 3 #[.slice (some ⟨b, o, none⟩) dl dc, .slice none 0 c]).run Try.prog w = .ok (goInt 0) w := by
  simp [Builtin.copy_, go_sem]
theorem tinfoI : (Try.prog.info? 3).map (·.size) = some 1 := by kernel_rfl
/-- copy of numbers that are read into a row. -/
theorem copy_ints {Y : Nat → Prop} {w : World} {ao : Option Addr} {n c b off dc N : Nat} {f : Nat → Int} {g : Nat → Value} (dl : Nat) (h : IntsAt Y w ao n f) (hn : n ≤ dl) (hr : Row w b N g) (hfit : off + dl ≤ N) (hao : ao = none → n = 0) :
    ∃ w', (Builtin.copy_ #[26, 26] 3 #[.slice (some ⟨b, off, none⟩) dl dc, .slice ao n c]).run Try.prog w = .ok (goInt n) w' ∧ Row w' b N (fun i => if off ≤ i ∧ i < off + n then .int .i64 (f (i - off)) else g i) ∧ Mod (fun x => x = b) w w' ∧ w'.heap.size = w.heap.size := by
  cases ao with
  | none =>
    obtain rfl := hao rfl
    exact ⟨w, copy_nil _ _ _ _ _ _, hr.congr (fun i hi => by rw [if_neg (by omega)]), Mod.refl _ _, rfl⟩
  | some ad =>
    refine run_copy_fn (P := Try.prog) w 26 26 3 3 b off dl dc ad n c n (fun j => .int .i64 (f j)) N g Try.underlying26 tinfoI (by show n = min n dl; omega) (fun j hj => ?_) (fun _ _ => rfl) hr (by omega)
    obtain ⟨b', o', e, -, hc⟩ := h.2 j hj
    cases e
    rw [Addr.add_mid]
    exact hc
theorem wdH : Wd 148 32 := ⟨⟨_, Try.underlying148, rfl⟩, by kernel_rfl⟩
theorem wdM : Wd 151 41 := ⟨⟨_, Try.underlying151, rfl⟩, by kernel_rfl⟩
def fF : Nat → Bool := fun _ => false
def mz : Nat → Value := mcf (.slice none 0 0) hz fF
theorem zeroH : ((Try.prog.info? 148).bind (·.zero)).map Value.cells = some (lst 32 hz).toArray := by kernel_rfl
theorem zeroM : ((Try.prog.info? 151).bind (·.zero)).map Value.cells = some (lst 41 mz).toArray := by kernel_rfl
end Go.Proofs.Ytbpdopcdhnemfaa
/- Guests: the program's held ones. -/
namespace Go.Proofs.Ytbpdopcdhnemfaa
open Go.RowKit
set_option linter.unusedSimpArgs false
set_option linter.unusedVariables false
theorem hcf_cells {w : World} {z : Nat} {at_ acc : Int} {c : Nat → Int} {nt : Int} {d : Bool} (h : Row w z 32 (fun i => if 2 ≤ i ∧ i < 2 + 8 then .int .i64 (c (i - 2)) else hcf at_ acc (fun _ => 0) (fun _ => 0) nt d i)) : Row w z 32 (hcf at_ acc c (fun _ => 0) nt d) :=
  h.congr fun i hi => by
    unfold hcf
    by_cases e : 2 ≤ i ∧ i < 2 + 8
    · rw [if_pos e, if_neg (by omega), if_neg (by omega), if_pos (by omega)]
    · rw [if_neg e]
      by_cases e0 : i = 0
      · rw [if_pos e0, if_pos e0]
      · by_cases e1 : i = 1
        · rw [if_neg e0, if_pos e1, if_neg e0, if_pos e1]
        · have e2 : ¬ i < 10 := by omega
          rw [if_neg e0, if_neg e1, if_neg e2, if_neg e0, if_neg e1, if_neg e2]
theorem hcf_told {w : World} {z : Nat} {D : GD} (hn : D.nt ≤ 20) (h : Row w z 32 (fun i => if 10 ≤ i ∧ i < 10 + D.nt then .int .i64 (D.t (i - 10)) else hcf D.at_ D.acc D.c (fun _ => 0) D.nt D.d i)) : Row w z 32 (hc D) :=
  h.congr fun i hi => by
    unfold hc hcf tz
    by_cases e : 10 ≤ i ∧ i < 10 + D.nt
    · rw [if_pos e, if_neg (by omega), if_neg (by omega), if_neg (by omega), if_pos (by omega), if_pos (by omega)]
    · rw [if_neg e]
      by_cases e0 : i = 0
      · rw [if_pos e0, if_pos e0]
      · by_cases e1 : i = 1
        · rw [if_neg e0, if_pos e1, if_neg e0, if_pos e1]
        · by_cases e2 : i < 10
          · rw [if_neg e0, if_neg e1, if_pos e2, if_neg e0, if_neg e1, if_pos e2]
          · by_cases e3 : i < 30
            · rw [if_neg e0, if_neg e1, if_neg e2, if_pos e3, if_neg e0, if_neg e1, if_neg e2, if_pos e3, if_neg (by omega)]
            · rw [if_neg e0, if_neg e1, if_neg e2, if_neg e3, if_neg e0, if_neg e1, if_neg e2, if_neg e3]
/-- The cells and the words of a held guest, as slices of its block at an offset. -/
theorem held_ints {w : World} {z o : Nat} {D : GD} (h : Cells w z o 32 (hc D)) : IntsAt (fun b => b = z) w (some ⟨z, o + 2, none⟩) 8 D.c ∧ IntsAt (fun b => b = z) w (some ⟨z, o + 10, none⟩) 20 (tz D) := by
  refine ⟨⟨by omega, fun i hi => ⟨z, o + 2, rfl, rfl, ?_⟩⟩, ⟨by omega, fun i hi => ⟨z, o + 10, rfl, rfl, ?_⟩⟩⟩
  · have := (h (2 + i) (by omega)).1
    rw [← Nat.add_assoc] at this
    rw [this]
    unfold hc hcf
    rw [if_neg (by omega), if_neg (by omega), if_pos (by omega)]
    congr 2
    congr 1
    omega
  · have := (h (10 + i) (by omega)).1
    rw [← Nat.add_assoc] at this
    rw [this]
    unfold hc hcf
    rw [if_neg (by omega), if_neg (by omega), if_neg (by omega), if_pos (by omega)]
    congr 2
    congr 1
    omega
set_option maxRecDepth 10000 in
set_option maxHeartbeats 6400000 in
theorem holdGuest_any (v : GV) (D : GD) (Y : Nat → Prop) (w : World) (h : GAt Y w v D) (hY : ∀ b, Y b → b < w.heap.size) :
    Calls Try.prog 120 #[v.val D] w fun e w' => ((D.Good ∧ e = .returned (.tuple #[.agg (lst 32 (hc D)).toArray, .bool true])) ∨ (¬ D.Good ∧ e = .returned (.tuple #[.agg (lst 32 hz).toArray, .bool false]))) ∧ Blw w w' := by
  have HB : Hid (Blw w (w.alloc (.cells #[.int .i64 D.at_, .int .i64 D.acc, .slice v.a1 D.nc v.c1, .slice v.a2 D.nt v.c2, .bool D.d] 61))) := (Blw.refl _).alloc _
  have R0 : Hid (Row (w.alloc (.cells #[.int .i64 D.at_, .int .i64 D.acc, .slice v.a1 D.nc v.c1, .slice v.a2 D.nt v.c2, .bool D.d] 61)) w.heap.size 5 (gb v D)) := row5 w _ _ _ _ _ 61
  have HW : Hid (GAt Y w v D) := h
  have HY : Hid (∀ b, Y b → b < w.heap.size) := hY
  have hao1 : v.a1 = none → D.nc = 0 := fun e => Classical.byContradiction fun hn => by obtain ⟨b, o, e', -, -⟩ := h.c.2 0 (by omega); rw [e] at e'; cases e'
  have hao2 : v.a2 = none → D.nt = 0 := fun e => Classical.byContradiction fun hn => by obtain ⟨b, o, e', -, -⟩ := h.t.2 0 (by omega); rw [e] at e'; cases e'
  have HAO : Hid ((v.a1 = none → D.nc = 0) ∧ (v.a2 = none → D.nt = 0)) := ⟨hao1, hao2⟩
  have hn1 := h.c.1
  have hn2 := h.t.1
  clear h hY hao1 hao2
  go_enter Try.func120, Try.ntmps120
  go_upto_region 1 with (first | (refine alloc_big rfl 148 rfl 32 hz zeroH ?_; intro w1 RZ hb1 hz1) | fail)
  rw [World.size_alloc] at RZ hz1
  have HZ : Hid (Row w1 (w.heap.size + 1) 32 hz) := RZ
  replace R0 : Hid (Row w1 w.heap.size 5 (gb v D)) := R0.out.blw hb1
  replace HB : Hid (Blw w w1) := HB.out.trans hb1
  have HS1 : Hid (w1.heap.size = w.heap.size + 1 + 1) := hz1
  clear RZ hb1 hz1
  try simp only [World.size_alloc]
  obtain ⟨p0, p1, p2, p3, p4⟩ := get5 R0.out
  by_cases ha0 : D.at_ < 0
  · clear HW HAO HY R0
    have HN : Hid (¬ D.Good) := fun g => by have := g.a0; omega
    have HRZ := HZ.out
    go_wp2_with (first | (refine wpList_buildTo rfl 148 _ rfl _ rfl (lst 32 hz).toArray (by kernel_rfl) ?_) | (refine store_big rfl 148 _ _ rfl (w.heap.size + 1) 32 hz hz rfl rfl wdH HRZ (fun i _ => hcf_one _ _ _ _ _ _ i) ?_; intro wz RZ9 hm9 hs9; have HF9 : Hid (Row wz (w.heap.size + 1) 32 hz ∧ Blw w wz) := ⟨RZ9, Mod.blw HB.out hm9 (fun i hi => by omega)⟩; clear RZ9 hm9 hs9 HRZ) | fail)
    refine bodyPost_ret (v := .tuple #[.agg (lst 32 hz).toArray, .bool false]) (by rw [results_cell_tmp rfl]; simp [asAddr, Result.andThen, run_load_big wdH HF9.out.1.cells]) rfl ⟨Or.inr ⟨HN.out, rfl⟩, HF9.out.2⟩

  by_cases ha1 : D.at_ > 16
  · clear HW HAO HY R0
    have HN : Hid (¬ D.Good) := fun g => by have := g.a1; omega
    have HRZ := HZ.out
    go_wp2_with (first | (refine wpList_buildTo rfl 148 _ rfl _ rfl (lst 32 hz).toArray (by kernel_rfl) ?_) | (refine store_big rfl 148 _ _ rfl (w.heap.size + 1) 32 hz hz rfl rfl wdH HRZ (fun i _ => hcf_one _ _ _ _ _ _ i) ?_; intro wz RZ9 hm9 hs9; have HF9 : Hid (Row wz (w.heap.size + 1) 32 hz ∧ Blw w wz) := ⟨RZ9, Mod.blw HB.out hm9 (fun i hi => by omega)⟩; clear RZ9 hm9 hs9 HRZ) | fail)
    refine bodyPost_ret (v := .tuple #[.agg (lst 32 hz).toArray, .bool false]) (by rw [results_cell_tmp rfl]; simp [asAddr, Result.andThen, run_load_big wdH HF9.out.1.cells]) rfl ⟨Or.inr ⟨HN.out, rfl⟩, HF9.out.2⟩

  have GA : Hid (0 ≤ D.at_ ∧ D.at_ ≤ 16) := ⟨by omega, by omega⟩
  go_wp2_with fail
  refine (isWord_any D.acc _).mono ?_
  rintro e w1 ⟨r, rfl, hr, rfl⟩
  have H1 : Hid (r = true ↔ wordOK D.acc) := hr
  clear hr
  cases r
  · clear HW HAO HY R0
    have HN : Hid (¬ D.Good) := fun g => by have := H1.out.2 g.acc; cases this
    have HRZ := HZ.out
    go_wp2_with (first | (refine wpList_buildTo rfl 148 _ rfl _ rfl (lst 32 hz).toArray (by kernel_rfl) ?_) | (refine store_big rfl 148 _ _ rfl (w.heap.size + 1) 32 hz hz rfl rfl wdH HRZ (fun i _ => hcf_one _ _ _ _ _ _ i) ?_; intro wz RZ9 hm9 hs9; have HF9 : Hid (Row wz (w.heap.size + 1) 32 hz ∧ Blw w wz) := ⟨RZ9, Mod.blw HB.out hm9 (fun i hi => by omega)⟩; clear RZ9 hm9 hs9 HRZ) | fail)
    refine bodyPost_ret (v := .tuple #[.agg (lst 32 hz).toArray, .bool false]) (by rw [results_cell_tmp rfl]; simp [asAddr, Result.andThen, run_load_big wdH HF9.out.1.cells]) rfl ⟨Or.inr ⟨HN.out, rfl⟩, HF9.out.2⟩

  have GB : Hid (wordOK D.acc) := H1.out.1 (by first | rfl | trivial)
  clear H1
  by_cases h8 : D.nc = 8
  case neg =>
    have d8 : ((D.nc : Int) != 8) = true := by simp; omega
    clear HW HAO HY R0
    have HN : Hid (¬ D.Good) := fun g => h8 g.nc
    have HRZ := HZ.out
    go_wp2_with (first | (refine wpList_buildTo rfl 148 _ rfl _ rfl (lst 32 hz).toArray (by kernel_rfl) ?_) | (refine store_big rfl 148 _ _ rfl (w.heap.size + 1) 32 hz hz rfl rfl wdH HRZ (fun i _ => hcf_one _ _ _ _ _ _ i) ?_; intro wz RZ9 hm9 hs9; have HF9 : Hid (Row wz (w.heap.size + 1) 32 hz ∧ Blw w wz) := ⟨RZ9, Mod.blw HB.out hm9 (fun i hi => by omega)⟩; clear RZ9 hm9 hs9 HRZ) | fail)
    refine bodyPost_ret (v := .tuple #[.agg (lst 32 hz).toArray, .bool false]) (by rw [results_cell_tmp rfl]; simp [asAddr, Result.andThen, run_load_big wdH HF9.out.1.cells]) rfl ⟨Or.inr ⟨HN.out, rfl⟩, HF9.out.2⟩

  have d8 : ((D.nc : Int) != 8) = false := by simp [h8]
  have G8 : Hid (D.nc = 8) := h8
  clear h8
  by_cases h20 : D.nt ≤ 20
  case neg =>
    have d20 : ¬ (D.nt : Int) ≤ 20 := by omega
    clear HW HAO HY R0
    have HN : Hid (¬ D.Good) := fun g => h20 g.nt
    have HRZ := HZ.out
    go_wp2_with (first | (refine wpList_buildTo rfl 148 _ rfl _ rfl (lst 32 hz).toArray (by kernel_rfl) ?_) | (refine store_big rfl 148 _ _ rfl (w.heap.size + 1) 32 hz hz rfl rfl wdH HRZ (fun i _ => hcf_one _ _ _ _ _ _ i) ?_; intro wz RZ9 hm9 hs9; have HF9 : Hid (Row wz (w.heap.size + 1) 32 hz ∧ Blw w wz) := ⟨RZ9, Mod.blw HB.out hm9 (fun i hi => by omega)⟩; clear RZ9 hm9 hs9 HRZ) | fail)
    refine bodyPost_ret (v := .tuple #[.agg (lst 32 hz).toArray, .bool false]) (by rw [results_cell_tmp rfl]; simp [asAddr, Result.andThen, run_load_big wdH HF9.out.1.cells]) rfl ⟨Or.inr ⟨HN.out, rfl⟩, HF9.out.2⟩

  go_upto_region 4 with (first | (refine wpList_buildTo rfl 148 _ rfl _ rfl (lst 32 (hcf D.at_ D.acc (fun _ => 0) (fun _ => 0) D.nt D.d)).toArray (by kernel_rfl) ?_) | (refine alloc_big rfl 148 rfl 32 hz zeroH ?_; intro w2 RH0 hb2 hz2) | (refine store_big rfl 148 _ _ rfl _ 32 (hcf D.at_ D.acc (fun _ => 0) (fun _ => 0) D.nt D.d) hz rfl rfl wdH RH0 (fun i _ => hcf_one _ _ _ _ _ _ i) ?_; intro w3 RH hm3 hs3; clear RH0) | fail)
  have hS := HS1.out
  rw [hS] at RH hm3
  have HM3 : Hid (Blw w1 w3) := Mod.blw hb2 hm3 (fun i hi => by omega)
  have HS3 : Hid (w3.heap.size = w.heap.size + 1 + 1 + 1) := by show _ = _; omega
  have HR : Hid (Row w3.drew (w.heap.size + 1 + 1) 32 (hcf D.at_ D.acc (fun _ => 0) (fun _ => 0) D.nt D.d)) := RH.blw (Blw.refl _).drew
  replace HB : Hid (Blw w w3.drew) := (HB.out.trans HM3.out).drew
  replace R0 : Hid (Row w3.drew w.heap.size 5 (gb v D)) := (R0.out.blw HM3.out).blw (Blw.refl _).drew
  replace HZ : Hid (Row w3.drew (w.heap.size + 1) 32 hz) := (HZ.out.blw HM3.out).blw (Blw.refl _).drew
  try rw [hS]
  clear RH hm3 hs3 hb2 hz2 HM3 hS p0 p1 p2 p3 p4 HS1
  refine wp_region_noPanic ?_
  refine wp_region_held_drew (S := fun w' => w'.cell? ⟨w.heap.size, 2, none⟩ = some (.slice v.a1 D.nc v.c1)) (by kernel_rfl) (get5 R0.out).2.2.1 (fun hB => ?_)
  clear hB
  refine wpAnyH_take (i := 0) (oi := { dst := some 42, op := Op.fieldAddr 148 (Operand.tmp 4) 2, type := 0, pos := _, after := #[], guard := none }) (v := (.pointer (some ⟨w.heap.size + 1 + 1, 2, none⟩))) rfl (by kernel_rfl) (by kernel_rfl) (by kernel_rfl) (fun _ _ _ h => h) (Or.inl ⟨by rfl, fun w' hS => by (try dsimp only at hS); go_simp⟩) (get5 R0.out).2.2.1 ?_
  simp only [Act.put, List.setIfInBounds_toArray, List.set_cons_zero, List.set_cons_succ]
  refine wpAnyH_take (i := 2) (oi := { dst := some 44, op := Op.fieldAddr 61 (Operand.tmp 1) 2, type := 0, pos := _, after := #[], guard := none }) (v := (.pointer (some ⟨w.heap.size, 2, none⟩))) rfl (by kernel_rfl) (by kernel_rfl) (by kernel_rfl) (fun _ _ _ h => h) (Or.inl ⟨by rfl, fun w' hS => by (try dsimp only at hS); go_simp⟩) (get5 R0.out).2.2.1 ?_
  simp only [Act.put, List.setIfInBounds_toArray, List.set_cons_zero, List.set_cons_succ]
  refine wpAnyH_take (i := 1) (oi := { dst := some 43, op := Op.slice 145 (Operand.tmp 42) none none none, type := 26, pos := _, after := #[{ on := 0, ground := Ground.data }], guard := none }) (v := (.slice (some ⟨w.heap.size + 1 + 1, 2, none⟩) 8 8)) rfl (by kernel_rfl) (by kernel_rfl) (by kernel_rfl) (fun _ _ _ h => h) (Or.inl ⟨by rfl, fun w' hS => by (try dsimp only at hS); go_simp⟩) (get5 R0.out).2.2.1 ?_
  simp only [Act.put, List.setIfInBounds_toArray, List.set_cons_zero, List.set_cons_succ]
  refine wpAnyH_take (i := 3) (oi := { dst := some 45, op := Op.load 26 (Operand.tmp 44), type := 26, pos := _, after := #[{ on := 2, ground := Ground.data }], guard := none }) (v := (.slice v.a1 D.nc v.c1)) rfl (by kernel_rfl) (by kernel_rfl) (by kernel_rfl) (fun _ _ _ h => h) (Or.inl ⟨by rfl, fun w' hS => by (try dsimp only at hS); go_simp⟩) (get5 R0.out).2.2.1 ?_
  simp only [Act.put, List.setIfInBounds_toArray, List.set_cons_zero, List.set_cons_succ]
  refine wpAnyH_ready (rs := [4]) (by kernel_rfl) (by simp) ?_
  refine AllReadyH.cons (o := { dst := some 46, op := Op.call { callee := Callee.builtin Builtin.copy, args := #[Operand.tmp 43, Operand.tmp 45], argTypes := #[26, 26] }, type := 3, pos := _, after := #[{ on := 1, ground := Ground.data }, { on := 3, ground := Ground.data }], guard := none }) rfl (fun K hK => ?_) AllReadyH.nil
  obtain ⟨w4, hrun, hrow, hmod, hsz⟩ := copy_ints (dc := 8) (c := v.c1) 8 (HW.out.c.blw HB.out) (by have := G8.out; omega) (N := 32) (off := 2) (b := w.heap.size + 1 + 1) HR.out (by omega) HAO.out.1
  refine step_copy_run rfl (.tmp 43) (.tmp 45) 26 26 rfl _ _ rfl rfl _ _ hrun ?_
  clear hrun
  have hsb := HS3.out
  replace R0 : Hid (Row w4 w.heap.size 5 (gb v D)) := R0.out.mod hmod (by omega)
  replace HZ : Hid (Row w4 (w.heap.size + 1) 32 hz) := HZ.out.mod hmod (by omega)
  replace HB : Hid (Blw w w4) := Mod.blw HB.out hmod (fun i hi => by omega)
  refine hK.out _ _ (get5 R0.out).2.2.1 (fun hB => ?_)
  clear hK K hB
  try simp only [Act.put, List.setIfInBounds_toArray, List.set_cons_zero, List.set_cons_succ]
  refine wpAnyH_done (by kernel_rfl) ?_ _
  refine NoPanic.normal ?_
  have hrow' := hcf_cells (by rw [G8.out] at hrow; exact hrow)
  go_upto_region 5 with fail
  replace HR : Hid (Row w4.drew (w.heap.size + 1 + 1) 32 (hcf D.at_ D.acc D.c (fun _ => 0) D.nt D.d)) := hrow'.blw (Blw.refl _).drew
  replace HB : Hid (Blw w w4.drew) := HB.out.drew
  replace R0 : Hid (Row w4.drew w.heap.size 5 (gb v D)) := R0.out.blw (Blw.refl _).drew
  replace HZ : Hid (Row w4.drew (w.heap.size + 1) 32 hz) := HZ.out.blw (Blw.refl _).drew
  clear hrow hrow' hmod hsz hsb
  refine wp_region_noPanic ?_
  refine wp_region_held_drew (S := fun w' => w'.cell? ⟨w.heap.size, 3, none⟩ = some (.slice v.a2 D.nt v.c2)) (by kernel_rfl) (get5 R0.out).2.2.2.1 (fun hB => ?_)
  clear hB
  refine wpAnyH_take (i := 0) (oi := { dst := some 47, op := Op.fieldAddr 148 (Operand.tmp 4) 3, type := 0, pos := _, after := #[], guard := none }) (v := (.pointer (some ⟨w.heap.size + 1 + 1, 10, none⟩))) rfl (by kernel_rfl) (by kernel_rfl) (by kernel_rfl) (fun _ _ _ h => h) (Or.inl ⟨by rfl, fun w' hS => by (try dsimp only at hS); go_simp⟩) (get5 R0.out).2.2.2.1 ?_
  simp only [Act.put, List.setIfInBounds_toArray, List.set_cons_zero, List.set_cons_succ]
  refine wpAnyH_take (i := 2) (oi := { dst := some 49, op := Op.fieldAddr 61 (Operand.tmp 1) 3, type := 0, pos := _, after := #[], guard := none }) (v := (.pointer (some ⟨w.heap.size, 3, none⟩))) rfl (by kernel_rfl) (by kernel_rfl) (by kernel_rfl) (fun _ _ _ h => h) (Or.inl ⟨by rfl, fun w' hS => by (try dsimp only at hS); go_simp⟩) (get5 R0.out).2.2.2.1 ?_
  simp only [Act.put, List.setIfInBounds_toArray, List.set_cons_zero, List.set_cons_succ]
  refine wpAnyH_take (i := 1) (oi := { dst := some 48, op := Op.slice 146 (Operand.tmp 47) none none none, type := 26, pos := _, after := #[{ on := 0, ground := Ground.data }], guard := none }) (v := (.slice (some ⟨w.heap.size + 1 + 1, 10, none⟩) 20 20)) rfl (by kernel_rfl) (by kernel_rfl) (by kernel_rfl) (fun _ _ _ h => h) (Or.inl ⟨by rfl, fun w' hS => by (try dsimp only at hS); go_simp⟩) (get5 R0.out).2.2.2.1 ?_
  simp only [Act.put, List.setIfInBounds_toArray, List.set_cons_zero, List.set_cons_succ]
  refine wpAnyH_take (i := 3) (oi := { dst := some 50, op := Op.load 26 (Operand.tmp 49), type := 26, pos := _, after := #[{ on := 2, ground := Ground.data }], guard := none }) (v := (.slice v.a2 D.nt v.c2)) rfl (by kernel_rfl) (by kernel_rfl) (by kernel_rfl) (fun _ _ _ h => h) (Or.inl ⟨by rfl, fun w' hS => by (try dsimp only at hS); go_simp⟩) (get5 R0.out).2.2.2.1 ?_
  simp only [Act.put, List.setIfInBounds_toArray, List.set_cons_zero, List.set_cons_succ]
  refine wpAnyH_ready (rs := [4]) (by kernel_rfl) (by simp) ?_
  refine AllReadyH.cons (o := { dst := some 51, op := Op.call { callee := Callee.builtin Builtin.copy, args := #[Operand.tmp 48, Operand.tmp 50], argTypes := #[26, 26] }, type := 3, pos := _, after := #[{ on := 1, ground := Ground.data }, { on := 3, ground := Ground.data }], guard := none }) rfl (fun K hK => ?_) AllReadyH.nil
  obtain ⟨w5, hrun, hrow, hmod, hsz⟩ := copy_ints (dc := 20) (c := v.c2) 20 (HW.out.t.blw HB.out) (by omega) (N := 32) (off := 10) (b := w.heap.size + 1 + 1) HR.out (by omega) HAO.out.2
  refine step_copy_run rfl (.tmp 48) (.tmp 50) 26 26 rfl _ _ rfl rfl _ _ hrun ?_
  clear hrun
  have hsb := HS3.out
  replace R0 : Hid (Row w5 w.heap.size 5 (gb v D)) := R0.out.mod hmod (by omega)
  replace HZ : Hid (Row w5 (w.heap.size + 1) 32 hz) := HZ.out.mod hmod (by omega)
  replace HB : Hid (Blw w w5) := Mod.blw HB.out hmod (fun i hi => by omega)
  refine hK.out _ _ (get5 R0.out).2.2.2.1 (fun hB => ?_)
  clear hK K hB
  try simp only [Act.put, List.setIfInBounds_toArray, List.set_cons_zero, List.set_cons_succ]
  refine wpAnyH_done (by kernel_rfl) ?_ _
  refine NoPanic.normal ?_
  have hrow' := hcf_told h20 hrow
  have hcl := hrow'.cells
  have hin := held_ints hcl
  simp only [Nat.zero_add] at hin
  have HI : Hid _ := hin
  have HR5 : Hid (Row w5 (w.heap.size + 1 + 1) 32 (hc D)) := hrow'
  clear HR hrow hrow' hmod hsz hsb hcl hin R0 HW HAO HY
  go_wp2_with fail
  refine (areWords_any _ 8 8 D.c _ _ HI.out.1).mono ?_
  rintro e w5 ⟨r, rfl, hr, rfl⟩
  have H1 : Hid (r = true ↔ ∀ i, i < 8 → wordOK (D.c i)) := hr
  clear hr
  cases r
  · have HN : Hid (¬ D.Good) := fun g => by have h9 := g.c; rw [g.nc] at h9; have := H1.out.2 h9; cases this
    have HRZ := HZ.out
    go_wp2_with (first | (refine wpList_buildTo rfl 148 _ rfl _ rfl (lst 32 hz).toArray (by kernel_rfl) ?_) | (refine store_big rfl 148 _ _ rfl (w.heap.size + 1) 32 hz hz rfl rfl wdH HRZ (fun i _ => hcf_one _ _ _ _ _ _ i) ?_; intro wz RZ9 hm9 hs9; have HF9 : Hid (Row wz (w.heap.size + 1) 32 hz ∧ Blw w wz) := ⟨RZ9, Mod.blw HB.out hm9 (fun i hi => by omega)⟩; clear RZ9 hm9 hs9 HRZ) | fail)
    refine bodyPost_ret (v := .tuple #[.agg (lst 32 hz).toArray, .bool false]) (by rw [results_cell_tmp rfl]; simp [asAddr, Result.andThen, run_load_big wdH HF9.out.1.cells]) rfl ⟨Or.inr ⟨HN.out, rfl⟩, HF9.out.2⟩
  have GC : Hid (∀ i, i < 8 → wordOK (D.c i)) := H1.out.1 (by first | rfl | trivial)
  clear H1
  go_wp2_with fail
  refine (areWords_any _ 20 20 (tz D) _ _ HI.out.2).mono ?_
  rintro e w5 ⟨r, rfl, hr, rfl⟩
  have H1 : Hid (r = true ↔ ∀ i, i < 20 → wordOK (tz D i)) := hr
  clear hr
  cases r
  · have HN : Hid (¬ D.Good) := fun g => by have := H1.out.2 (fun i hi => by unfold tz; split; exact g.t i (by assumption); exact ⟨by omega, by omega⟩); cases this
    have HRZ := HZ.out
    go_wp2_with (first | (refine wpList_buildTo rfl 148 _ rfl _ rfl (lst 32 hz).toArray (by kernel_rfl) ?_) | (refine store_big rfl 148 _ _ rfl (w.heap.size + 1) 32 hz hz rfl rfl wdH HRZ (fun i _ => hcf_one _ _ _ _ _ _ i) ?_; intro wz RZ9 hm9 hs9; have HF9 : Hid (Row wz (w.heap.size + 1) 32 hz ∧ Blw w wz) := ⟨RZ9, Mod.blw HB.out hm9 (fun i hi => by omega)⟩; clear RZ9 hm9 hs9 HRZ) | fail)
    refine bodyPost_ret (v := .tuple #[.agg (lst 32 hz).toArray, .bool false]) (by rw [results_cell_tmp rfl]; simp [asAddr, Result.andThen, run_load_big wdH HF9.out.1.cells]) rfl ⟨Or.inr ⟨HN.out, rfl⟩, HF9.out.2⟩
  have HG : Hid D.Good := ⟨GA.out.1, GA.out.2, GB.out, G8.out, fun i hi => GC.out i (by have := G8.out; omega), h20, fun i hi => by have h9 := H1.out.1 (by first | rfl | trivial) i (by omega); unfold tz at h9; rw [if_pos hi] at h9; exact h9⟩
  clear H1 GA GB GC HI
  have hcl := HR5.out.cells
  have HRZ := HZ.out
  go_wp2_with (first | (refine load_big rfl 148 _ rfl _ _ 32 rfl (hc D) wdH hcl ?_) | (refine store_big rfl 148 _ _ rfl (w.heap.size + 1) 32 (hc D) hz rfl rfl wdH HRZ (fun i _ => hc_one _ i) ?_; intro wz RZ9 hm9 hs9; have HF9 : Hid (Row wz (w.heap.size + 1) 32 (hc D) ∧ Blw w wz) := ⟨RZ9, Mod.blw HB.out hm9 (fun i hi => by omega)⟩; clear RZ9 hm9 hs9 HRZ hcl) | fail)
  refine bodyPost_ret (v := .tuple #[.agg (lst 32 (hc D)).toArray, .bool true]) (by rw [results_cell_tmp rfl]; simp [asAddr, Result.andThen, run_load_big wdH HF9.out.1.cells]) rfl ⟨Or.inl ⟨HG.out, rfl⟩, HF9.out.2⟩
end Go.Proofs.Ytbpdopcdhnemfaa
