/- Merged by program, in this order: Do, Dr. -/
import Derived.Test.YtbpdopcdhnemfaaJoin4
/- Machines: what the program does with an instruction. -/
namespace Go.Proofs.Ytbpdopcdhnemfaa
open Go.RowKit
set_option linter.unusedSimpArgs false
set_option linter.unusedVariables false
theorem ta1_1 (x : Int) (w : World) : (Instr.typeAssert (.iface 228 (.agg #[.int .i64 x])) 214 228 true).run Try.prog w = .ok (.tuple #[.agg #[.int .i64 x], .bool true]) w := by kernel_rfl
theorem ta2_1 (x : Int) (w : World) : (Instr.typeAssert (.iface 229 (.agg #[.int .i64 x])) 214 228 true).run Try.prog w = .ok (.tuple #[.agg #[.int .i64 0], .bool false]) w := by kernel_rfl
theorem ta2_2 (x : Int) (w : World) : (Instr.typeAssert (.iface 229 (.agg #[.int .i64 x])) 214 229 true).run Try.prog w = .ok (.tuple #[.agg #[.int .i64 x], .bool true]) w := by kernel_rfl
theorem ta3_1 (a : Int) (w : World) : (Instr.typeAssert (.iface 231 (.agg #[.int .i64 a])) 214 228 true).run Try.prog w = .ok (.tuple #[.agg #[.int .i64 0], .bool false]) w := by kernel_rfl
theorem ta3_2 (a : Int) (w : World) : (Instr.typeAssert (.iface 231 (.agg #[.int .i64 a])) 214 229 true).run Try.prog w = .ok (.tuple #[.agg #[.int .i64 0], .bool false]) w := by kernel_rfl
theorem ta3_3 (a : Int) (w : World) : (Instr.typeAssert (.iface 231 (.agg #[.int .i64 a])) 214 231 true).run Try.prog w = .ok (.tuple #[.agg #[.int .i64 a], .bool true]) w := by kernel_rfl
theorem ta4_1 (a : Int) (w : World) : (Instr.typeAssert (.iface 232 (.agg #[.int .i64 a])) 214 228 true).run Try.prog w = .ok (.tuple #[.agg #[.int .i64 0], .bool false]) w := by kernel_rfl
theorem ta4_2 (a : Int) (w : World) : (Instr.typeAssert (.iface 232 (.agg #[.int .i64 a])) 214 229 true).run Try.prog w = .ok (.tuple #[.agg #[.int .i64 0], .bool false]) w := by kernel_rfl
theorem ta4_3 (a : Int) (w : World) : (Instr.typeAssert (.iface 232 (.agg #[.int .i64 a])) 214 231 true).run Try.prog w = .ok (.tuple #[.agg #[.int .i64 0], .bool false]) w := by kernel_rfl
theorem ta4_4 (a : Int) (w : World) : (Instr.typeAssert (.iface 232 (.agg #[.int .i64 a])) 214 232 true).run Try.prog w = .ok (.tuple #[.agg #[.int .i64 a], .bool true]) w := by kernel_rfl
theorem ta5_1 (x : Int) (w : World) : (Instr.typeAssert (.iface 234 (.agg #[.int .i64 x])) 214 228 true).run Try.prog w = .ok (.tuple #[.agg #[.int .i64 0], .bool false]) w := by kernel_rfl
theorem ta5_2 (x : Int) (w : World) : (Instr.typeAssert (.iface 234 (.agg #[.int .i64 x])) 214 229 true).run Try.prog w = .ok (.tuple #[.agg #[.int .i64 0], .bool false]) w := by kernel_rfl
theorem ta5_3 (x : Int) (w : World) : (Instr.typeAssert (.iface 234 (.agg #[.int .i64 x])) 214 231 true).run Try.prog w = .ok (.tuple #[.agg #[.int .i64 0], .bool false]) w := by kernel_rfl
theorem ta5_4 (x : Int) (w : World) : (Instr.typeAssert (.iface 234 (.agg #[.int .i64 x])) 214 232 true).run Try.prog w = .ok (.tuple #[.agg #[.int .i64 0], .bool false]) w := by kernel_rfl
theorem ta5_5 (x : Int) (w : World) : (Instr.typeAssert (.iface 234 (.agg #[.int .i64 x])) 214 234 true).run Try.prog w = .ok (.tuple #[.agg #[.int .i64 x], .bool true]) w := by kernel_rfl
theorem ta6_1 (w : World) : (Instr.typeAssert (.iface 236 (.agg #[])) 214 228 true).run Try.prog w = .ok (.tuple #[.agg #[.int .i64 0], .bool false]) w := by kernel_rfl
theorem ta6_2 (w : World) : (Instr.typeAssert (.iface 236 (.agg #[])) 214 229 true).run Try.prog w = .ok (.tuple #[.agg #[.int .i64 0], .bool false]) w := by kernel_rfl
theorem ta6_3 (w : World) : (Instr.typeAssert (.iface 236 (.agg #[])) 214 231 true).run Try.prog w = .ok (.tuple #[.agg #[.int .i64 0], .bool false]) w := by kernel_rfl
theorem ta6_4 (w : World) : (Instr.typeAssert (.iface 236 (.agg #[])) 214 232 true).run Try.prog w = .ok (.tuple #[.agg #[.int .i64 0], .bool false]) w := by kernel_rfl
theorem ta6_5 (w : World) : (Instr.typeAssert (.iface 236 (.agg #[])) 214 234 true).run Try.prog w = .ok (.tuple #[.agg #[.int .i64 0], .bool false]) w := by kernel_rfl
theorem ta6_6 (w : World) : (Instr.typeAssert (.iface 236 (.agg #[])) 214 236 true).run Try.prog w = .ok (.tuple #[.agg #[], .bool true]) w := by kernel_rfl
theorem ta7_1 (w : World) : (Instr.typeAssert (.iface 237 (.agg #[])) 214 228 true).run Try.prog w = .ok (.tuple #[.agg #[.int .i64 0], .bool false]) w := by kernel_rfl
theorem ta7_2 (w : World) : (Instr.typeAssert (.iface 237 (.agg #[])) 214 229 true).run Try.prog w = .ok (.tuple #[.agg #[.int .i64 0], .bool false]) w := by kernel_rfl
theorem ta7_3 (w : World) : (Instr.typeAssert (.iface 237 (.agg #[])) 214 231 true).run Try.prog w = .ok (.tuple #[.agg #[.int .i64 0], .bool false]) w := by kernel_rfl
theorem ta7_4 (w : World) : (Instr.typeAssert (.iface 237 (.agg #[])) 214 232 true).run Try.prog w = .ok (.tuple #[.agg #[.int .i64 0], .bool false]) w := by kernel_rfl
theorem ta7_5 (w : World) : (Instr.typeAssert (.iface 237 (.agg #[])) 214 234 true).run Try.prog w = .ok (.tuple #[.agg #[.int .i64 0], .bool false]) w := by kernel_rfl
theorem ta7_6 (w : World) : (Instr.typeAssert (.iface 237 (.agg #[])) 214 236 true).run Try.prog w = .ok (.tuple #[.agg #[], .bool false]) w := by kernel_rfl
theorem ta7_7 (w : World) : (Instr.typeAssert (.iface 237 (.agg #[])) 214 237 true).run Try.prog w = .ok (.tuple #[.agg #[], .bool true]) w := by kernel_rfl
theorem mc_congr {p : Value} {D E : GD} {st su : Nat → Bool} {i : Nat} (h1 : i = 1 → D.at_ = E.at_) (h2 : i = 2 → D.acc = E.acc) (h3 : 3 ≤ i → i < 11 → D.c (i - 3) = E.c (i - 3)) (h4 : 11 ≤ i → i < 31 → tz D (i - 11) = tz E (i - 11)) (h5 : i = 31 → D.nt = E.nt) (h6 : i = 32 → D.d = E.d) (h7 : 33 ≤ i → st (i - 33) = su (i - 33)) : mc p D st i = mc p E su i := by
  unfold mc mcf
  by_cases e0 : i = 0
  · rw [if_pos e0, if_pos e0]
  rw [if_neg e0, if_neg e0]
  by_cases e33 : i < 33
  · rw [if_pos e33, if_pos e33]
    unfold hc hcf
    by_cases e1 : i - 1 = 0
    · rw [if_pos e1, if_pos e1, h1 (by omega)]
    rw [if_neg e1, if_neg e1]
    by_cases e2 : i - 1 = 1
    · rw [if_pos e2, if_pos e2, h2 (by omega)]
    rw [if_neg e2, if_neg e2]
    by_cases e3 : i - 1 < 10
    · rw [if_pos e3, if_pos e3, show i - 1 - 2 = i - 3 by omega, h3 (by omega) (by omega)]
    rw [if_neg e3, if_neg e3]
    by_cases e4 : i - 1 < 30
    · rw [if_pos e4, if_pos e4, show i - 1 - 10 = i - 11 by omega, h4 (by omega) (by omega)]
    rw [if_neg e4, if_neg e4]
    by_cases e5 : i - 1 = 30
    · rw [if_pos e5, if_pos e5, h5 (by omega)]
    rw [if_neg e5, if_neg e5, h6 (by omega)]
  · rw [if_neg e33, if_neg e33, h7 (by omega)]
theorem mc_at (p : Value) (D : GD) (st : Nat → Bool) : mc p D st 1 = .int .i64 D.at_ := rfl
theorem mc_acc (p : Value) (D : GD) (st : Nat → Bool) : mc p D st 2 = .int .i64 D.acc := rfl
theorem mc_many (p : Value) (D : GD) (st : Nat → Bool) : mc p D st 31 = .int .i64 (D.nt : Int) := rfl
theorem mc_done (p : Value) (D : GD) (st : Nat → Bool) : mc p D st 32 = .bool D.d := rfl
theorem mc_cell (p : Value) (D : GD) (st : Nat → Bool) {q : Nat} (hq : q < 8) : mc p D st (3 + q) = .int .i64 (D.c q) := by
  unfold mc mcf hc hcf
  rw [if_neg (by omega), if_pos (by omega), if_neg (by omega), if_neg (by omega), if_pos (by omega), show 3 + q - 1 - 2 = q by omega]
theorem mc_told (p : Value) (D : GD) (st : Nat → Bool) {q : Nat} (hq : q < 20) : mc p D st (11 + q) = .int .i64 (tz D q) := by
  unfold mc mcf hc hcf
  rw [if_neg (by omega), if_pos (by omega), if_neg (by omega), if_neg (by omega), if_neg (by omega), if_pos (by omega), show 11 + q - 1 - 10 = q by omega]
theorem mc_st (p : Value) (D : GD) (st : Nat → Bool) (q : Nat) : mc p D st (33 + q) = .bool (st q) := by
  unfold mc mcf
  rw [if_neg (by omega), if_neg (by omega), show 33 + q - 33 = q by omega]
def setS (st : Nat → Bool) (q : Nat) : Nat → Bool := fun i => if i = q then true else st i
section
variable {w : World} {zm : Nat} {p : Value} {D : GD} {st : Nat → Bool} (h : Row w zm 41 (mc p D st))
include h
theorem m_at (x : Int) : Row (w.setCell ⟨zm, 1, none⟩ (.int .i64 x)) zm 41 (mc p { D with at_ := x } st) :=
  (h.set 1 _).congr fun i hi => by
    by_cases e : i = 1
    · rw [if_pos e, e]; rfl
    · rw [if_neg e]; exact mc_congr (fun q => absurd q e) (fun _ => rfl) (fun _ _ => rfl) (fun _ _ => rfl) (fun _ => rfl) (fun _ => rfl) (fun _ => rfl)
theorem m_acc (x : Int) : Row (w.setCell ⟨zm, 2, none⟩ (.int .i64 x)) zm 41 (mc p { D with acc := x } st) :=
  (h.set 2 _).congr fun i hi => by
    by_cases e : i = 2
    · rw [if_pos e, e]; rfl
    · rw [if_neg e]; exact mc_congr (fun _ => rfl) (fun q => absurd q e) (fun _ _ => rfl) (fun _ _ => rfl) (fun _ => rfl) (fun _ => rfl) (fun _ => rfl)
theorem m_done : Row (w.setCell ⟨zm, 32, none⟩ (.bool true)) zm 41 (mc p { D with d := true } st) :=
  (h.set 32 _).congr fun i hi => by
    by_cases e : i = 32
    · rw [if_pos e, e]; rfl
    · rw [if_neg e]; exact mc_congr (fun _ => rfl) (fun _ => rfl) (fun _ _ => rfl) (fun _ _ => rfl) (fun _ => rfl) (fun q => absurd q e) (fun _ => rfl)
theorem m_cell {q : Nat} (hq : q < 8) (x : Int) : Row (w.setCell ⟨zm, 3 + q, none⟩ (.int .i64 x)) zm 41 (mc p { D with c := updI D.c q x } st) :=
  (h.set (3 + q) _).congr fun i hi => by
    by_cases e : i = 3 + q
    · rw [if_pos e, e, mc_cell _ _ _ hq]; simp [updI]
    · rw [if_neg e]; exact mc_congr (fun _ => rfl) (fun _ => rfl) (fun _ _ => by show _ = updI D.c q x _; unfold updI; rw [if_neg (by omega)]) (fun _ _ => rfl) (fun _ => rfl) (fun _ => rfl) (fun _ => rfl)
theorem m_st (q : Nat) : Row (w.setCell ⟨zm, 33 + q, none⟩ (.bool true)) zm 41 (mc p D (setS st q)) :=
  (h.set (33 + q) _).congr fun i hi => by
    by_cases e : i = 33 + q
    · rw [if_pos e, e, mc_st]; simp [setS]
    · rw [if_neg e]; exact mc_congr (fun _ => rfl) (fun _ => rfl) (fun _ _ => rfl) (fun _ _ => rfl) (fun _ => rfl) (fun _ => rfl) (fun _ => by unfold setS; rw [if_neg (by omega)])
theorem m_tell (hn : D.nt < 20) (x : Int) : Row ((w.setCell ⟨zm, 11 + D.nt, none⟩ (.int .i64 x)).setCell ⟨zm, 31, none⟩ (.int .i64 ((D.nt : Int) + 1))) zm 41 (mc p { D with nt := D.nt + 1, t := updI D.t D.nt x } st) :=
  ((h.set (11 + D.nt) _).set 31 _).congr fun i hi => by
    by_cases e : i = 31
    · rw [if_pos e, e]; rfl
    · rw [if_neg e]
      by_cases e2 : i = 11 + D.nt
      · rw [if_pos e2, e2, mc_told _ _ _ hn]
        simp [tz, updI]
      · rw [if_neg e2]
        refine mc_congr (fun _ => rfl) (fun _ => rfl) (fun _ _ => rfl) (fun h1 h2 => ?_) (fun q => absurd q e) (fun _ => rfl) (fun _ => rfl)
        show tz D (i - 11) = (if i - 11 < D.nt + 1 then updI D.t D.nt x (i - 11) else 0)
        unfold tz updI
        by_cases e3 : i - 11 < D.nt
        · rw [if_pos e3, if_pos (by omega), if_neg (by omega)]
        · rw [if_neg e3, if_neg (by omega)]
end
theorem Mod.seq {X : Nat → Prop} {a b c : World} (h : Mod X a b) (k : Mod X b c) : Mod X a c := h.trans k
theorem m_mod {w : World} {zm o : Nat} (v : Value) : Mod (fun b => b = zm) w (w.setCell ⟨zm, o, none⟩ v) := Mod.setCell (X := fun b => b = zm) _ (p := ⟨zm, o, none⟩) rfl _
set_option maxRecDepth 10000 in
set_option maxHeartbeats 3200000 in
theorem do_set (zm : Nat) (p : Value) (D : GD) (st : Nat → Bool) (x : Int) (w : World) (ha0 : 0 ≤ D.at_) (ha1 : D.at_ ≤ 16) (h : Row w zm 41 (mc p D st)) :
    Calls Try.prog 179 #[.pointer (some ⟨zm, 0, none⟩), .iface 228 (.agg #[.int .i64 x])] w fun e w' => (∃ u, e = .returned u) ∧ Row w' zm 41 (mc p { D with acc := x, at_ := D.at_ + 1 } st) ∧ Mod (fun b => b = zm) w w' := by
  have H0 : Hid (Row w zm 41 (mc p D st)) := h
  have a1 := fun w => ta1_1 x w
  go_enter Try.func179, Try.ntmps179
  have p1 : w.cell? ⟨zm, 1, none⟩ = some (.int .i64 D.at_) := (h.cell (i := 1) (by omega)).trans (by rw [mc_at])
  clear h
  go_upto_region 5 with fail
  have HA : Blw w (w.alloc (.cells #[.int .i64 x] 228)) := (Blw.refl _).alloc _
  have H1 : Hid (Row (w.alloc (.cells #[.int .i64 x] 228)) zm 41 (mc p D st)) := H0.out.blw HA
  have HM : Hid (Mod (fun b => b = zm) w (w.alloc (.cells #[.int .i64 x] 228))) := HA.mod _
  have HI : Hid ((w.alloc (.cells #[.int .i64 x] 228)).heap[w.heap.size]? = some (.cells #[.int .i64 x] 228 (0, 0))) := heap_alloc_new w _
  have HN : Hid (zm ≠ w.heap.size) := by have := H0.out.lt; show _ ≠ _; omega
  clear HA H0 p1 a1
  generalize w.alloc (.cells #[.int .i64 x] 228) = w1 at *
  generalize w.heap.size = zi at *
  have i0 : w1.cell? ⟨zi, 0, none⟩ = some (.int .i64 x) := by have h9 := HI.out; simp [World.cell?, h9]
  have p1 : w1.cell? ⟨zm, 1, none⟩ = some (.int .i64 D.at_) := H1.out.cell (i := 1) (by omega)
  have p2 : w1.cell? ⟨zm, 2, none⟩ = some (.int .i64 D.acc) := H1.out.cell (i := 2) (by omega)
  have p31 : w1.cell? ⟨zm, 31, none⟩ = some (.int .i64 (D.nt : Int)) := H1.out.cell (i := 31) (by omega)
  have p32 : w1.cell? ⟨zm, 32, none⟩ = some (.bool D.d) := H1.out.cell (i := 32) (by omega)
  have f1 := H1.out.frozen 1; have f2 := H1.out.frozen 2; have f32 := H1.out.frozen 32; have f31 := H1.out.frozen 31
  have FIN : Hid (Row ((w1.setCell ⟨zm, 2, none⟩ (.int .i64 x)).setCell ⟨zm, 1, none⟩ (.int .i64 (D.at_ + 1))) zm 41 (mc p { D with acc := x, at_ := D.at_ + 1 } st) ∧ Mod (fun b => b = zm) w ((w1.setCell ⟨zm, 2, none⟩ (.int .i64 x)).setCell ⟨zm, 1, none⟩ (.int .i64 (D.at_ + 1)))) := ⟨m_at (m_acc H1.out x) _, (HM.out.trans (m_mod _)).trans (m_mod _)⟩
  clear H1 HM HI HN
  go_wp2
  first | refine bodyPost_end (results_none rfl _ _ _) rfl ?_ | refine bodyPost_ret (results_none rfl _ _ _) rfl ?_
  exact ⟨⟨_, rfl⟩, FIN.out.1, FIN.out.2⟩
set_option maxRecDepth 10000 in
set_option maxHeartbeats 3200000 in
theorem do_add (zm : Nat) (p : Value) (D : GD) (st : Nat → Bool) (x : Int) (w : World) (ha0 : 0 ≤ D.at_) (ha1 : D.at_ ≤ 16) (hx : wordOK x) (hc : wordOK D.acc) (h : Row w zm 41 (mc p D st)) :
    Calls Try.prog 179 #[.pointer (some ⟨zm, 0, none⟩), .iface 229 (.agg #[.int .i64 x])] w fun e w' => (∃ u, e = .returned u) ∧ Row w' zm 41 (mc p { D with acc := (D.acc + x) % 65536, at_ := D.at_ + 1 } st) ∧ Mod (fun b => b = zm) w w' := by
  have H0 : Hid (Row w zm 41 (mc p D st)) := h
  have a1 := fun w => ta2_1 x w
  have a2 := fun w => ta2_2 x w
  go_enter Try.func179, Try.ntmps179
  have p1 : w.cell? ⟨zm, 1, none⟩ = some (.int .i64 D.at_) := (h.cell (i := 1) (by omega)).trans (by rw [mc_at])
  clear h
  go_upto_region 8 with fail
  have HA : Blw w (w.alloc (.cells #[.int .i64 x] 229)) := (Blw.refl _).alloc _
  have H1 : Hid (Row (w.alloc (.cells #[.int .i64 x] 229)) zm 41 (mc p D st)) := H0.out.blw HA
  have HM : Hid (Mod (fun b => b = zm) w (w.alloc (.cells #[.int .i64 x] 229))) := HA.mod _
  have HI : Hid ((w.alloc (.cells #[.int .i64 x] 229)).heap[w.heap.size]? = some (.cells #[.int .i64 x] 229 (0, 0))) := heap_alloc_new w _
  have HN : Hid (zm ≠ w.heap.size) := by have := H0.out.lt; show _ ≠ _; omega
  clear HA H0 p1 a1 a2
  generalize w.alloc (.cells #[.int .i64 x] 229) = w1 at *
  generalize w.heap.size = zi at *
  have hr : Int.tmod (D.acc + x) 65536 = (D.acc + x) % 65536 := Int.tmod_eq_emod_of_nonneg (by have := hx.1; have := hc.1; omega)
  have hx0 := hx.1; have hx1 := hx.2; have hc0 := hc.1; have hc1 := hc.2
  have hwr : IntKind.i64.wrap (D.acc + x) = D.acc + x := by rw [IntKind.wrap_i64]; omega
  replace H1 : Hid (Row w1.drew zm 41 (mc p D st)) := H1.out.blw (Blw.refl _).drew
  replace HM : Hid (Mod (fun b => b = zm) w w1.drew) := HM.out.trans ((Blw.refl w1).drew.mod _)
  have i0 : w1.drew.cell? ⟨zi, 0, none⟩ = some (.int .i64 x) := (Blw.refl w1).drew.cell (p := ⟨zi, 0, none⟩) (by have h9 := HI.out; simp [World.cell?, h9])
  have p1 : w1.drew.cell? ⟨zm, 1, none⟩ = some (.int .i64 D.at_) := H1.out.cell (i := 1) (by omega)
  have p2 : w1.drew.cell? ⟨zm, 2, none⟩ = some (.int .i64 D.acc) := H1.out.cell (i := 2) (by omega)
  have p31 : w1.drew.cell? ⟨zm, 31, none⟩ = some (.int .i64 (D.nt : Int)) := H1.out.cell (i := 31) (by omega)
  have p32 : w1.drew.cell? ⟨zm, 32, none⟩ = some (.bool D.d) := H1.out.cell (i := 32) (by omega)
  have f2 := H1.out.frozen 2
  have HX : Hid (Row (w1.drew.setCell ⟨zm, 2, none⟩ (.int .i64 ((D.acc + x) % 65536))) zm 41 (mc p { D with acc := (D.acc + x) % 65536 } st) ∧ Mod (fun b => b = zm) w (w1.drew.setCell ⟨zm, 2, none⟩ (.int .i64 ((D.acc + x) % 65536)))) := ⟨m_acc H1.out _, HM.out.trans (m_mod _)⟩
  clear H1 HM HN HI
  refine wp_region_noPanic ?_
  refine wp_region_held_drew (S := fun _ => True) (by kernel_rfl) trivial (fun hB => ?_)
  clear hB
  generalize w1.drew = wd at *
  refine wpAnyH_take (i := 0) (oi := { dst := some 33, op := Op.move (Operand.tmp 4), type := 209, pos := _, after := #[], guard := none }) (v := (.pointer (some ⟨zm, 1, none⟩))) rfl (by kernel_rfl) (by kernel_rfl) (by kernel_rfl) (fun _ _ _ h => h) (Or.inl ⟨by rfl, fun w' hS => by (try dsimp only at hS); go_simp⟩) trivial ?_
  simp only [Act.put, List.setIfInBounds_toArray, List.set_cons_zero, List.set_cons_succ]
  refine wpAnyH_take (i := 1) (oi := { dst := some 34, op := Op.move (Operand.tmp 4), type := 209, pos := _, after := #[], guard := none }) (v := (.pointer (some ⟨zm, 1, none⟩))) rfl (by kernel_rfl) (by kernel_rfl) (by kernel_rfl) (fun _ _ _ h => h) (Or.inl ⟨by rfl, fun w' hS => by (try dsimp only at hS); go_simp⟩) trivial ?_
  simp only [Act.put, List.setIfInBounds_toArray, List.set_cons_zero, List.set_cons_succ]
  refine wpAnyH_take (i := 5) (oi := { dst := some 38, op := Op.fieldAddr 229 (Operand.tmp 7) 0, type := 0, pos := _, after := #[], guard := none }) (v := (.pointer (some ⟨zi, 0, none⟩))) rfl (by kernel_rfl) (by kernel_rfl) (by kernel_rfl) (fun _ _ _ h => h) (Or.inl ⟨by rfl, fun w' hS => by (try dsimp only at hS); go_simp⟩) trivial ?_
  simp only [Act.put, List.setIfInBounds_toArray, List.set_cons_zero, List.set_cons_succ]
  refine wpAnyH_take (i := 2) (oi := { dst := some 35, op := Op.nilCheck (Operand.tmp 34), type := 0, pos := _, after := #[{ on := 1, ground := Ground.data }], guard := none }) (v := (.pointer (some ⟨zm, 1, none⟩))) rfl (by kernel_rfl) (by kernel_rfl) (by kernel_rfl) (fun _ _ _ h => h) (Or.inl ⟨by rfl, fun w' hS => by (try dsimp only at hS); go_simp⟩) trivial ?_
  simp only [Act.put, List.setIfInBounds_toArray, List.set_cons_zero, List.set_cons_succ]
  refine wpAnyH_take (i := 3) (oi := { dst := some 36, op := Op.fieldAddr 148 (Operand.tmp 35) 1, type := 0, pos := _, after := #[{ on := 2, ground := Ground.data }], guard := none }) (v := (.pointer (some ⟨zm, 2, none⟩))) rfl (by kernel_rfl) (by kernel_rfl) (by kernel_rfl) (fun _ _ _ h => h) (Or.inl ⟨by rfl, fun w' hS => by (try dsimp only at hS); go_simp⟩) trivial ?_
  simp only [Act.put, List.setIfInBounds_toArray, List.set_cons_zero, List.set_cons_succ]
  refine wpAnyH_ready (rs := [4, 6]) (by kernel_rfl) (by simp) ?_
  refine AllReadyH.cons (o := { dst := some 37, op := Op.load 3 (Operand.tmp 36), type := 3, pos := _, after := #[{ on := 3, ground := Ground.data }], guard := none }) rfl (fun K hK => ?_) (AllReadyH.cons (o := { dst := some 39, op := Op.load 3 (Operand.tmp 38), type := 3, pos := _, after := #[{ on := 5, ground := Ground.data }], guard := none }) rfl (fun K hK => ?_) AllReadyH.nil)
  · go_simp
    refine hK.out _ _ trivial (fun hB => ?_)
    clear hK K hB
    try simp only [Act.put, List.setIfInBounds_toArray, List.set_cons_zero, List.set_cons_succ]
    refine wpAnyH_ready (rs := [6]) (by kernel_rfl) (by simp) ?_
    refine AllReadyH.cons (o := { dst := some 39, op := Op.load 3 (Operand.tmp 38), type := 3, pos := _, after := #[{ on := 5, ground := Ground.data }], guard := none }) rfl (fun K hK => ?_) AllReadyH.nil
    go_simp
    refine hK.out _ _ trivial (fun hB => ?_)
    clear hK K hB
    try simp only [Act.put, List.setIfInBounds_toArray, List.set_cons_zero, List.set_cons_succ]
    refine wpAnyH_take (i := 7) (oi := { dst := some 40, op := Op.binOp BinOp.add 3 (Operand.tmp 37) (Operand.tmp 39) 3, type := 3, pos := _, after := #[{ on := 4, ground := Ground.data }, { on := 6, ground := Ground.data }], guard := none }) (v := (.int .i64 (D.acc + x))) rfl (by kernel_rfl) (by kernel_rfl) (by kernel_rfl) (fun _ _ _ h => h) (Or.inl ⟨by rfl, fun w' hS => by (try dsimp only at hS); go_simp⟩) trivial ?_
    simp only [Act.put, List.setIfInBounds_toArray, List.set_cons_zero, List.set_cons_succ]
    refine wpAnyH_take (i := 8) (oi := { dst := some 41, op := Op.binOp BinOp.rem 3 (Operand.tmp 40) (Operand.const (Value.int IntKind.i64 65536)) 3, type := 3, pos := _, after := #[{ on := 7, ground := Ground.data }], guard := none }) (v := (.int .i64 ((D.acc + x) % 65536))) rfl (by kernel_rfl) (by kernel_rfl) (by kernel_rfl) (fun _ _ _ h => h) (Or.inl ⟨by rfl, fun w' hS => by (try dsimp only at hS); go_simp⟩) trivial ?_
    simp only [Act.put, List.setIfInBounds_toArray, List.set_cons_zero, List.set_cons_succ]
    refine wpAnyH_take (i := 9) (oi := { dst := some 42, op := Op.nilCheck (Operand.tmp 33), type := 0, pos := _, after := #[{ on := 0, ground := Ground.data }, { on := 0, ground := Ground.phase }, { on := 1, ground := Ground.phase }, { on := 2, ground := Ground.phase }, { on := 3, ground := Ground.phase }, { on := 4, ground := Ground.phase }, { on := 5, ground := Ground.phase }, { on := 6, ground := Ground.phase }, { on := 7, ground := Ground.phase }, { on := 8, ground := Ground.phase }], guard := none }) (v := (.pointer (some ⟨zm, 1, none⟩))) rfl (by kernel_rfl) (by kernel_rfl) (by kernel_rfl) (fun _ _ _ h => h) (Or.inl ⟨by rfl, fun w' hS => by (try dsimp only at hS); go_simp⟩) trivial ?_
    simp only [Act.put, List.setIfInBounds_toArray, List.set_cons_zero, List.set_cons_succ]
    refine wpAnyH_take (i := 10) (oi := { dst := some 43, op := Op.fieldAddr 148 (Operand.tmp 42) 1, type := 0, pos := _, after := #[{ on := 9, ground := Ground.data }, { on := 0, ground := Ground.phase }, { on := 1, ground := Ground.phase }, { on := 2, ground := Ground.phase }, { on := 3, ground := Ground.phase }, { on := 4, ground := Ground.phase }, { on := 5, ground := Ground.phase }, { on := 6, ground := Ground.phase }, { on := 7, ground := Ground.phase }, { on := 8, ground := Ground.phase }], guard := none }) (v := (.pointer (some ⟨zm, 2, none⟩))) rfl (by kernel_rfl) (by kernel_rfl) (by kernel_rfl) (fun _ _ _ h => h) (Or.inl ⟨by rfl, fun w' hS => by (try dsimp only at hS); go_simp⟩) trivial ?_
    simp only [Act.put, List.setIfInBounds_toArray, List.set_cons_zero, List.set_cons_succ]
    refine wpAnyH_ready (rs := [11]) (by kernel_rfl) (by simp) ?_
    refine AllReadyH.cons (o := { dst := none, op := Op.store 3 (Operand.tmp 43) (Operand.tmp 41), type := 0, pos := _, after := #[{ on := 10, ground := Ground.data }, { on := 8, ground := Ground.data }, { on := 0, ground := Ground.phase }, { on := 1, ground := Ground.phase }, { on := 2, ground := Ground.phase }, { on := 3, ground := Ground.phase }, { on := 4, ground := Ground.phase }, { on := 5, ground := Ground.phase }, { on := 6, ground := Ground.phase }, { on := 7, ground := Ground.phase }, { on := 8, ground := Ground.phase }], guard := none }) rfl (fun K hK => ?_) AllReadyH.nil
    go_simp
    refine hK.out _ _ trivial (fun hB => ?_)
    clear hK K hB
    try simp only [Act.put, List.setIfInBounds_toArray, List.set_cons_zero, List.set_cons_succ]
    refine wpAnyH_done (by kernel_rfl) ?_ _
    refine NoPanic.normal ?_
    clear i0 p1 p2 p31 p32 f2 hr hwr hx0 hx1 hc0 hc1 hx hc
    generalize wd.setCell ⟨zm, 2, none⟩ (.int .i64 ((D.acc + x) % 65536)) = w2 at *
    have q1 : w2.cell? ⟨zm, 1, none⟩ = some (.int .i64 D.at_) := HX.out.1.cell (i := 1) (by omega)
    have g1 := HX.out.1.frozen 1
    have FIN : Hid (Row (w2.setCell ⟨zm, 1, none⟩ (.int .i64 (D.at_ + 1))) zm 41 (mc p { D with acc := (D.acc + x) % 65536, at_ := D.at_ + 1 } st) ∧ Mod (fun b => b = zm) w (w2.setCell ⟨zm, 1, none⟩ (.int .i64 (D.at_ + 1)))) := ⟨m_at HX.out.1 _, HX.out.2.trans (m_mod _)⟩
    clear HX
    go_wp2
    first | refine bodyPost_end (results_none rfl _ _ _) rfl ?_ | refine bodyPost_ret (results_none rfl _ _ _) rfl ?_
    exact ⟨⟨_, rfl⟩, FIN.out.1, FIN.out.2⟩
  · go_simp
    refine hK.out _ _ trivial (fun hB => ?_)
    clear hK K hB
    try simp only [Act.put, List.setIfInBounds_toArray, List.set_cons_zero, List.set_cons_succ]
    refine wpAnyH_ready (rs := [4]) (by kernel_rfl) (by simp) ?_
    refine AllReadyH.cons (o := { dst := some 37, op := Op.load 3 (Operand.tmp 36), type := 3, pos := _, after := #[{ on := 3, ground := Ground.data }], guard := none }) rfl (fun K hK => ?_) AllReadyH.nil
    go_simp
    refine hK.out _ _ trivial (fun hB => ?_)
    clear hK K hB
    try simp only [Act.put, List.setIfInBounds_toArray, List.set_cons_zero, List.set_cons_succ]
    refine wpAnyH_take (i := 7) (oi := { dst := some 40, op := Op.binOp BinOp.add 3 (Operand.tmp 37) (Operand.tmp 39) 3, type := 3, pos := _, after := #[{ on := 4, ground := Ground.data }, { on := 6, ground := Ground.data }], guard := none }) (v := (.int .i64 (D.acc + x))) rfl (by kernel_rfl) (by kernel_rfl) (by kernel_rfl) (fun _ _ _ h => h) (Or.inl ⟨by rfl, fun w' hS => by (try dsimp only at hS); go_simp⟩) trivial ?_
    simp only [Act.put, List.setIfInBounds_toArray, List.set_cons_zero, List.set_cons_succ]
    refine wpAnyH_take (i := 8) (oi := { dst := some 41, op := Op.binOp BinOp.rem 3 (Operand.tmp 40) (Operand.const (Value.int IntKind.i64 65536)) 3, type := 3, pos := _, after := #[{ on := 7, ground := Ground.data }], guard := none }) (v := (.int .i64 ((D.acc + x) % 65536))) rfl (by kernel_rfl) (by kernel_rfl) (by kernel_rfl) (fun _ _ _ h => h) (Or.inl ⟨by rfl, fun w' hS => by (try dsimp only at hS); go_simp⟩) trivial ?_
    simp only [Act.put, List.setIfInBounds_toArray, List.set_cons_zero, List.set_cons_succ]
    refine wpAnyH_take (i := 9) (oi := { dst := some 42, op := Op.nilCheck (Operand.tmp 33), type := 0, pos := _, after := #[{ on := 0, ground := Ground.data }, { on := 0, ground := Ground.phase }, { on := 1, ground := Ground.phase }, { on := 2, ground := Ground.phase }, { on := 3, ground := Ground.phase }, { on := 4, ground := Ground.phase }, { on := 5, ground := Ground.phase }, { on := 6, ground := Ground.phase }, { on := 7, ground := Ground.phase }, { on := 8, ground := Ground.phase }], guard := none }) (v := (.pointer (some ⟨zm, 1, none⟩))) rfl (by kernel_rfl) (by kernel_rfl) (by kernel_rfl) (fun _ _ _ h => h) (Or.inl ⟨by rfl, fun w' hS => by (try dsimp only at hS); go_simp⟩) trivial ?_
    simp only [Act.put, List.setIfInBounds_toArray, List.set_cons_zero, List.set_cons_succ]
    refine wpAnyH_take (i := 10) (oi := { dst := some 43, op := Op.fieldAddr 148 (Operand.tmp 42) 1, type := 0, pos := _, after := #[{ on := 9, ground := Ground.data }, { on := 0, ground := Ground.phase }, { on := 1, ground := Ground.phase }, { on := 2, ground := Ground.phase }, { on := 3, ground := Ground.phase }, { on := 4, ground := Ground.phase }, { on := 5, ground := Ground.phase }, { on := 6, ground := Ground.phase }, { on := 7, ground := Ground.phase }, { on := 8, ground := Ground.phase }], guard := none }) (v := (.pointer (some ⟨zm, 2, none⟩))) rfl (by kernel_rfl) (by kernel_rfl) (by kernel_rfl) (fun _ _ _ h => h) (Or.inl ⟨by rfl, fun w' hS => by (try dsimp only at hS); go_simp⟩) trivial ?_
    simp only [Act.put, List.setIfInBounds_toArray, List.set_cons_zero, List.set_cons_succ]
    refine wpAnyH_ready (rs := [11]) (by kernel_rfl) (by simp) ?_
    refine AllReadyH.cons (o := { dst := none, op := Op.store 3 (Operand.tmp 43) (Operand.tmp 41), type := 0, pos := _, after := #[{ on := 10, ground := Ground.data }, { on := 8, ground := Ground.data }, { on := 0, ground := Ground.phase }, { on := 1, ground := Ground.phase }, { on := 2, ground := Ground.phase }, { on := 3, ground := Ground.phase }, { on := 4, ground := Ground.phase }, { on := 5, ground := Ground.phase }, { on := 6, ground := Ground.phase }, { on := 7, ground := Ground.phase }, { on := 8, ground := Ground.phase }], guard := none }) rfl (fun K hK => ?_) AllReadyH.nil
    go_simp
    refine hK.out _ _ trivial (fun hB => ?_)
    clear hK K hB
    try simp only [Act.put, List.setIfInBounds_toArray, List.set_cons_zero, List.set_cons_succ]
    refine wpAnyH_done (by kernel_rfl) ?_ _
    refine NoPanic.normal ?_
    clear i0 p1 p2 p31 p32 f2 hr hwr hx0 hx1 hc0 hc1 hx hc
    generalize wd.setCell ⟨zm, 2, none⟩ (.int .i64 ((D.acc + x) % 65536)) = w2 at *
    have q1 : w2.cell? ⟨zm, 1, none⟩ = some (.int .i64 D.at_) := HX.out.1.cell (i := 1) (by omega)
    have g1 := HX.out.1.frozen 1
    have FIN : Hid (Row (w2.setCell ⟨zm, 1, none⟩ (.int .i64 (D.at_ + 1))) zm 41 (mc p { D with acc := (D.acc + x) % 65536, at_ := D.at_ + 1 } st) ∧ Mod (fun b => b = zm) w (w2.setCell ⟨zm, 1, none⟩ (.int .i64 (D.at_ + 1)))) := ⟨m_at HX.out.1 _, HX.out.2.trans (m_mod _)⟩
    clear HX
    go_wp2
    first | refine bodyPost_end (results_none rfl _ _ _) rfl ?_ | refine bodyPost_ret (results_none rfl _ _ _) rfl ?_
    exact ⟨⟨_, rfl⟩, FIN.out.1, FIN.out.2⟩
set_option maxRecDepth 10000 in
set_option maxHeartbeats 3200000 in
theorem do_load (zm : Nat) (p : Value) (D : GD) (st : Nat → Bool) (q : Nat) (w : World) (ha0 : 0 ≤ D.at_) (ha1 : D.at_ ≤ 16) (hq : q < 8) (h : Row w zm 41 (mc p D st)) :
    Calls Try.prog 179 #[.pointer (some ⟨zm, 0, none⟩), .iface 231 (.agg #[.int .i64 (q : Int)])] w fun e w' => (∃ u, e = .returned u) ∧ Row w' zm 41 (mc p { D with acc := D.c q, at_ := D.at_ + 1 } st) ∧ Mod (fun b => b = zm) w w' := by
  have H0 : Hid (Row w zm 41 (mc p D st)) := h
  have a1 := fun w => ta3_1 (q : Int) w
  have a2 := fun w => ta3_2 (q : Int) w
  have a3 := fun w => ta3_3 (q : Int) w
  go_enter Try.func179, Try.ntmps179
  have p1 : w.cell? ⟨zm, 1, none⟩ = some (.int .i64 D.at_) := (h.cell (i := 1) (by omega)).trans (by rw [mc_at])
  clear h
  go_upto_region 11 with fail
  have HA : Blw w (w.alloc (.cells #[.int .i64 (q : Int)] 231)) := (Blw.refl _).alloc _
  have H1 : Hid (Row (w.alloc (.cells #[.int .i64 (q : Int)] 231)) zm 41 (mc p D st)) := H0.out.blw HA
  have HM : Hid (Mod (fun b => b = zm) w (w.alloc (.cells #[.int .i64 (q : Int)] 231))) := HA.mod _
  have HI : Hid ((w.alloc (.cells #[.int .i64 (q : Int)] 231)).heap[w.heap.size]? = some (.cells #[.int .i64 (q : Int)] 231 (0, 0))) := heap_alloc_new w _
  have HN : Hid (zm ≠ w.heap.size) := by have := H0.out.lt; show _ ≠ _; omega
  clear HA H0 p1 a1 a2 a3
  generalize w.alloc (.cells #[.int .i64 (q : Int)] 231) = w1 at *
  generalize w.heap.size = zi at *
  replace H1 : Hid (Row w1.drew zm 41 (mc p D st)) := H1.out.blw (Blw.refl _).drew
  replace HM : Hid (Mod (fun b => b = zm) w w1.drew) := HM.out.trans ((Blw.refl w1).drew.mod _)
  have i0 : w1.drew.cell? ⟨zi, 0, none⟩ = some (.int .i64 (q : Int)) := (Blw.refl w1).drew.cell (p := ⟨zi, 0, none⟩) (by have h9 := HI.out; simp [World.cell?, h9])
  have p1 : w1.drew.cell? ⟨zm, 1, none⟩ = some (.int .i64 D.at_) := H1.out.cell (i := 1) (by omega)
  have p2 : w1.drew.cell? ⟨zm, 2, none⟩ = some (.int .i64 D.acc) := H1.out.cell (i := 2) (by omega)
  have p31 : w1.drew.cell? ⟨zm, 31, none⟩ = some (.int .i64 (D.nt : Int)) := H1.out.cell (i := 31) (by omega)
  have p32 : w1.drew.cell? ⟨zm, 32, none⟩ = some (.bool D.d) := H1.out.cell (i := 32) (by omega)
  have pq : w1.drew.cell? ⟨zm, 3 + q, none⟩ = some (.int .i64 (D.c q)) := (H1.out.cell (i := 3 + q) (by omega)).trans (by rw [mc_cell _ _ _ hq])
  have f2 := H1.out.frozen 2
  have hq' : (q : Int) < 8 := by omega
  have HX : Hid (Row (w1.drew.setCell ⟨zm, 2, none⟩ (.int .i64 (D.c q))) zm 41 (mc p { D with acc := D.c q } st) ∧ Mod (fun b => b = zm) w (w1.drew.setCell ⟨zm, 2, none⟩ (.int .i64 (D.c q)))) := ⟨m_acc H1.out _, HM.out.trans (m_mod _)⟩
  clear H1 HM HN HI
  refine wp_region_noPanic ?_
  refine wp_region_held_drew (S := fun _ => True) (by kernel_rfl) trivial (fun hB => ?_)
  clear hB
  generalize w1.drew = wd at *
  refine wpAnyH_take (i := 0) (oi := { dst := some 47, op := Op.move (Operand.tmp 4), type := 209, pos := _, after := #[], guard := none }) (v := (.pointer (some ⟨zm, 1, none⟩))) rfl (by kernel_rfl) (by kernel_rfl) (by kernel_rfl) (fun _ _ _ h => h) (Or.inl ⟨by rfl, fun w' hS => by (try dsimp only at hS); go_simp⟩) trivial ?_
  simp only [Act.put, List.setIfInBounds_toArray, List.set_cons_zero, List.set_cons_succ]
  refine wpAnyH_take (i := 1) (oi := { dst := some 48, op := Op.move (Operand.tmp 4), type := 209, pos := _, after := #[], guard := none }) (v := (.pointer (some ⟨zm, 1, none⟩))) rfl (by kernel_rfl) (by kernel_rfl) (by kernel_rfl) (fun _ _ _ h => h) (Or.inl ⟨by rfl, fun w' hS => by (try dsimp only at hS); go_simp⟩) trivial ?_
  simp only [Act.put, List.setIfInBounds_toArray, List.set_cons_zero, List.set_cons_succ]
  refine wpAnyH_take (i := 2) (oi := { dst := some 49, op := Op.fieldAddr 231 (Operand.tmp 8) 0, type := 0, pos := _, after := #[], guard := none }) (v := (.pointer (some ⟨zi, 0, none⟩))) rfl (by kernel_rfl) (by kernel_rfl) (by kernel_rfl) (fun _ _ _ h => h) (Or.inl ⟨by rfl, fun w' hS => by (try dsimp only at hS); go_simp⟩) trivial ?_
  simp only [Act.put, List.setIfInBounds_toArray, List.set_cons_zero, List.set_cons_succ]
  refine wpAnyH_take (i := 4) (oi := { dst := some 51, op := Op.nilCheck (Operand.tmp 48), type := 0, pos := _, after := #[{ on := 1, ground := Ground.data }], guard := none }) (v := (.pointer (some ⟨zm, 1, none⟩))) rfl (by kernel_rfl) (by kernel_rfl) (by kernel_rfl) (fun _ _ _ h => h) (Or.inl ⟨by rfl, fun w' hS => by (try dsimp only at hS); go_simp⟩) trivial ?_
  simp only [Act.put, List.setIfInBounds_toArray, List.set_cons_zero, List.set_cons_succ]
  refine wpAnyH_take (i := 5) (oi := { dst := some 52, op := Op.fieldAddr 148 (Operand.tmp 51) 2, type := 0, pos := _, after := #[{ on := 4, ground := Ground.data }], guard := none }) (v := (.pointer (some ⟨zm, 3, none⟩))) rfl (by kernel_rfl) (by kernel_rfl) (by kernel_rfl) (fun _ _ _ h => h) (Or.inl ⟨by rfl, fun w' hS => by (try dsimp only at hS); go_simp⟩) trivial ?_
  simp only [Act.put, List.setIfInBounds_toArray, List.set_cons_zero, List.set_cons_succ]
  refine wpAnyH_ready (rs := [3]) (by kernel_rfl) (by simp) ?_
  refine AllReadyH.cons (o := { dst := some 50, op := Op.load 3 (Operand.tmp 49), type := 3, pos := _, after := #[{ on := 2, ground := Ground.data }], guard := none }) rfl (fun K hK => ?_) AllReadyH.nil
  go_simp
  refine hK.out _ _ trivial (fun hB => ?_)
  clear hK K hB
  try simp only [Act.put, List.setIfInBounds_toArray, List.set_cons_zero, List.set_cons_succ]
  refine wpAnyH_take (i := 6) (oi := { dst := some 53, op := Op.indexAddr 145 (Operand.tmp 52) (Operand.tmp 50), type := 0, pos := _, after := #[{ on := 5, ground := Ground.data }, { on := 3, ground := Ground.data }], guard := none }) (v := (.pointer (some ⟨zm, 3 + q, none⟩))) rfl (by kernel_rfl) (by kernel_rfl) (by kernel_rfl) (fun _ _ _ h => h) (Or.inl ⟨by rfl, fun w' hS => by (try dsimp only at hS); go_simp⟩) trivial ?_
  simp only [Act.put, List.setIfInBounds_toArray, List.set_cons_zero, List.set_cons_succ]
  refine wpAnyH_ready (rs := [7]) (by kernel_rfl) (by simp) ?_
  refine AllReadyH.cons (o := { dst := some 54, op := Op.load 3 (Operand.tmp 53), type := 3, pos := _, after := #[{ on := 6, ground := Ground.data }], guard := none }) rfl (fun K hK => ?_) AllReadyH.nil
  go_simp
  refine hK.out _ _ trivial (fun hB => ?_)
  clear hK K hB
  try simp only [Act.put, List.setIfInBounds_toArray, List.set_cons_zero, List.set_cons_succ]
  refine wpAnyH_take (i := 8) (oi := { dst := some 55, op := Op.nilCheck (Operand.tmp 47), type := 0, pos := _, after := #[{ on := 0, ground := Ground.data }, { on := 0, ground := Ground.phase }, { on := 1, ground := Ground.phase }, { on := 2, ground := Ground.phase }, { on := 3, ground := Ground.phase }, { on := 4, ground := Ground.phase }, { on := 5, ground := Ground.phase }, { on := 6, ground := Ground.phase }, { on := 7, ground := Ground.phase }], guard := none }) (v := (.pointer (some ⟨zm, 1, none⟩))) rfl (by kernel_rfl) (by kernel_rfl) (by kernel_rfl) (fun _ _ _ h => h) (Or.inl ⟨by rfl, fun w' hS => by (try dsimp only at hS); go_simp⟩) trivial ?_
  simp only [Act.put, List.setIfInBounds_toArray, List.set_cons_zero, List.set_cons_succ]
  refine wpAnyH_take (i := 9) (oi := { dst := some 56, op := Op.fieldAddr 148 (Operand.tmp 55) 1, type := 0, pos := _, after := #[{ on := 8, ground := Ground.data }, { on := 0, ground := Ground.phase }, { on := 1, ground := Ground.phase }, { on := 2, ground := Ground.phase }, { on := 3, ground := Ground.phase }, { on := 4, ground := Ground.phase }, { on := 5, ground := Ground.phase }, { on := 6, ground := Ground.phase }, { on := 7, ground := Ground.phase }], guard := none }) (v := (.pointer (some ⟨zm, 2, none⟩))) rfl (by kernel_rfl) (by kernel_rfl) (by kernel_rfl) (fun _ _ _ h => h) (Or.inl ⟨by rfl, fun w' hS => by (try dsimp only at hS); go_simp⟩) trivial ?_
  simp only [Act.put, List.setIfInBounds_toArray, List.set_cons_zero, List.set_cons_succ]
  refine wpAnyH_ready (rs := [10]) (by kernel_rfl) (by simp) ?_
  refine AllReadyH.cons (o := { dst := none, op := Op.store 3 (Operand.tmp 56) (Operand.tmp 54), type := 0, pos := _, after := #[{ on := 9, ground := Ground.data }, { on := 7, ground := Ground.data }, { on := 0, ground := Ground.phase }, { on := 1, ground := Ground.phase }, { on := 2, ground := Ground.phase }, { on := 3, ground := Ground.phase }, { on := 4, ground := Ground.phase }, { on := 5, ground := Ground.phase }, { on := 6, ground := Ground.phase }, { on := 7, ground := Ground.phase }], guard := none }) rfl (fun K hK => ?_) AllReadyH.nil
  go_simp
  refine hK.out _ _ trivial (fun hB => ?_)
  clear hK K hB
  try simp only [Act.put, List.setIfInBounds_toArray, List.set_cons_zero, List.set_cons_succ]
  refine wpAnyH_done (by kernel_rfl) ?_ _
  refine NoPanic.normal ?_
  clear i0 p1 p2 p31 p32 f2 pq hq'
  generalize wd.setCell ⟨zm, 2, none⟩ (.int .i64 (D.c q)) = w2 at *
  have q1 : w2.cell? ⟨zm, 1, none⟩ = some (.int .i64 D.at_) := HX.out.1.cell (i := 1) (by omega)
  have g1 := HX.out.1.frozen 1
  have FIN : Hid (Row (w2.setCell ⟨zm, 1, none⟩ (.int .i64 (D.at_ + 1))) zm 41 (mc p { D with acc := D.c q, at_ := D.at_ + 1 } st) ∧ Mod (fun b => b = zm) w (w2.setCell ⟨zm, 1, none⟩ (.int .i64 (D.at_ + 1)))) := ⟨m_at HX.out.1 _, HX.out.2.trans (m_mod _)⟩
  clear HX
  go_wp2
  first | refine bodyPost_end (results_none rfl _ _ _) rfl ?_ | refine bodyPost_ret (results_none rfl _ _ _) rfl ?_
  exact ⟨⟨_, rfl⟩, FIN.out.1, FIN.out.2⟩
set_option maxRecDepth 10000 in
set_option maxHeartbeats 3200000 in
theorem do_store (zm : Nat) (p : Value) (D : GD) (st : Nat → Bool) (q : Nat) (w : World) (ha0 : 0 ≤ D.at_) (ha1 : D.at_ ≤ 16) (hq : q < 8) (h : Row w zm 41 (mc p D st)) :
    Calls Try.prog 179 #[.pointer (some ⟨zm, 0, none⟩), .iface 232 (.agg #[.int .i64 (q : Int)])] w fun e w' => (∃ u, e = .returned u) ∧ Row w' zm 41 (mc p { D with c := updI D.c q D.acc, at_ := D.at_ + 1 } (setS st q)) ∧ Mod (fun b => b = zm) w w' := by
  have H0 : Hid (Row w zm 41 (mc p D st)) := h
  have a1 := fun w => ta4_1 (q : Int) w
  have a2 := fun w => ta4_2 (q : Int) w
  have a3 := fun w => ta4_3 (q : Int) w
  have a4 := fun w => ta4_4 (q : Int) w
  go_enter Try.func179, Try.ntmps179
  have p1 : w.cell? ⟨zm, 1, none⟩ = some (.int .i64 D.at_) := (h.cell (i := 1) (by omega)).trans (by rw [mc_at])
  clear h
  go_upto_region 14 with fail
  have HA : Blw w (w.alloc (.cells #[.int .i64 (q : Int)] 232)) := (Blw.refl _).alloc _
  have H1 : Hid (Row (w.alloc (.cells #[.int .i64 (q : Int)] 232)) zm 41 (mc p D st)) := H0.out.blw HA
  have HM : Hid (Mod (fun b => b = zm) w (w.alloc (.cells #[.int .i64 (q : Int)] 232))) := HA.mod _
  have HI : Hid ((w.alloc (.cells #[.int .i64 (q : Int)] 232)).heap[w.heap.size]? = some (.cells #[.int .i64 (q : Int)] 232 (0, 0))) := heap_alloc_new w _
  have HN : Hid (zm ≠ w.heap.size) := by have := H0.out.lt; show _ ≠ _; omega
  clear HA H0 p1 a1 a2 a3 a4
  generalize w.alloc (.cells #[.int .i64 (q : Int)] 232) = w1 at *
  generalize w.heap.size = zi at *
  replace H1 : Hid (Row w1.drew zm 41 (mc p D st)) := H1.out.blw (Blw.refl _).drew
  replace HM : Hid (Mod (fun b => b = zm) w w1.drew) := HM.out.trans ((Blw.refl w1).drew.mod _)
  have i0 : w1.drew.cell? ⟨zi, 0, none⟩ = some (.int .i64 (q : Int)) := (Blw.refl w1).drew.cell (p := ⟨zi, 0, none⟩) (by have h9 := HI.out; simp [World.cell?, h9])
  have p1 : w1.drew.cell? ⟨zm, 1, none⟩ = some (.int .i64 D.at_) := H1.out.cell (i := 1) (by omega)
  have p2 : w1.drew.cell? ⟨zm, 2, none⟩ = some (.int .i64 D.acc) := H1.out.cell (i := 2) (by omega)
  have p31 : w1.drew.cell? ⟨zm, 31, none⟩ = some (.int .i64 (D.nt : Int)) := H1.out.cell (i := 31) (by omega)
  have p32 : w1.drew.cell? ⟨zm, 32, none⟩ = some (.bool D.d) := H1.out.cell (i := 32) (by omega)
  have pq : w1.drew.cell? ⟨zm, 3 + q, none⟩ = some (.int .i64 (D.c q)) := (H1.out.cell (i := 3 + q) (by omega)).trans (by rw [mc_cell _ _ _ hq])
  have fq := H1.out.frozen (3 + q)
  have hq' : (q : Int) < 8 := by omega
  have HX : Hid (Row (w1.drew.setCell ⟨zm, 3 + q, none⟩ (.int .i64 D.acc)) zm 41 (mc p { D with c := updI D.c q D.acc } st) ∧ Mod (fun b => b = zm) w (w1.drew.setCell ⟨zm, 3 + q, none⟩ (.int .i64 D.acc)) ∧ (w1.drew.setCell ⟨zm, 3 + q, none⟩ (.int .i64 D.acc)).cell? ⟨zi, 0, none⟩ = some (.int .i64 (q : Int))) := ⟨m_cell H1.out hq _, HM.out.trans (m_mod _), by have hn := HN.out; rw [World.cell?_setCell_other _ _ _ _ (fun e => hn (congrArg Addr.block e))]; exact i0⟩
  clear H1 HM HN HI
  refine wp_region_noPanic ?_
  refine wp_region_held_drew (S := fun _ => True) (by kernel_rfl) trivial (fun hB => ?_)
  clear hB
  generalize w1.drew = wd at *
  refine wpAnyH_take (i := 0) (oi := { dst := some 60, op := Op.move (Operand.tmp 4), type := 209, pos := _, after := #[], guard := none }) (v := (.pointer (some ⟨zm, 1, none⟩))) rfl (by kernel_rfl) (by kernel_rfl) (by kernel_rfl) (fun _ _ _ h => h) (Or.inl ⟨by rfl, fun w' hS => by (try dsimp only at hS); go_simp⟩) trivial ?_
  simp only [Act.put, List.setIfInBounds_toArray, List.set_cons_zero, List.set_cons_succ]
  refine wpAnyH_take (i := 1) (oi := { dst := some 61, op := Op.fieldAddr 232 (Operand.tmp 9) 0, type := 0, pos := _, after := #[], guard := none }) (v := (.pointer (some ⟨zi, 0, none⟩))) rfl (by kernel_rfl) (by kernel_rfl) (by kernel_rfl) (fun _ _ _ h => h) (Or.inl ⟨by rfl, fun w' hS => by (try dsimp only at hS); go_simp⟩) trivial ?_
  simp only [Act.put, List.setIfInBounds_toArray, List.set_cons_zero, List.set_cons_succ]
  refine wpAnyH_take (i := 3) (oi := { dst := some 63, op := Op.move (Operand.tmp 4), type := 209, pos := _, after := #[], guard := none }) (v := (.pointer (some ⟨zm, 1, none⟩))) rfl (by kernel_rfl) (by kernel_rfl) (by kernel_rfl) (fun _ _ _ h => h) (Or.inl ⟨by rfl, fun w' hS => by (try dsimp only at hS); go_simp⟩) trivial ?_
  simp only [Act.put, List.setIfInBounds_toArray, List.set_cons_zero, List.set_cons_succ]
  refine wpAnyH_take (i := 4) (oi := { dst := some 64, op := Op.nilCheck (Operand.tmp 63), type := 0, pos := _, after := #[{ on := 3, ground := Ground.data }], guard := none }) (v := (.pointer (some ⟨zm, 1, none⟩))) rfl (by kernel_rfl) (by kernel_rfl) (by kernel_rfl) (fun _ _ _ h => h) (Or.inl ⟨by rfl, fun w' hS => by (try dsimp only at hS); go_simp⟩) trivial ?_
  simp only [Act.put, List.setIfInBounds_toArray, List.set_cons_zero, List.set_cons_succ]
  refine wpAnyH_take (i := 7) (oi := { dst := some 67, op := Op.nilCheck (Operand.tmp 60), type := 0, pos := _, after := #[{ on := 0, ground := Ground.data }], guard := none }) (v := (.pointer (some ⟨zm, 1, none⟩))) rfl (by kernel_rfl) (by kernel_rfl) (by kernel_rfl) (fun _ _ _ h => h) (Or.inl ⟨by rfl, fun w' hS => by (try dsimp only at hS); go_simp⟩) trivial ?_
  simp only [Act.put, List.setIfInBounds_toArray, List.set_cons_zero, List.set_cons_succ]
  refine wpAnyH_take (i := 5) (oi := { dst := some 65, op := Op.fieldAddr 148 (Operand.tmp 64) 1, type := 0, pos := _, after := #[{ on := 4, ground := Ground.data }], guard := none }) (v := (.pointer (some ⟨zm, 2, none⟩))) rfl (by kernel_rfl) (by kernel_rfl) (by kernel_rfl) (fun _ _ _ h => h) (Or.inl ⟨by rfl, fun w' hS => by (try dsimp only at hS); go_simp⟩) trivial ?_
  simp only [Act.put, List.setIfInBounds_toArray, List.set_cons_zero, List.set_cons_succ]
  refine wpAnyH_take (i := 8) (oi := { dst := some 68, op := Op.fieldAddr 148 (Operand.tmp 67) 2, type := 0, pos := _, after := #[{ on := 7, ground := Ground.data }], guard := none }) (v := (.pointer (some ⟨zm, 3, none⟩))) rfl (by kernel_rfl) (by kernel_rfl) (by kernel_rfl) (fun _ _ _ h => h) (Or.inl ⟨by rfl, fun w' hS => by (try dsimp only at hS); go_simp⟩) trivial ?_
  simp only [Act.put, List.setIfInBounds_toArray, List.set_cons_zero, List.set_cons_succ]
  refine wpAnyH_ready (rs := [2, 6]) (by kernel_rfl) (by simp) ?_
  refine AllReadyH.cons (o := { dst := some 62, op := Op.load 3 (Operand.tmp 61), type := 3, pos := _, after := #[{ on := 1, ground := Ground.data }], guard := none }) rfl (fun K hK => ?_) (AllReadyH.cons (o := { dst := some 66, op := Op.load 3 (Operand.tmp 65), type := 3, pos := _, after := #[{ on := 5, ground := Ground.data }], guard := none }) rfl (fun K hK => ?_) AllReadyH.nil)
  · go_simp
    refine hK.out _ _ trivial (fun hB => ?_)
    clear hK K hB
    try simp only [Act.put, List.setIfInBounds_toArray, List.set_cons_zero, List.set_cons_succ]
    refine wpAnyH_ready (rs := [6]) (by kernel_rfl) (by simp) ?_
    refine AllReadyH.cons (o := { dst := some 66, op := Op.load 3 (Operand.tmp 65), type := 3, pos := _, after := #[{ on := 5, ground := Ground.data }], guard := none }) rfl (fun K hK => ?_) AllReadyH.nil
    go_simp
    refine hK.out _ _ trivial (fun hB => ?_)
    clear hK K hB
    try simp only [Act.put, List.setIfInBounds_toArray, List.set_cons_zero, List.set_cons_succ]
    refine wpAnyH_take (i := 9) (oi := { dst := some 69, op := Op.indexAddr 145 (Operand.tmp 68) (Operand.tmp 62), type := 0, pos := _, after := #[{ on := 8, ground := Ground.data }, { on := 2, ground := Ground.data }, { on := 0, ground := Ground.phase }, { on := 1, ground := Ground.phase }, { on := 2, ground := Ground.phase }, { on := 3, ground := Ground.phase }, { on := 4, ground := Ground.phase }, { on := 5, ground := Ground.phase }, { on := 6, ground := Ground.phase }], guard := none }) (v := (.pointer (some ⟨zm, 3 + q, none⟩))) rfl (by kernel_rfl) (by kernel_rfl) (by kernel_rfl) (fun _ _ _ h => h) (Or.inl ⟨by rfl, fun w' hS => by (try dsimp only at hS); go_simp⟩) trivial ?_
    simp only [Act.put, List.setIfInBounds_toArray, List.set_cons_zero, List.set_cons_succ]
    refine wpAnyH_ready (rs := [10]) (by kernel_rfl) (by simp) ?_
    refine AllReadyH.cons (o := { dst := none, op := Op.store 3 (Operand.tmp 69) (Operand.tmp 66), type := 0, pos := _, after := #[{ on := 9, ground := Ground.data }, { on := 6, ground := Ground.data }, { on := 0, ground := Ground.phase }, { on := 1, ground := Ground.phase }, { on := 2, ground := Ground.phase }, { on := 3, ground := Ground.phase }, { on := 4, ground := Ground.phase }, { on := 5, ground := Ground.phase }, { on := 6, ground := Ground.phase }], guard := none }) rfl (fun K hK => ?_) AllReadyH.nil
    go_simp
    refine hK.out _ _ trivial (fun hB => ?_)
    clear hK K hB
    try simp only [Act.put, List.setIfInBounds_toArray, List.set_cons_zero, List.set_cons_succ]
    refine wpAnyH_done (by kernel_rfl) ?_ _
    refine NoPanic.normal ?_
    clear i0 p1 p2 p31 p32 fq pq
    generalize wd.setCell ⟨zm, 3 + q, none⟩ (.int .i64 D.acc) = w2 at *
    go_upto_region 15 with fail
    have i0 : w2.drew.cell? ⟨zi, 0, none⟩ = some (.int .i64 (q : Int)) := (Blw.refl w2).drew.cell HX.out.2.2
    have HR2 : Hid (Row w2.drew zm 41 (mc p { D with c := updI D.c q D.acc } st)) := HX.out.1.blw (Blw.refl _).drew
    have ps : w2.drew.cell? ⟨zm, 33 + q, none⟩ = some (.bool (st q)) := (HR2.out.cell (i := 33 + q) (by omega)).trans (by rw [mc_st])
    have fs := HR2.out.frozen (33 + q)
    have HX2 : Hid (Row (w2.drew.setCell ⟨zm, 33 + q, none⟩ (.bool true)) zm 41 (mc p { D with c := updI D.c q D.acc } (setS st q)) ∧ Mod (fun b => b = zm) w (w2.drew.setCell ⟨zm, 33 + q, none⟩ (.bool true))) := ⟨m_st HR2.out q, (HX.out.2.1.trans ((Blw.refl w2).drew.mod _)).trans (m_mod _)⟩
    clear HX HR2
    refine wp_region_noPanic ?_
    refine wp_region_held_drew (S := fun _ => True) (by kernel_rfl) trivial (fun hB => ?_)
    clear hB
    generalize w2.drew = wd at *
    refine wpAnyH_take (i := 0) (oi := { dst := some 70, op := Op.move (Operand.tmp 0), type := 211, pos := _, after := #[], guard := none }) (v := (.pointer (some ⟨zm, 0, none⟩))) rfl (by kernel_rfl) (by kernel_rfl) (by kernel_rfl) (fun _ _ _ h => h) (Or.inl ⟨by rfl, fun w' hS => by (try dsimp only at hS); go_simp⟩) trivial ?_
    simp only [Act.put, List.setIfInBounds_toArray, List.set_cons_zero, List.set_cons_succ]
    refine wpAnyH_take (i := 1) (oi := { dst := some 71, op := Op.fieldAddr 232 (Operand.tmp 9) 0, type := 0, pos := _, after := #[], guard := none }) (v := (.pointer (some ⟨zi, 0, none⟩))) rfl (by kernel_rfl) (by kernel_rfl) (by kernel_rfl) (fun _ _ _ h => h) (Or.inl ⟨by rfl, fun w' hS => by (try dsimp only at hS); go_simp⟩) trivial ?_
    simp only [Act.put, List.setIfInBounds_toArray, List.set_cons_zero, List.set_cons_succ]
    refine wpAnyH_take (i := 3) (oi := { dst := some 73, op := Op.nilCheck (Operand.tmp 70), type := 0, pos := _, after := #[{ on := 0, ground := Ground.data }], guard := none }) (v := (.pointer (some ⟨zm, 0, none⟩))) rfl (by kernel_rfl) (by kernel_rfl) (by kernel_rfl) (fun _ _ _ h => h) (Or.inl ⟨by rfl, fun w' hS => by (try dsimp only at hS); go_simp⟩) trivial ?_
    simp only [Act.put, List.setIfInBounds_toArray, List.set_cons_zero, List.set_cons_succ]
    refine wpAnyH_take (i := 4) (oi := { dst := some 74, op := Op.fieldAddr 151 (Operand.tmp 73) 2, type := 0, pos := _, after := #[{ on := 3, ground := Ground.data }], guard := none }) (v := (.pointer (some ⟨zm, 33, none⟩))) rfl (by kernel_rfl) (by kernel_rfl) (by kernel_rfl) (fun _ _ _ h => h) (Or.inl ⟨by rfl, fun w' hS => by (try dsimp only at hS); go_simp⟩) trivial ?_
    simp only [Act.put, List.setIfInBounds_toArray, List.set_cons_zero, List.set_cons_succ]
    refine wpAnyH_ready (rs := [2]) (by kernel_rfl) (by simp) ?_
    refine AllReadyH.cons (o := { dst := some 72, op := Op.load 3 (Operand.tmp 71), type := 3, pos := _, after := #[{ on := 1, ground := Ground.data }], guard := none }) rfl (fun K hK => ?_) AllReadyH.nil
    go_simp
    refine hK.out _ _ trivial (fun hB => ?_)
    clear hK K hB
    try simp only [Act.put, List.setIfInBounds_toArray, List.set_cons_zero, List.set_cons_succ]
    refine wpAnyH_take (i := 5) (oi := { dst := some 75, op := Op.indexAddr 149 (Operand.tmp 74) (Operand.tmp 72), type := 0, pos := _, after := #[{ on := 4, ground := Ground.data }, { on := 2, ground := Ground.data }, { on := 0, ground := Ground.phase }, { on := 1, ground := Ground.phase }, { on := 2, ground := Ground.phase }], guard := none }) (v := (.pointer (some ⟨zm, 33 + q, none⟩))) rfl (by kernel_rfl) (by kernel_rfl) (by kernel_rfl) (fun _ _ _ h => h) (Or.inl ⟨by rfl, fun w' hS => by (try dsimp only at hS); go_simp⟩) trivial ?_
    simp only [Act.put, List.setIfInBounds_toArray, List.set_cons_zero, List.set_cons_succ]
    refine wpAnyH_ready (rs := [6]) (by kernel_rfl) (by simp) ?_
    refine AllReadyH.cons (o := { dst := none, op := Op.store 4 (Operand.tmp 75) (Operand.const (Value.bool true)), type := 0, pos := _, after := #[{ on := 5, ground := Ground.data }, { on := 0, ground := Ground.phase }, { on := 1, ground := Ground.phase }, { on := 2, ground := Ground.phase }], guard := none }) rfl (fun K hK => ?_) AllReadyH.nil
    go_simp
    refine hK.out _ _ trivial (fun hB => ?_)
    clear hK K hB
    try simp only [Act.put, List.setIfInBounds_toArray, List.set_cons_zero, List.set_cons_succ]
    refine wpAnyH_done (by kernel_rfl) ?_ _
    refine NoPanic.normal ?_
    clear i0 ps fs hq'
    generalize wd.setCell ⟨zm, 33 + q, none⟩ (.bool true) = w3 at *
    have q1 : w3.cell? ⟨zm, 1, none⟩ = some (.int .i64 D.at_) := HX2.out.1.cell (i := 1) (by omega)
    have g1 := HX2.out.1.frozen 1
    have FIN : Hid (Row (w3.setCell ⟨zm, 1, none⟩ (.int .i64 (D.at_ + 1))) zm 41 (mc p { D with c := updI D.c q D.acc, at_ := D.at_ + 1 } (setS st q)) ∧ Mod (fun b => b = zm) w (w3.setCell ⟨zm, 1, none⟩ (.int .i64 (D.at_ + 1)))) := ⟨m_at HX2.out.1 _, HX2.out.2.trans (m_mod _)⟩
    clear HX2
    go_wp2
    first | refine bodyPost_end (results_none rfl _ _ _) rfl ?_ | refine bodyPost_ret (results_none rfl _ _ _) rfl ?_
    exact ⟨⟨_, rfl⟩, FIN.out.1, FIN.out.2⟩
  · go_simp
    refine hK.out _ _ trivial (fun hB => ?_)
    clear hK K hB
    try simp only [Act.put, List.setIfInBounds_toArray, List.set_cons_zero, List.set_cons_succ]
    refine wpAnyH_ready (rs := [2]) (by kernel_rfl) (by simp) ?_
    refine AllReadyH.cons (o := { dst := some 62, op := Op.load 3 (Operand.tmp 61), type := 3, pos := _, after := #[{ on := 1, ground := Ground.data }], guard := none }) rfl (fun K hK => ?_) AllReadyH.nil
    go_simp
    refine hK.out _ _ trivial (fun hB => ?_)
    clear hK K hB
    try simp only [Act.put, List.setIfInBounds_toArray, List.set_cons_zero, List.set_cons_succ]
    refine wpAnyH_take (i := 9) (oi := { dst := some 69, op := Op.indexAddr 145 (Operand.tmp 68) (Operand.tmp 62), type := 0, pos := _, after := #[{ on := 8, ground := Ground.data }, { on := 2, ground := Ground.data }, { on := 0, ground := Ground.phase }, { on := 1, ground := Ground.phase }, { on := 2, ground := Ground.phase }, { on := 3, ground := Ground.phase }, { on := 4, ground := Ground.phase }, { on := 5, ground := Ground.phase }, { on := 6, ground := Ground.phase }], guard := none }) (v := (.pointer (some ⟨zm, 3 + q, none⟩))) rfl (by kernel_rfl) (by kernel_rfl) (by kernel_rfl) (fun _ _ _ h => h) (Or.inl ⟨by rfl, fun w' hS => by (try dsimp only at hS); go_simp⟩) trivial ?_
    simp only [Act.put, List.setIfInBounds_toArray, List.set_cons_zero, List.set_cons_succ]
    refine wpAnyH_ready (rs := [10]) (by kernel_rfl) (by simp) ?_
    refine AllReadyH.cons (o := { dst := none, op := Op.store 3 (Operand.tmp 69) (Operand.tmp 66), type := 0, pos := _, after := #[{ on := 9, ground := Ground.data }, { on := 6, ground := Ground.data }, { on := 0, ground := Ground.phase }, { on := 1, ground := Ground.phase }, { on := 2, ground := Ground.phase }, { on := 3, ground := Ground.phase }, { on := 4, ground := Ground.phase }, { on := 5, ground := Ground.phase }, { on := 6, ground := Ground.phase }], guard := none }) rfl (fun K hK => ?_) AllReadyH.nil
    go_simp
    refine hK.out _ _ trivial (fun hB => ?_)
    clear hK K hB
    try simp only [Act.put, List.setIfInBounds_toArray, List.set_cons_zero, List.set_cons_succ]
    refine wpAnyH_done (by kernel_rfl) ?_ _
    refine NoPanic.normal ?_
    clear i0 p1 p2 p31 p32 fq pq
    generalize wd.setCell ⟨zm, 3 + q, none⟩ (.int .i64 D.acc) = w2 at *
    go_upto_region 15 with fail
    have i0 : w2.drew.cell? ⟨zi, 0, none⟩ = some (.int .i64 (q : Int)) := (Blw.refl w2).drew.cell HX.out.2.2
    have HR2 : Hid (Row w2.drew zm 41 (mc p { D with c := updI D.c q D.acc } st)) := HX.out.1.blw (Blw.refl _).drew
    have ps : w2.drew.cell? ⟨zm, 33 + q, none⟩ = some (.bool (st q)) := (HR2.out.cell (i := 33 + q) (by omega)).trans (by rw [mc_st])
    have fs := HR2.out.frozen (33 + q)
    have HX2 : Hid (Row (w2.drew.setCell ⟨zm, 33 + q, none⟩ (.bool true)) zm 41 (mc p { D with c := updI D.c q D.acc } (setS st q)) ∧ Mod (fun b => b = zm) w (w2.drew.setCell ⟨zm, 33 + q, none⟩ (.bool true))) := ⟨m_st HR2.out q, (HX.out.2.1.trans ((Blw.refl w2).drew.mod _)).trans (m_mod _)⟩
    clear HX HR2
    refine wp_region_noPanic ?_
    refine wp_region_held_drew (S := fun _ => True) (by kernel_rfl) trivial (fun hB => ?_)
    clear hB
    generalize w2.drew = wd at *
    refine wpAnyH_take (i := 0) (oi := { dst := some 70, op := Op.move (Operand.tmp 0), type := 211, pos := _, after := #[], guard := none }) (v := (.pointer (some ⟨zm, 0, none⟩))) rfl (by kernel_rfl) (by kernel_rfl) (by kernel_rfl) (fun _ _ _ h => h) (Or.inl ⟨by rfl, fun w' hS => by (try dsimp only at hS); go_simp⟩) trivial ?_
    simp only [Act.put, List.setIfInBounds_toArray, List.set_cons_zero, List.set_cons_succ]
    refine wpAnyH_take (i := 1) (oi := { dst := some 71, op := Op.fieldAddr 232 (Operand.tmp 9) 0, type := 0, pos := _, after := #[], guard := none }) (v := (.pointer (some ⟨zi, 0, none⟩))) rfl (by kernel_rfl) (by kernel_rfl) (by kernel_rfl) (fun _ _ _ h => h) (Or.inl ⟨by rfl, fun w' hS => by (try dsimp only at hS); go_simp⟩) trivial ?_
    simp only [Act.put, List.setIfInBounds_toArray, List.set_cons_zero, List.set_cons_succ]
    refine wpAnyH_take (i := 3) (oi := { dst := some 73, op := Op.nilCheck (Operand.tmp 70), type := 0, pos := _, after := #[{ on := 0, ground := Ground.data }], guard := none }) (v := (.pointer (some ⟨zm, 0, none⟩))) rfl (by kernel_rfl) (by kernel_rfl) (by kernel_rfl) (fun _ _ _ h => h) (Or.inl ⟨by rfl, fun w' hS => by (try dsimp only at hS); go_simp⟩) trivial ?_
    simp only [Act.put, List.setIfInBounds_toArray, List.set_cons_zero, List.set_cons_succ]
    refine wpAnyH_take (i := 4) (oi := { dst := some 74, op := Op.fieldAddr 151 (Operand.tmp 73) 2, type := 0, pos := _, after := #[{ on := 3, ground := Ground.data }], guard := none }) (v := (.pointer (some ⟨zm, 33, none⟩))) rfl (by kernel_rfl) (by kernel_rfl) (by kernel_rfl) (fun _ _ _ h => h) (Or.inl ⟨by rfl, fun w' hS => by (try dsimp only at hS); go_simp⟩) trivial ?_
    simp only [Act.put, List.setIfInBounds_toArray, List.set_cons_zero, List.set_cons_succ]
    refine wpAnyH_ready (rs := [2]) (by kernel_rfl) (by simp) ?_
    refine AllReadyH.cons (o := { dst := some 72, op := Op.load 3 (Operand.tmp 71), type := 3, pos := _, after := #[{ on := 1, ground := Ground.data }], guard := none }) rfl (fun K hK => ?_) AllReadyH.nil
    go_simp
    refine hK.out _ _ trivial (fun hB => ?_)
    clear hK K hB
    try simp only [Act.put, List.setIfInBounds_toArray, List.set_cons_zero, List.set_cons_succ]
    refine wpAnyH_take (i := 5) (oi := { dst := some 75, op := Op.indexAddr 149 (Operand.tmp 74) (Operand.tmp 72), type := 0, pos := _, after := #[{ on := 4, ground := Ground.data }, { on := 2, ground := Ground.data }, { on := 0, ground := Ground.phase }, { on := 1, ground := Ground.phase }, { on := 2, ground := Ground.phase }], guard := none }) (v := (.pointer (some ⟨zm, 33 + q, none⟩))) rfl (by kernel_rfl) (by kernel_rfl) (by kernel_rfl) (fun _ _ _ h => h) (Or.inl ⟨by rfl, fun w' hS => by (try dsimp only at hS); go_simp⟩) trivial ?_
    simp only [Act.put, List.setIfInBounds_toArray, List.set_cons_zero, List.set_cons_succ]
    refine wpAnyH_ready (rs := [6]) (by kernel_rfl) (by simp) ?_
    refine AllReadyH.cons (o := { dst := none, op := Op.store 4 (Operand.tmp 75) (Operand.const (Value.bool true)), type := 0, pos := _, after := #[{ on := 5, ground := Ground.data }, { on := 0, ground := Ground.phase }, { on := 1, ground := Ground.phase }, { on := 2, ground := Ground.phase }], guard := none }) rfl (fun K hK => ?_) AllReadyH.nil
    go_simp
    refine hK.out _ _ trivial (fun hB => ?_)
    clear hK K hB
    try simp only [Act.put, List.setIfInBounds_toArray, List.set_cons_zero, List.set_cons_succ]
    refine wpAnyH_done (by kernel_rfl) ?_ _
    refine NoPanic.normal ?_
    clear i0 ps fs hq'
    generalize wd.setCell ⟨zm, 33 + q, none⟩ (.bool true) = w3 at *
    have q1 : w3.cell? ⟨zm, 1, none⟩ = some (.int .i64 D.at_) := HX2.out.1.cell (i := 1) (by omega)
    have g1 := HX2.out.1.frozen 1
    have FIN : Hid (Row (w3.setCell ⟨zm, 1, none⟩ (.int .i64 (D.at_ + 1))) zm 41 (mc p { D with c := updI D.c q D.acc, at_ := D.at_ + 1 } (setS st q)) ∧ Mod (fun b => b = zm) w (w3.setCell ⟨zm, 1, none⟩ (.int .i64 (D.at_ + 1)))) := ⟨m_at HX2.out.1 _, HX2.out.2.trans (m_mod _)⟩
    clear HX2
    go_wp2
    first | refine bodyPost_end (results_none rfl _ _ _) rfl ?_ | refine bodyPost_ret (results_none rfl _ _ _) rfl ?_
    exact ⟨⟨_, rfl⟩, FIN.out.1, FIN.out.2⟩
set_option maxRecDepth 10000 in
set_option maxHeartbeats 3200000 in
theorem do_jump (zm : Nat) (p : Value) (D : GD) (st : Nat → Bool) (x : Int) (w : World) (ha0 : 0 ≤ D.at_) (ha1 : D.at_ ≤ 16) (h0 : ¬ D.acc = 0) (h : Row w zm 41 (mc p D st)) :
    Calls Try.prog 179 #[.pointer (some ⟨zm, 0, none⟩), .iface 234 (.agg #[.int .i64 x])] w fun e w' => (∃ u, e = .returned u) ∧ Row w' zm 41 (mc p { D with at_ := x } st) ∧ Mod (fun b => b = zm) w w' := by
  have H0 : Hid (Row w zm 41 (mc p D st)) := h
  have a1 := fun w => ta5_1 x w
  have a2 := fun w => ta5_2 x w
  have a3 := fun w => ta5_3 x w
  have a4 := fun w => ta5_4 x w
  have a5 := fun w => ta5_5 x w
  go_enter Try.func179, Try.ntmps179
  have p1 : w.cell? ⟨zm, 1, none⟩ = some (.int .i64 D.at_) := (h.cell (i := 1) (by omega)).trans (by rw [mc_at])
  clear h
  go_upto_region 18 with fail
  have HA : Blw w (w.alloc (.cells #[.int .i64 x] 234)) := (Blw.refl _).alloc _
  have H1 : Hid (Row (w.alloc (.cells #[.int .i64 x] 234)) zm 41 (mc p D st)) := H0.out.blw HA
  have HM : Hid (Mod (fun b => b = zm) w (w.alloc (.cells #[.int .i64 x] 234))) := HA.mod _
  have HI : Hid ((w.alloc (.cells #[.int .i64 x] 234)).heap[w.heap.size]? = some (.cells #[.int .i64 x] 234 (0, 0))) := heap_alloc_new w _
  have HN : Hid (zm ≠ w.heap.size) := by have := H0.out.lt; show _ ≠ _; omega
  clear HA H0 p1 a1 a2 a3 a4 a5
  generalize w.alloc (.cells #[.int .i64 x] 234) = w1 at *
  generalize w.heap.size = zi at *
  have i0 : w1.cell? ⟨zi, 0, none⟩ = some (.int .i64 x) := by have h9 := HI.out; simp [World.cell?, h9]
  have p1 : w1.cell? ⟨zm, 1, none⟩ = some (.int .i64 D.at_) := H1.out.cell (i := 1) (by omega)
  have p2 : w1.cell? ⟨zm, 2, none⟩ = some (.int .i64 D.acc) := H1.out.cell (i := 2) (by omega)
  have p31 : w1.cell? ⟨zm, 31, none⟩ = some (.int .i64 (D.nt : Int)) := H1.out.cell (i := 31) (by omega)
  have p32 : w1.cell? ⟨zm, 32, none⟩ = some (.bool D.d) := H1.out.cell (i := 32) (by omega)
  have f1 := H1.out.frozen 1; have f2 := H1.out.frozen 2; have f32 := H1.out.frozen 32; have f31 := H1.out.frozen 31
  have d0 : (D.acc != 0) = true := by simp [h0]
  have FIN : Hid (Row (w1.setCell ⟨zm, 1, none⟩ (.int .i64 x)) zm 41 (mc p { D with at_ := x } st) ∧ Mod (fun b => b = zm) w (w1.setCell ⟨zm, 1, none⟩ (.int .i64 x))) := ⟨m_at H1.out _, HM.out.trans (m_mod _)⟩
  clear H1 HM HI HN h0
  go_wp2
  first | refine bodyPost_end (results_none rfl _ _ _) rfl ?_ | refine bodyPost_ret (results_none rfl _ _ _) rfl ?_
  exact ⟨⟨_, rfl⟩, FIN.out.1, FIN.out.2⟩
set_option maxRecDepth 10000 in
set_option maxHeartbeats 3200000 in
theorem do_stay (zm : Nat) (p : Value) (D : GD) (st : Nat → Bool) (x : Int) (w : World) (ha0 : 0 ≤ D.at_) (ha1 : D.at_ ≤ 16) (h0 : D.acc = 0) (h : Row w zm 41 (mc p D st)) :
    Calls Try.prog 179 #[.pointer (some ⟨zm, 0, none⟩), .iface 234 (.agg #[.int .i64 x])] w fun e w' => (∃ u, e = .returned u) ∧ Row w' zm 41 (mc p { D with at_ := D.at_ + 1 } st) ∧ Mod (fun b => b = zm) w w' := by
  have Hh0 : Hid (D.acc = 0) := h0
  clear h0
  have H0 : Hid (Row w zm 41 (mc p D st)) := h
  have a1 := fun w => ta5_1 x w
  have a2 := fun w => ta5_2 x w
  have a3 := fun w => ta5_3 x w
  have a4 := fun w => ta5_4 x w
  have a5 := fun w => ta5_5 x w
  go_enter Try.func179, Try.ntmps179
  have p1 : w.cell? ⟨zm, 1, none⟩ = some (.int .i64 D.at_) := (h.cell (i := 1) (by omega)).trans (by rw [mc_at])
  clear h
  go_upto_region 18 with fail
  have HA : Blw w (w.alloc (.cells #[.int .i64 x] 234)) := (Blw.refl _).alloc _
  have H1 : Hid (Row (w.alloc (.cells #[.int .i64 x] 234)) zm 41 (mc p D st)) := H0.out.blw HA
  have HM : Hid (Mod (fun b => b = zm) w (w.alloc (.cells #[.int .i64 x] 234))) := HA.mod _
  have HI : Hid ((w.alloc (.cells #[.int .i64 x] 234)).heap[w.heap.size]? = some (.cells #[.int .i64 x] 234 (0, 0))) := heap_alloc_new w _
  have HN : Hid (zm ≠ w.heap.size) := by have := H0.out.lt; show _ ≠ _; omega
  clear HA H0 p1 a1 a2 a3 a4 a5
  generalize w.alloc (.cells #[.int .i64 x] 234) = w1 at *
  generalize w.heap.size = zi at *
  have i0 : w1.cell? ⟨zi, 0, none⟩ = some (.int .i64 x) := by have h9 := HI.out; simp [World.cell?, h9]
  have p1 : w1.cell? ⟨zm, 1, none⟩ = some (.int .i64 D.at_) := H1.out.cell (i := 1) (by omega)
  have p2 : w1.cell? ⟨zm, 2, none⟩ = some (.int .i64 D.acc) := H1.out.cell (i := 2) (by omega)
  have p31 : w1.cell? ⟨zm, 31, none⟩ = some (.int .i64 (D.nt : Int)) := H1.out.cell (i := 31) (by omega)
  have p32 : w1.cell? ⟨zm, 32, none⟩ = some (.bool D.d) := H1.out.cell (i := 32) (by omega)
  have f1 := H1.out.frozen 1; have f2 := H1.out.frozen 2; have f32 := H1.out.frozen 32; have f31 := H1.out.frozen 31
  have d0 : (D.acc != 0) = false := by simp [Hh0.out]
  have FIN : Hid (Row (w1.setCell ⟨zm, 1, none⟩ (.int .i64 (D.at_ + 1))) zm 41 (mc p { D with at_ := D.at_ + 1 } st) ∧ Mod (fun b => b = zm) w (w1.setCell ⟨zm, 1, none⟩ (.int .i64 (D.at_ + 1)))) := ⟨m_at H1.out _, HM.out.trans (m_mod _)⟩
  clear H1 HM HI HN Hh0
  go_wp2
  first | refine bodyPost_end (results_none rfl _ _ _) rfl ?_ | refine bodyPost_ret (results_none rfl _ _ _) rfl ?_
  exact ⟨⟨_, rfl⟩, FIN.out.1, FIN.out.2⟩
set_option maxRecDepth 10000 in
set_option maxHeartbeats 3200000 in
theorem do_halt (zm : Nat) (p : Value) (D : GD) (st : Nat → Bool) (w : World) (ha0 : 0 ≤ D.at_) (ha1 : D.at_ ≤ 16) (h : Row w zm 41 (mc p D st)) :
    Calls Try.prog 179 #[.pointer (some ⟨zm, 0, none⟩), .iface 237 (.agg #[])] w fun e w' => (∃ u, e = .returned u) ∧ Row w' zm 41 (mc p { D with d := true } st) ∧ Mod (fun b => b = zm) w w' := by
  have H0 : Hid (Row w zm 41 (mc p D st)) := h
  have a1 := ta7_1
  have a2 := ta7_2
  have a3 := ta7_3
  have a4 := ta7_4
  have a5 := ta7_5
  have a6 := ta7_6
  have a7 := ta7_7
  go_enter Try.func179, Try.ntmps179
  have p1 : w.cell? ⟨zm, 1, none⟩ = some (.int .i64 D.at_) := (h.cell (i := 1) (by omega)).trans (by rw [mc_at])
  clear h
  go_upto_region 28 with fail
  have HA : Blw w (w.alloc (.cells #[] 237)) := (Blw.refl _).alloc _
  have H1 : Hid (Row (w.alloc (.cells #[] 237)) zm 41 (mc p D st)) := H0.out.blw HA
  have HM : Hid (Mod (fun b => b = zm) w (w.alloc (.cells #[] 237))) := HA.mod _
  have HI : Hid ((w.alloc (.cells #[] 237)).heap[w.heap.size]? = some (.cells #[] 237 (0, 0))) := heap_alloc_new w _
  have HN : Hid (zm ≠ w.heap.size) := by have := H0.out.lt; show _ ≠ _; omega
  clear HA H0 p1 a1 a2 a3 a4 a5 a6 a7
  generalize w.alloc (.cells #[] 237) = w1 at *
  generalize w.heap.size = zi at *
  have p1 : w1.cell? ⟨zm, 1, none⟩ = some (.int .i64 D.at_) := H1.out.cell (i := 1) (by omega)
  have p2 : w1.cell? ⟨zm, 2, none⟩ = some (.int .i64 D.acc) := H1.out.cell (i := 2) (by omega)
  have p31 : w1.cell? ⟨zm, 31, none⟩ = some (.int .i64 (D.nt : Int)) := H1.out.cell (i := 31) (by omega)
  have p32 : w1.cell? ⟨zm, 32, none⟩ = some (.bool D.d) := H1.out.cell (i := 32) (by omega)
  have f1 := H1.out.frozen 1; have f2 := H1.out.frozen 2; have f32 := H1.out.frozen 32; have f31 := H1.out.frozen 31
  have FIN : Hid (Row (w1.setCell ⟨zm, 32, none⟩ (.bool true)) zm 41 (mc p { D with d := true } st) ∧ Mod (fun b => b = zm) w (w1.setCell ⟨zm, 32, none⟩ (.bool true))) := ⟨m_done H1.out, HM.out.trans (m_mod _)⟩
  clear H1 HM HI HN
  go_wp2
  first | refine bodyPost_end (results_none rfl _ _ _) rfl ?_ | refine bodyPost_ret (results_none rfl _ _ _) rfl ?_
  exact ⟨⟨_, rfl⟩, FIN.out.1, FIN.out.2⟩
set_option maxRecDepth 10000 in
set_option maxHeartbeats 3200000 in
theorem do_full (zm : Nat) (p : Value) (D : GD) (st : Nat → Bool) (w : World) (ha0 : 0 ≤ D.at_) (ha1 : D.at_ ≤ 16) (h20 : D.nt = 20) (h : Row w zm 41 (mc p D st)) :
    Calls Try.prog 179 #[.pointer (some ⟨zm, 0, none⟩), .iface 236 (.agg #[])] w fun e w' => (∃ u, e = .returned u) ∧ Row w' zm 41 (mc p { D with d := true } st) ∧ Mod (fun b => b = zm) w w' := by
  have Hh20 : Hid (D.nt = 20) := h20
  clear h20
  have H0 : Hid (Row w zm 41 (mc p D st)) := h
  have a1 := ta6_1
  have a2 := ta6_2
  have a3 := ta6_3
  have a4 := ta6_4
  have a5 := ta6_5
  have a6 := ta6_6
  go_enter Try.func179, Try.ntmps179
  have p1 : w.cell? ⟨zm, 1, none⟩ = some (.int .i64 D.at_) := (h.cell (i := 1) (by omega)).trans (by rw [mc_at])
  clear h
  go_upto_region 22 with fail
  have HA : Blw w (w.alloc (.cells #[] 236)) := (Blw.refl _).alloc _
  have H1 : Hid (Row (w.alloc (.cells #[] 236)) zm 41 (mc p D st)) := H0.out.blw HA
  have HM : Hid (Mod (fun b => b = zm) w (w.alloc (.cells #[] 236))) := HA.mod _
  have HI : Hid ((w.alloc (.cells #[] 236)).heap[w.heap.size]? = some (.cells #[] 236 (0, 0))) := heap_alloc_new w _
  have HN : Hid (zm ≠ w.heap.size) := by have := H0.out.lt; show _ ≠ _; omega
  clear HA H0 p1 a1 a2 a3 a4 a5 a6
  generalize w.alloc (.cells #[] 236) = w1 at *
  generalize w.heap.size = zi at *
  have p1 : w1.cell? ⟨zm, 1, none⟩ = some (.int .i64 D.at_) := H1.out.cell (i := 1) (by omega)
  have p2 : w1.cell? ⟨zm, 2, none⟩ = some (.int .i64 D.acc) := H1.out.cell (i := 2) (by omega)
  have p31 : w1.cell? ⟨zm, 31, none⟩ = some (.int .i64 (D.nt : Int)) := H1.out.cell (i := 31) (by omega)
  have p32 : w1.cell? ⟨zm, 32, none⟩ = some (.bool D.d) := H1.out.cell (i := 32) (by omega)
  have f1 := H1.out.frozen 1; have f2 := H1.out.frozen 2; have f32 := H1.out.frozen 32; have f31 := H1.out.frozen 31
  have d20 : ((D.nt : Int) == 20) = true := by simp [Hh20.out]
  have FIN : Hid (Row (w1.setCell ⟨zm, 32, none⟩ (.bool true)) zm 41 (mc p { D with d := true } st) ∧ Mod (fun b => b = zm) w (w1.setCell ⟨zm, 32, none⟩ (.bool true))) := ⟨m_done H1.out, HM.out.trans (m_mod _)⟩
  clear H1 HM HI HN Hh20
  go_wp2
  first | refine bodyPost_end (results_none rfl _ _ _) rfl ?_ | refine bodyPost_ret (results_none rfl _ _ _) rfl ?_
  exact ⟨⟨_, rfl⟩, FIN.out.1, FIN.out.2⟩
set_option maxRecDepth 10000 in
set_option maxHeartbeats 3200000 in
theorem do_tell (zm : Nat) (p : Value) (D : GD) (st : Nat → Bool) (w : World) (ha0 : 0 ≤ D.at_) (ha1 : D.at_ ≤ 16) (h20 : D.nt < 20) (h : Row w zm 41 (mc p D st)) :
    Calls Try.prog 179 #[.pointer (some ⟨zm, 0, none⟩), .iface 236 (.agg #[])] w fun e w' => (∃ u, e = .returned u) ∧ Row w' zm 41 (mc p { D with nt := D.nt + 1, t := updI D.t D.nt D.acc, at_ := D.at_ + 1 } st) ∧ Mod (fun b => b = zm) w w' := by
  have H0 : Hid (Row w zm 41 (mc p D st)) := h
  have a1 := ta6_1
  have a2 := ta6_2
  have a3 := ta6_3
  have a4 := ta6_4
  have a5 := ta6_5
  have a6 := ta6_6
  go_enter Try.func179, Try.ntmps179
  have p1 : w.cell? ⟨zm, 1, none⟩ = some (.int .i64 D.at_) := (h.cell (i := 1) (by omega)).trans (by rw [mc_at])
  clear h
  go_upto_region 22 with fail
  have HA : Blw w (w.alloc (.cells #[] 236)) := (Blw.refl _).alloc _
  have H1 : Hid (Row (w.alloc (.cells #[] 236)) zm 41 (mc p D st)) := H0.out.blw HA
  have HM : Hid (Mod (fun b => b = zm) w (w.alloc (.cells #[] 236))) := HA.mod _
  have HI : Hid ((w.alloc (.cells #[] 236)).heap[w.heap.size]? = some (.cells #[] 236 (0, 0))) := heap_alloc_new w _
  have HN : Hid (zm ≠ w.heap.size) := by have := H0.out.lt; show _ ≠ _; omega
  clear HA H0 p1 a1 a2 a3 a4 a5 a6
  generalize w.alloc (.cells #[] 236) = w1 at *
  generalize w.heap.size = zi at *
  have p1 : w1.cell? ⟨zm, 1, none⟩ = some (.int .i64 D.at_) := H1.out.cell (i := 1) (by omega)
  have p2 : w1.cell? ⟨zm, 2, none⟩ = some (.int .i64 D.acc) := H1.out.cell (i := 2) (by omega)
  have p31 : w1.cell? ⟨zm, 31, none⟩ = some (.int .i64 (D.nt : Int)) := H1.out.cell (i := 31) (by omega)
  have p32 : w1.cell? ⟨zm, 32, none⟩ = some (.bool D.d) := H1.out.cell (i := 32) (by omega)
  have d20 : ((D.nt : Int) == 20) = false := by simp; omega
  go_upto_region 24 with fail
  clear p1 p2 p31 p32 d20
  replace H1 : Hid (Row w1.drew zm 41 (mc p D st)) := H1.out.blw (Blw.refl _).drew
  replace HM : Hid (Mod (fun b => b = zm) w w1.drew) := HM.out.trans ((Blw.refl w1).drew.mod _)
  have p1 : w1.drew.cell? ⟨zm, 1, none⟩ = some (.int .i64 D.at_) := H1.out.cell (i := 1) (by omega)
  have p2 : w1.drew.cell? ⟨zm, 2, none⟩ = some (.int .i64 D.acc) := H1.out.cell (i := 2) (by omega)
  have p31 : w1.drew.cell? ⟨zm, 31, none⟩ = some (.int .i64 (D.nt : Int)) := H1.out.cell (i := 31) (by omega)
  have p32 : w1.drew.cell? ⟨zm, 32, none⟩ = some (.bool D.d) := H1.out.cell (i := 32) (by omega)
  have pt : w1.drew.cell? ⟨zm, 11 + D.nt, none⟩ = some (.int .i64 (tz D D.nt)) := (H1.out.cell (i := 11 + D.nt) (by omega)).trans (by rw [mc_told _ _ _ h20])
  have ft := H1.out.frozen (11 + D.nt)
  have hnt : (D.nt : Int) < 20 := by omega
  have hr0 := H1.out.set (11 + D.nt) (.int .i64 D.acc)
  have HX : Hid (Row (w1.drew.setCell ⟨zm, 11 + D.nt, none⟩ (.int .i64 D.acc)) zm 41 (fun j => if j = 11 + D.nt then .int .i64 D.acc else mc p D st j) ∧ Mod (fun b => b = zm) w (w1.drew.setCell ⟨zm, 11 + D.nt, none⟩ (.int .i64 D.acc)) ∧ Row ((w1.drew.setCell ⟨zm, 11 + D.nt, none⟩ (.int .i64 D.acc)).setCell ⟨zm, 31, none⟩ (.int .i64 ((D.nt : Int) + 1))) zm 41 (mc p { D with nt := D.nt + 1, t := updI D.t D.nt D.acc } st)) := ⟨hr0, HM.out.trans (m_mod _), m_tell H1.out h20 _⟩
  clear H1 HM HN HI hr0
  refine wp_region_noPanic ?_
  refine wp_region_held_drew (S := fun _ => True) (by kernel_rfl) trivial (fun hB => ?_)
  clear hB
  generalize w1.drew = wd at *
  refine wpAnyH_take (i := 0) (oi := { dst := some 97, op := Op.move (Operand.tmp 4), type := 209, pos := _, after := #[], guard := none }) (v := (.pointer (some ⟨zm, 1, none⟩))) rfl (by kernel_rfl) (by kernel_rfl) (by kernel_rfl) (fun _ _ _ h => h) (Or.inl ⟨by rfl, fun w' hS => by (try dsimp only at hS); go_simp⟩) trivial ?_
  simp only [Act.put, List.setIfInBounds_toArray, List.set_cons_zero, List.set_cons_succ]
  refine wpAnyH_take (i := 1) (oi := { dst := some 98, op := Op.move (Operand.tmp 4), type := 209, pos := _, after := #[], guard := none }) (v := (.pointer (some ⟨zm, 1, none⟩))) rfl (by kernel_rfl) (by kernel_rfl) (by kernel_rfl) (fun _ _ _ h => h) (Or.inl ⟨by rfl, fun w' hS => by (try dsimp only at hS); go_simp⟩) trivial ?_
  simp only [Act.put, List.setIfInBounds_toArray, List.set_cons_zero, List.set_cons_succ]
  refine wpAnyH_take (i := 5) (oi := { dst := some 102, op := Op.move (Operand.tmp 4), type := 209, pos := _, after := #[], guard := none }) (v := (.pointer (some ⟨zm, 1, none⟩))) rfl (by kernel_rfl) (by kernel_rfl) (by kernel_rfl) (fun _ _ _ h => h) (Or.inl ⟨by rfl, fun w' hS => by (try dsimp only at hS); go_simp⟩) trivial ?_
  simp only [Act.put, List.setIfInBounds_toArray, List.set_cons_zero, List.set_cons_succ]
  refine wpAnyH_take (i := 2) (oi := { dst := some 99, op := Op.nilCheck (Operand.tmp 98), type := 0, pos := _, after := #[{ on := 1, ground := Ground.data }], guard := none }) (v := (.pointer (some ⟨zm, 1, none⟩))) rfl (by kernel_rfl) (by kernel_rfl) (by kernel_rfl) (fun _ _ _ h => h) (Or.inl ⟨by rfl, fun w' hS => by (try dsimp only at hS); go_simp⟩) trivial ?_
  simp only [Act.put, List.setIfInBounds_toArray, List.set_cons_zero, List.set_cons_succ]
  refine wpAnyH_take (i := 6) (oi := { dst := some 103, op := Op.nilCheck (Operand.tmp 102), type := 0, pos := _, after := #[{ on := 5, ground := Ground.data }], guard := none }) (v := (.pointer (some ⟨zm, 1, none⟩))) rfl (by kernel_rfl) (by kernel_rfl) (by kernel_rfl) (fun _ _ _ h => h) (Or.inl ⟨by rfl, fun w' hS => by (try dsimp only at hS); go_simp⟩) trivial ?_
  simp only [Act.put, List.setIfInBounds_toArray, List.set_cons_zero, List.set_cons_succ]
  refine wpAnyH_take (i := 9) (oi := { dst := some 106, op := Op.nilCheck (Operand.tmp 97), type := 0, pos := _, after := #[{ on := 0, ground := Ground.data }], guard := none }) (v := (.pointer (some ⟨zm, 1, none⟩))) rfl (by kernel_rfl) (by kernel_rfl) (by kernel_rfl) (fun _ _ _ h => h) (Or.inl ⟨by rfl, fun w' hS => by (try dsimp only at hS); go_simp⟩) trivial ?_
  simp only [Act.put, List.setIfInBounds_toArray, List.set_cons_zero, List.set_cons_succ]
  refine wpAnyH_take (i := 3) (oi := { dst := some 100, op := Op.fieldAddr 148 (Operand.tmp 99) 4, type := 0, pos := _, after := #[{ on := 2, ground := Ground.data }], guard := none }) (v := (.pointer (some ⟨zm, 31, none⟩))) rfl (by kernel_rfl) (by kernel_rfl) (by kernel_rfl) (fun _ _ _ h => h) (Or.inl ⟨by rfl, fun w' hS => by (try dsimp only at hS); go_simp⟩) trivial ?_
  simp only [Act.put, List.setIfInBounds_toArray, List.set_cons_zero, List.set_cons_succ]
  refine wpAnyH_take (i := 7) (oi := { dst := some 104, op := Op.fieldAddr 148 (Operand.tmp 103) 1, type := 0, pos := _, after := #[{ on := 6, ground := Ground.data }], guard := none }) (v := (.pointer (some ⟨zm, 2, none⟩))) rfl (by kernel_rfl) (by kernel_rfl) (by kernel_rfl) (fun _ _ _ h => h) (Or.inl ⟨by rfl, fun w' hS => by (try dsimp only at hS); go_simp⟩) trivial ?_
  simp only [Act.put, List.setIfInBounds_toArray, List.set_cons_zero, List.set_cons_succ]
  refine wpAnyH_take (i := 10) (oi := { dst := some 107, op := Op.fieldAddr 148 (Operand.tmp 106) 3, type := 0, pos := _, after := #[{ on := 9, ground := Ground.data }], guard := none }) (v := (.pointer (some ⟨zm, 11, none⟩))) rfl (by kernel_rfl) (by kernel_rfl) (by kernel_rfl) (fun _ _ _ h => h) (Or.inl ⟨by rfl, fun w' hS => by (try dsimp only at hS); go_simp⟩) trivial ?_
  simp only [Act.put, List.setIfInBounds_toArray, List.set_cons_zero, List.set_cons_succ]
  refine wpAnyH_ready (rs := [4, 8]) (by kernel_rfl) (by simp) ?_
  refine AllReadyH.cons (o := { dst := some 101, op := Op.load 3 (Operand.tmp 100), type := 3, pos := _, after := #[{ on := 3, ground := Ground.data }], guard := none }) rfl (fun K hK => ?_) (AllReadyH.cons (o := { dst := some 105, op := Op.load 3 (Operand.tmp 104), type := 3, pos := _, after := #[{ on := 7, ground := Ground.data }], guard := none }) rfl (fun K hK => ?_) AllReadyH.nil)
  · go_simp
    refine hK.out _ _ trivial (fun hB => ?_)
    clear hK K hB
    try simp only [Act.put, List.setIfInBounds_toArray, List.set_cons_zero, List.set_cons_succ]
    refine wpAnyH_ready (rs := [8]) (by kernel_rfl) (by simp) ?_
    refine AllReadyH.cons (o := { dst := some 105, op := Op.load 3 (Operand.tmp 104), type := 3, pos := _, after := #[{ on := 7, ground := Ground.data }], guard := none }) rfl (fun K hK => ?_) AllReadyH.nil
    go_simp
    refine hK.out _ _ trivial (fun hB => ?_)
    clear hK K hB
    try simp only [Act.put, List.setIfInBounds_toArray, List.set_cons_zero, List.set_cons_succ]
    refine wpAnyH_take (i := 11) (oi := { dst := some 108, op := Op.indexAddr 146 (Operand.tmp 107) (Operand.tmp 101), type := 0, pos := _, after := #[{ on := 10, ground := Ground.data }, { on := 4, ground := Ground.data }, { on := 0, ground := Ground.phase }, { on := 1, ground := Ground.phase }, { on := 2, ground := Ground.phase }, { on := 3, ground := Ground.phase }, { on := 4, ground := Ground.phase }, { on := 5, ground := Ground.phase }, { on := 6, ground := Ground.phase }, { on := 7, ground := Ground.phase }, { on := 8, ground := Ground.phase }], guard := none }) (v := (.pointer (some ⟨zm, 11 + D.nt, none⟩))) rfl (by kernel_rfl) (by kernel_rfl) (by kernel_rfl) (fun _ _ _ h => h) (Or.inl ⟨by rfl, fun w' hS => by (try dsimp only at hS); go_simp⟩) trivial ?_
    simp only [Act.put, List.setIfInBounds_toArray, List.set_cons_zero, List.set_cons_succ]
    refine wpAnyH_ready (rs := [12]) (by kernel_rfl) (by simp) ?_
    refine AllReadyH.cons (o := { dst := none, op := Op.store 3 (Operand.tmp 108) (Operand.tmp 105), type := 0, pos := _, after := #[{ on := 11, ground := Ground.data }, { on := 8, ground := Ground.data }, { on := 0, ground := Ground.phase }, { on := 1, ground := Ground.phase }, { on := 2, ground := Ground.phase }, { on := 3, ground := Ground.phase }, { on := 4, ground := Ground.phase }, { on := 5, ground := Ground.phase }, { on := 6, ground := Ground.phase }, { on := 7, ground := Ground.phase }, { on := 8, ground := Ground.phase }], guard := none }) rfl (fun K hK => ?_) AllReadyH.nil
    go_simp
    refine hK.out _ _ trivial (fun hB => ?_)
    clear hK K hB
    try simp only [Act.put, List.setIfInBounds_toArray, List.set_cons_zero, List.set_cons_succ]
    refine wpAnyH_done (by kernel_rfl) ?_ _
    refine NoPanic.normal ?_
    clear p1 p2 p31 p32 pt ft
    generalize wd.setCell ⟨zm, 11 + D.nt, none⟩ (.int .i64 D.acc) = w2 at *
    have r31 : w2.cell? ⟨zm, 31, none⟩ = some (.int .i64 (D.nt : Int)) := (HX.out.1.cell (i := 31) (by omega)).trans (by rw [if_neg (by omega), mc_many])
    have g31 := HX.out.1.frozen 31
    go_upto_region 29 with fail
    clear r31 g31
    have HX3 : Hid (Row (w2.setCell ⟨zm, 31, none⟩ (.int .i64 ((D.nt : Int) + 1))) zm 41 (mc p { D with nt := D.nt + 1, t := updI D.t D.nt D.acc } st) ∧ Mod (fun b => b = zm) w (w2.setCell ⟨zm, 31, none⟩ (.int .i64 ((D.nt : Int) + 1)))) := ⟨HX.out.2.2, HX.out.2.1.trans (m_mod _)⟩
    clear HX
    generalize w2.setCell ⟨zm, 31, none⟩ (.int .i64 ((D.nt : Int) + 1)) = w3 at *
    have q1 : w3.cell? ⟨zm, 1, none⟩ = some (.int .i64 D.at_) := HX3.out.1.cell (i := 1) (by omega)
    have g1 := HX3.out.1.frozen 1
    have FIN : Hid (Row (w3.setCell ⟨zm, 1, none⟩ (.int .i64 (D.at_ + 1))) zm 41 (mc p { D with nt := D.nt + 1, t := updI D.t D.nt D.acc, at_ := D.at_ + 1 } st) ∧ Mod (fun b => b = zm) w (w3.setCell ⟨zm, 1, none⟩ (.int .i64 (D.at_ + 1)))) := ⟨m_at HX3.out.1 _, HX3.out.2.trans (m_mod _)⟩
    clear HX3
    go_wp2
    first | refine bodyPost_end (results_none rfl _ _ _) rfl ?_ | refine bodyPost_ret (results_none rfl _ _ _) rfl ?_
    exact ⟨⟨_, rfl⟩, FIN.out.1, FIN.out.2⟩
  · go_simp
    refine hK.out _ _ trivial (fun hB => ?_)
    clear hK K hB
    try simp only [Act.put, List.setIfInBounds_toArray, List.set_cons_zero, List.set_cons_succ]
    refine wpAnyH_ready (rs := [4]) (by kernel_rfl) (by simp) ?_
    refine AllReadyH.cons (o := { dst := some 101, op := Op.load 3 (Operand.tmp 100), type := 3, pos := _, after := #[{ on := 3, ground := Ground.data }], guard := none }) rfl (fun K hK => ?_) AllReadyH.nil
    go_simp
    refine hK.out _ _ trivial (fun hB => ?_)
    clear hK K hB
    try simp only [Act.put, List.setIfInBounds_toArray, List.set_cons_zero, List.set_cons_succ]
    refine wpAnyH_take (i := 11) (oi := { dst := some 108, op := Op.indexAddr 146 (Operand.tmp 107) (Operand.tmp 101), type := 0, pos := _, after := #[{ on := 10, ground := Ground.data }, { on := 4, ground := Ground.data }, { on := 0, ground := Ground.phase }, { on := 1, ground := Ground.phase }, { on := 2, ground := Ground.phase }, { on := 3, ground := Ground.phase }, { on := 4, ground := Ground.phase }, { on := 5, ground := Ground.phase }, { on := 6, ground := Ground.phase }, { on := 7, ground := Ground.phase }, { on := 8, ground := Ground.phase }], guard := none }) (v := (.pointer (some ⟨zm, 11 + D.nt, none⟩))) rfl (by kernel_rfl) (by kernel_rfl) (by kernel_rfl) (fun _ _ _ h => h) (Or.inl ⟨by rfl, fun w' hS => by (try dsimp only at hS); go_simp⟩) trivial ?_
    simp only [Act.put, List.setIfInBounds_toArray, List.set_cons_zero, List.set_cons_succ]
    refine wpAnyH_ready (rs := [12]) (by kernel_rfl) (by simp) ?_
    refine AllReadyH.cons (o := { dst := none, op := Op.store 3 (Operand.tmp 108) (Operand.tmp 105), type := 0, pos := _, after := #[{ on := 11, ground := Ground.data }, { on := 8, ground := Ground.data }, { on := 0, ground := Ground.phase }, { on := 1, ground := Ground.phase }, { on := 2, ground := Ground.phase }, { on := 3, ground := Ground.phase }, { on := 4, ground := Ground.phase }, { on := 5, ground := Ground.phase }, { on := 6, ground := Ground.phase }, { on := 7, ground := Ground.phase }, { on := 8, ground := Ground.phase }], guard := none }) rfl (fun K hK => ?_) AllReadyH.nil
    go_simp
    refine hK.out _ _ trivial (fun hB => ?_)
    clear hK K hB
    try simp only [Act.put, List.setIfInBounds_toArray, List.set_cons_zero, List.set_cons_succ]
    refine wpAnyH_done (by kernel_rfl) ?_ _
    refine NoPanic.normal ?_
    clear p1 p2 p31 p32 pt ft
    generalize wd.setCell ⟨zm, 11 + D.nt, none⟩ (.int .i64 D.acc) = w2 at *
    have r31 : w2.cell? ⟨zm, 31, none⟩ = some (.int .i64 (D.nt : Int)) := (HX.out.1.cell (i := 31) (by omega)).trans (by rw [if_neg (by omega), mc_many])
    have g31 := HX.out.1.frozen 31
    go_upto_region 29 with fail
    clear r31 g31
    have HX3 : Hid (Row (w2.setCell ⟨zm, 31, none⟩ (.int .i64 ((D.nt : Int) + 1))) zm 41 (mc p { D with nt := D.nt + 1, t := updI D.t D.nt D.acc } st) ∧ Mod (fun b => b = zm) w (w2.setCell ⟨zm, 31, none⟩ (.int .i64 ((D.nt : Int) + 1)))) := ⟨HX.out.2.2, HX.out.2.1.trans (m_mod _)⟩
    clear HX
    generalize w2.setCell ⟨zm, 31, none⟩ (.int .i64 ((D.nt : Int) + 1)) = w3 at *
    have q1 : w3.cell? ⟨zm, 1, none⟩ = some (.int .i64 D.at_) := HX3.out.1.cell (i := 1) (by omega)
    have g1 := HX3.out.1.frozen 1
    have FIN : Hid (Row (w3.setCell ⟨zm, 1, none⟩ (.int .i64 (D.at_ + 1))) zm 41 (mc p { D with nt := D.nt + 1, t := updI D.t D.nt D.acc, at_ := D.at_ + 1 } st) ∧ Mod (fun b => b = zm) w (w3.setCell ⟨zm, 1, none⟩ (.int .i64 (D.at_ + 1)))) := ⟨m_at HX3.out.1 _, HX3.out.2.trans (m_mod _)⟩
    clear HX3
    go_wp2
    first | refine bodyPost_end (results_none rfl _ _ _) rfl ?_ | refine bodyPost_ret (results_none rfl _ _ _) rfl ?_
    exact ⟨⟨_, rfl⟩, FIN.out.1, FIN.out.2⟩
/-- An instruction that is good, done. -/
theorem do_any (zm n : Nat) (F : Nat → Nat → Int) (p : Value) (D : GD) (st : Nat → Bool) (a : Nat) (w : World) (hp : progOK n F) (hD : D.Good) (ha : D.at_ = a) (hlt : a < n) (h : Row w zm 41 (mc p D st)) :
    Calls Try.prog 179 #[.pointer (some ⟨zm, 0, none⟩), iv (F a 0) (F a 1) (F a 2)] w fun e w' => (∃ u, e = .returned u) ∧ Row w' zm 41 (mc p (stepG n F D) (if F a 0 = 4 then setS st (F a 1).toNat else st)) ∧ Mod (fun b => b = zm) w w' := by
  have hi := hp.i a hlt
  have hnat : D.at_.toNat = a := by rw [ha]; rfl
  have a0 := hD.a0
  have a1 := hD.a1
  have hstop : stopsAt n F D ↔ F a 0 = 7 ∨ (F a 0 = 6 ∧ D.nt = 20) := by
    unfold stopsAt
    rw [hnat]
    constructor
    · rintro (e | e | e)
      · omega
      · exact Or.inl e
      · exact Or.inr e
    · rintro (e | e)
      · exact Or.inr (Or.inl e)
      · exact Or.inr (Or.inr e)
  unfold stepG
  rw [hnat]
  generalize F a 0 = k at *
  generalize F a 1 = q at *
  generalize F a 2 = x at *
  unfold doG
  rcases (show k = 1 ∨ k = 2 ∨ k = 3 ∨ k = 4 ∨ k = 5 ∨ k = 6 ∨ k = 7 by rcases hi with q | q | q | q <;> omega) with e | e | e | e | e | e | e
  · subst e
    rw [if_neg (by rw [hstop]; omega)]
    exact do_set zm p D st x w a0 a1 h
  · subst e
    rw [if_neg (by rw [hstop]; omega)]
    exact do_add zm p D st x w a0 a1 (by rcases hi with q | q | q | q <;> first | exact q.2.2 | (exfalso; omega)) hD.acc h
  · subst e
    rw [if_neg (by rw [hstop]; omega)]
    have hq : 0 ≤ q ∧ q ≤ 7 := by rcases hi with q | q | q | q <;> first | exact q.2.1 | (exfalso; omega)
    obtain ⟨qn, rfl⟩ : ∃ m : Nat, q = m := ⟨q.toNat, by omega⟩
    exact do_load zm p D st qn w a0 a1 (by omega) h
  · subst e
    rw [if_neg (by rw [hstop]; omega)]
    have hq : 0 ≤ q ∧ q ≤ 7 := by rcases hi with q | q | q | q <;> first | exact q.2.1 | (exfalso; omega)
    obtain ⟨qn, rfl⟩ : ∃ m : Nat, q = m := ⟨q.toNat, by omega⟩
    exact do_store zm p D st qn w a0 a1 (by omega) h
  · subst e
    rw [if_neg (by rw [hstop]; omega)]
    by_cases h0 : D.acc = 0
    · simp only [h0, if_true]
      have := do_stay zm p D st x w a0 a1 h0 h
      rw [iv5]
      simpa [h0] using this
    · have := do_jump zm p D st x w a0 a1 h0 h
      rw [iv5]
      simpa [h0] using this
  · subst e
    by_cases h20 : D.nt = 20
    · rw [if_pos (by rw [hstop]; exact Or.inr ⟨rfl, h20⟩)]
      exact do_full zm p D st w a0 a1 h20 h
    · rw [if_neg (by rw [hstop]; omega)]
      have hn := hD.nt
      exact do_tell zm p D st w a0 a1 (by omega) h
  · subst e
    rw [if_pos (by rw [hstop]; exact Or.inl rfl)]
    exact do_halt zm p D st w a0 a1 h
end Go.Proofs.Ytbpdopcdhnemfaa
/- What a drawn region of a law leaves. -/
namespace Go.Proofs.Ytbpdopcdhnemfaa
open Go.RowKit
set_option linter.unusedSimpArgs false
set_option linter.unusedVariables false
def DrG (W0 : World) (P : GD → Bool → Prop) (c6 c7 : Value) (wx : World) : Prop := ∃ (v : GV) (R : GD) (b : Bool) (z : Nat), c6 = .pointer (some ⟨z, 0, none⟩) ∧ c7 = .bool b ∧ P R b ∧ R.small ∧ GAt (fun x => x < wx.heap.size) wx v R ∧ Row wx z 5 (gb v R) ∧ Blw W0 wx
def DrGn (W0 : World) (P : GD → Int → Bool → Prop) (c6 c7 c8 : Value) (wx : World) : Prop := ∃ (v : GV) (R : GD) (x : Int) (b : Bool) (z : Nat), c6 = .pointer (some ⟨z, 0, none⟩) ∧ c7 = .int .i64 x ∧ c8 = .bool b ∧ P R x b ∧ R.small ∧ GAt (fun x => x < wx.heap.size) wx v R ∧ Row wx z 5 (gb v R) ∧ Blw W0 wx
def DrI (W0 : World) (P : Nat → (Nat → Int) → Bool → Prop) (c6 c7 : Value) (wx : World) : Prop := ∃ (a : Option Addr) (n c : Nat) (f : Nat → Int) (b : Bool), c6 = .slice a n c ∧ c7 = .bool b ∧ P n f b ∧ n ≤ 1048576 ∧ IntsAt (fun x => x < wx.heap.size) wx a n f ∧ Blw W0 wx
def DrBB (W0 : World) (P : Bool → Bool → Prop) (c6 c7 : Value) (wx : World) : Prop := ∃ (x b : Bool), c6 = .bool x ∧ c7 = .bool b ∧ P x b ∧ Blw W0 wx
theorem set5_all {w : World} {B : Nat} {a b c d e : Value} (r : Row w B 5 (fun i => if i = 0 then a else if i = 1 then b else if i = 2 then c else if i = 3 then d else e)) (v0 v1 v2 v3 v4 : Value) : Row (((((w.setCell ⟨B, 0, none⟩ v0).setCell ⟨B, 1, none⟩ v1).setCell ⟨B, 2, none⟩ v2).setCell ⟨B, 3, none⟩ v3).setCell ⟨B, 4, none⟩ v4) B 5 (fun i => if i = 0 then v0 else if i = 1 then v1 else if i = 2 then v2 else if i = 3 then v3 else v4) :=
  (((((r.set 0 v0).set 1 v1).set 2 v2).set 3 v3).set 4 v4).congr fun i hi => by
    match i, hi with
    | 0, _ => rfl
    | 1, _ => rfl
    | 2, _ => rfl
    | 3, _ => rfl
    | 4, _ => rfl
end Go.Proofs.Ytbpdopcdhnemfaa
