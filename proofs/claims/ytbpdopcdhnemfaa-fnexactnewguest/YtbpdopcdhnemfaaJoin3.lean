/- Merged by program, in this order: Ip, Iq, Big. -/
import Derived.Deep.MidRow
import Derived.Laws.ResultCell
import Derived.Great.BuildSlice
import Derived.Test.YtbpdopcdhnemfaaJoin2
/- Instructions: the program's. -/
namespace Go.Proofs.Ytbpdopcdhnemfaa
open Go.RowKit
set_option linter.unusedSimpArgs false
set_option linter.unusedVariables false
/-- An instruction as a value of its kind. -/
def iv (k a x : Int) : Value :=
  if k = 1 then .iface 228 (.agg #[.int .i64 x])
  else if k = 2 then .iface 229 (.agg #[.int .i64 x])
  else if k = 3 then .iface 231 (.agg #[.int .i64 a])
  else if k = 4 then .iface 232 (.agg #[.int .i64 a])
  else if k = 5 then .iface 234 (.agg #[.int .i64 x])
  else if k = 6 then .iface 236 (.agg #[])
  else .iface 237 (.agg #[])
theorem iv1 (a x : Int) : iv 1 a x = .iface 228 (.agg #[.int .i64 x]) := rfl
theorem iv2 (a x : Int) : iv 2 a x = .iface 229 (.agg #[.int .i64 x]) := rfl
theorem iv3 (a x : Int) : iv 3 a x = .iface 231 (.agg #[.int .i64 a]) := rfl
theorem iv4 (a x : Int) : iv 4 a x = .iface 232 (.agg #[.int .i64 a]) := rfl
theorem iv5 (a x : Int) : iv 5 a x = .iface 234 (.agg #[.int .i64 x]) := rfl
theorem iv6 (a x : Int) : iv 6 a x = .iface 236 (.agg #[]) := rfl
theorem iv7 (a x : Int) : iv 7 a x = .iface 237 (.agg #[]) := rfl
def fits (k a x : Int) : Prop := roomOK a ∧ wordOK x ∧ (1 ≤ k ∧ k ≤ 7) ∧ (k = 5 → x < 16)
def wa (k a : Int) : Int := if k = 3 ∨ k = 4 then a else 0
def wx (k x : Int) : Int := if k = 1 ∨ k = 2 ∨ k = 5 then x else 0
theorem insOK_iff (k a x : Int) : insOK k a x ↔ fits k a x ∧ wa k a = a ∧ wx k x = x := by
  constructor
  · rintro (⟨h1, h2, h3⟩ | ⟨h1, h2, h3⟩ | ⟨h1, h2, h3, h4⟩ | ⟨h1, h2, h3⟩)
    · obtain ⟨h4, h5⟩ := h3
      refine ⟨⟨⟨by omega, by omega⟩, ⟨h4, h5⟩, by omega, by omega⟩, ?_, ?_⟩ <;> simp only [wa, wx] <;> split <;> omega
    · refine ⟨⟨h2, ⟨by omega, by omega⟩, by omega, by omega⟩, ?_, ?_⟩ <;> simp only [wa, wx] <;> split <;> omega
    · refine ⟨⟨⟨by omega, by omega⟩, ⟨by omega, by omega⟩, by omega, by omega⟩, ?_, ?_⟩ <;> simp only [wa, wx] <;> split <;> omega
    · refine ⟨⟨⟨by omega, by omega⟩, ⟨by omega, by omega⟩, by omega, by omega⟩, ?_, ?_⟩ <;> simp only [wa, wx] <;> split <;> omega
  · rintro ⟨⟨⟨h1, h2⟩, h3, h4, h5⟩, h6, h7⟩
    unfold wa at h6
    unfold wx at h7
    rcases (show k = 1 ∨ k = 2 ∨ k = 3 ∨ k = 4 ∨ k = 5 ∨ k = 6 ∨ k = 7 by omega) with e | e | e | e | e | e | e <;> subst e <;> simp at h6 h7
    · exact Or.inl ⟨Or.inl rfl, by omega, h3⟩
    · exact Or.inl ⟨Or.inr rfl, by omega, h3⟩
    · exact Or.inr (Or.inl ⟨Or.inl rfl, ⟨h1, h2⟩, by omega⟩)
    · exact Or.inr (Or.inl ⟨Or.inr rfl, ⟨h1, h2⟩, by omega⟩)
    · exact Or.inr (Or.inr (Or.inl ⟨rfl, by omega, h3.1, by have := h5 rfl; omega⟩))
    · exact Or.inr (Or.inr (Or.inr ⟨Or.inl rfl, by omega, by omega⟩))
    · exact Or.inr (Or.inr (Or.inr ⟨Or.inr rfl, by omega, by omega⟩))
theorem tripEq (d : Nat) (a b c a' b' c' : Int) (w : World) : (Op.equalIn (d + 2) 170 (.agg #[.int .i64 a, .int .i64 b, .int .i64 c]) (.agg #[.int .i64 a', .int .i64 b', .int .i64 c'])).run Try.prog w = .ok ((a == a') && ((b == b') && (c == c'))) w := by
  have u : Try.prog.underlying 170 = some (.struct (Try.prog.fieldsOf 170)) := by kernel_rfl
  have hp : Try.prog.stoodInHeld 170 = false := by kernel_rfl
  have hf : (Try.prog.fieldsOf 170).map (fun f => (f.name, f.type, f.offset)) = #[("Kind", 3, 0), ("A", 3, 1), ("N", 3, 2)] := by kernel_rfl
  have p0 : ∀ w, (part 3 #[Value.int .i64 a, .int .i64 b, .int .i64 c] 0).run Try.prog w = .ok (.int .i64 a) w := fun w => by kernel_rfl
  have p1 : ∀ w, (part 3 #[Value.int .i64 a, .int .i64 b, .int .i64 c] 1).run Try.prog w = .ok (.int .i64 b) w := fun w => by kernel_rfl
  have p2 : ∀ w, (part 3 #[Value.int .i64 a, .int .i64 b, .int .i64 c] 2).run Try.prog w = .ok (.int .i64 c) w := fun w => by kernel_rfl
  have q0 : ∀ w, (part 3 #[Value.int .i64 a', .int .i64 b', .int .i64 c'] 0).run Try.prog w = .ok (.int .i64 a') w := fun w => by kernel_rfl
  have q1 : ∀ w, (part 3 #[Value.int .i64 a', .int .i64 b', .int .i64 c'] 1).run Try.prog w = .ok (.int .i64 b') w := fun w => by kernel_rfl
  have q2 : ∀ w, (part 3 #[Value.int .i64 a', .int .i64 b', .int .i64 c'] 2).run Try.prog w = .ok (.int .i64 c') w := fun w => by kernel_rfl
  have H : ∀ x y w, (Op.equalIn (d + 1) 3 (.int .i64 x) (.int .i64 y)).run Try.prog w = .ok (x == y) w := fun x y w => run_equalIn_int w d 3 .i64 .i64 x y Try.underlying3
  by_cases h0 : a = a' <;> by_cases h1 : b = b' <;> by_cases h2 : c = c' <;> simp [go_sem, h0, h1, h2]
theorem tripNe (a b c a' b' c' : Int) (w : World) : (binOp .neq 170 (.agg #[.int .i64 a, .int .i64 b, .int .i64 c]) (.agg #[.int .i64 a', .int .i64 b', .int .i64 c'])).run Try.prog w = .ok (.bool (!((a == a') && ((b == b') && (c == c'))))) w := by
  rw [run_neq_struct, tripEq 9998 a b c a' b' c' w]
  rfl
set_option maxHeartbeats 800000 in
theorem written1_any (x : Int) (w : World) : Calls Try.prog 229 #[.agg #[.int .i64 x]] w fun e w' => e = .returned (.agg #[.int .i64 1, .int .i64 0, .int .i64 x]) ∧ Blw w w' := by
  go_enter Try.func229, Try.ntmps229
  go_wp2
  refine bodyPost_ret (v := .agg #[.int .i64 1, .int .i64 0, .int .i64 x]) (by simp [results, Try.results229, go_sem]) rfl ⟨rfl, ?_⟩
  exact ((Blw.refl _).alloc _).alloc _
set_option maxHeartbeats 800000 in
theorem written2_any (x : Int) (w : World) : Calls Try.prog 230 #[.agg #[.int .i64 x]] w fun e w' => e = .returned (.agg #[.int .i64 2, .int .i64 0, .int .i64 x]) ∧ Blw w w' := by
  go_enter Try.func230, Try.ntmps230
  go_wp2
  refine bodyPost_ret (v := .agg #[.int .i64 2, .int .i64 0, .int .i64 x]) (by simp [results, Try.results230, go_sem]) rfl ⟨rfl, ?_⟩
  exact ((Blw.refl _).alloc _).alloc _
set_option maxHeartbeats 800000 in
theorem written3_any (a : Int) (w : World) : Calls Try.prog 231 #[.agg #[.int .i64 a]] w fun e w' => e = .returned (.agg #[.int .i64 3, .int .i64 a, .int .i64 0]) ∧ Blw w w' := by
  go_enter Try.func231, Try.ntmps231
  go_wp2
  refine bodyPost_ret (v := .agg #[.int .i64 3, .int .i64 a, .int .i64 0]) (by simp [results, Try.results231, go_sem]) rfl ⟨rfl, ?_⟩
  exact ((Blw.refl _).alloc _).alloc _
set_option maxHeartbeats 800000 in
theorem written4_any (a : Int) (w : World) : Calls Try.prog 232 #[.agg #[.int .i64 a]] w fun e w' => e = .returned (.agg #[.int .i64 4, .int .i64 a, .int .i64 0]) ∧ Blw w w' := by
  go_enter Try.func232, Try.ntmps232
  go_wp2
  refine bodyPost_ret (v := .agg #[.int .i64 4, .int .i64 a, .int .i64 0]) (by simp [results, Try.results232, go_sem]) rfl ⟨rfl, ?_⟩
  exact ((Blw.refl _).alloc _).alloc _
set_option maxHeartbeats 800000 in
theorem written5_any (x : Int) (w : World) : Calls Try.prog 233 #[.agg #[.int .i64 x]] w fun e w' => e = .returned (.agg #[.int .i64 5, .int .i64 0, .int .i64 x]) ∧ Blw w w' := by
  go_enter Try.func233, Try.ntmps233
  go_wp2
  refine bodyPost_ret (v := .agg #[.int .i64 5, .int .i64 0, .int .i64 x]) (by simp [results, Try.results233, go_sem]) rfl ⟨rfl, ?_⟩
  exact ((Blw.refl _).alloc _).alloc _
set_option maxHeartbeats 800000 in
theorem written6_any (w : World) : Calls Try.prog 234 #[.agg #[]] w fun e w' => e = .returned (.agg #[.int .i64 6, .int .i64 0, .int .i64 0]) ∧ Blw w w' := by
  go_enter Try.func234, Try.ntmps234
  go_wp2
  refine bodyPost_ret (v := .agg #[.int .i64 6, .int .i64 0, .int .i64 0]) (by simp [results, Try.results234, go_sem]) rfl ⟨rfl, ?_⟩
  exact ((Blw.refl _).alloc _).alloc _
set_option maxHeartbeats 800000 in
theorem written7_any (w : World) : Calls Try.prog 235 #[.agg #[]] w fun e w' => e = .returned (.agg #[.int .i64 7, .int .i64 0, .int .i64 0]) ∧ Blw w w' := by
  go_enter Try.func235, Try.ntmps235
  go_wp2
  refine bodyPost_ret (v := .agg #[.int .i64 7, .int .i64 0, .int .i64 0]) (by simp [results, Try.results235, go_sem]) rfl ⟨rfl, ?_⟩
  exact ((Blw.refl _).alloc _).alloc _
set_option maxHeartbeats 3200000 in
theorem readIns_any (k a x : Int) (w : World) : Calls Try.prog 180 #[.agg #[.int .i64 k, .int .i64 a, .int .i64 x]] w fun e w' => ∃ v r, e = .returned (.tuple #[v, .bool r]) ∧ (r = true → v = iv k a x) ∧ (r = true ↔ fits k a x) ∧ Blw w w' := by
  have HB : Hid (Blw w (w.alloc (.cells #[.int .i64 k, .int .i64 a, .int .i64 x] 170))) := (Blw.refl _).alloc _
  have HR : Hid (Row (w.alloc (.cells #[.int .i64 k, .int .i64 a, .int .i64 x] 170)) w.heap.size 3 (fun i => if i = 0 then .int .i64 k else if i = 1 then .int .i64 a else .int .i64 x)) := box3 w _ _ _ 170
  go_enter Try.func180, Try.ntmps180
  obtain ⟨p0, p1, p2⟩ := get3 HR.out
  go_wp2_with fail
  generalize (w.alloc (.cells #[.int .i64 k, .int .i64 a, .int .i64 x] 170)) = w0 at *
  refine (isInRoom_any a _).mono ?_
  rintro e w1 ⟨r, rfl, hr, rfl⟩
  have H1 : Hid (r = true ↔ roomOK a) := hr
  clear hr
  cases r
  · go_wp2
    refine bodyPost_ret (v := .tuple #[.nilIface, .bool false]) (by simp [results, Try.results180, go_sem]) rfl ⟨_, _, rfl, fun h => absurd h (by decide), iff_f (fun g => by have := H1.out.2 g.1; cases this), HB.out⟩
  have G1 : Hid (roomOK a) := H1.out.1 (by first | rfl | trivial)
  clear H1
  go_wp2_with fail
  refine (isWord_any x _).mono ?_
  rintro e w1 ⟨r, rfl, hr, rfl⟩
  have H1 : Hid (r = true ↔ wordOK x) := hr
  clear hr
  cases r
  · go_wp2
    refine bodyPost_ret (v := .tuple #[.nilIface, .bool false]) (by simp [results, Try.results180, go_sem]) rfl ⟨_, _, rfl, fun h => absurd h (by decide), iff_f (fun g => by have := H1.out.2 g.2.1; cases this), HB.out⟩
  have G2 : Hid (wordOK x) := H1.out.1 (by first | rfl | trivial)
  clear H1 HR
  by_cases d1 : k = 1
  · have HF : Hid (fits k a x) := ⟨G1.out, G2.out, by omega, by omega⟩
    have HI : Hid (iv k a x = .iface 228 (.agg #[.int .i64 x])) := by show _ = _; rw [d1]; rfl
    have e1 : (k == 1) = true := by simp [d1]
    clear d1 
    go_wp2
    refine bodyPost_ret (v := .tuple #[.iface 228 (.agg #[.int .i64 x]), .bool true]) (by simp [results, Try.results180, go_sem]) rfl ⟨_, _, rfl, fun _ => HI.out.symm, iff_t HF.out, HB.out⟩
  by_cases d2 : k = 2
  · have HF : Hid (fits k a x) := ⟨G1.out, G2.out, by omega, by omega⟩
    have HI : Hid (iv k a x = .iface 229 (.agg #[.int .i64 x])) := by show _ = _; rw [d2]; rfl
    have e2 : (k == 2) = true := by simp [d2]
    have n1 : (k == 1) = false := by simp; omega
    clear d2 d1
    go_wp2
    refine bodyPost_ret (v := .tuple #[.iface 229 (.agg #[.int .i64 x]), .bool true]) (by simp [results, Try.results180, go_sem]) rfl ⟨_, _, rfl, fun _ => HI.out.symm, iff_t HF.out, HB.out⟩
  by_cases d3 : k = 3
  · have HF : Hid (fits k a x) := ⟨G1.out, G2.out, by omega, by omega⟩
    have HI : Hid (iv k a x = .iface 231 (.agg #[.int .i64 a])) := by show _ = _; rw [d3]; rfl
    have e3 : (k == 3) = true := by simp [d3]
    have n1 : (k == 1) = false := by simp; omega
    have n2 : (k == 2) = false := by simp; omega
    clear d3 d1 d2
    go_wp2
    refine bodyPost_ret (v := .tuple #[.iface 231 (.agg #[.int .i64 a]), .bool true]) (by simp [results, Try.results180, go_sem]) rfl ⟨_, _, rfl, fun _ => HI.out.symm, iff_t HF.out, HB.out⟩
  by_cases d4 : k = 4
  · have HF : Hid (fits k a x) := ⟨G1.out, G2.out, by omega, by omega⟩
    have HI : Hid (iv k a x = .iface 232 (.agg #[.int .i64 a])) := by show _ = _; rw [d4]; rfl
    have e4 : (k == 4) = true := by simp [d4]
    have n1 : (k == 1) = false := by simp; omega
    have n2 : (k == 2) = false := by simp; omega
    have n3 : (k == 3) = false := by simp; omega
    clear d4 d1 d2 d3
    go_wp2
    refine bodyPost_ret (v := .tuple #[.iface 232 (.agg #[.int .i64 a]), .bool true]) (by simp [results, Try.results180, go_sem]) rfl ⟨_, _, rfl, fun _ => HI.out.symm, iff_t HF.out, HB.out⟩
  by_cases d5 : k = 5
  · have HI : Hid (iv k a x = .iface 234 (.agg #[.int .i64 x])) := by show _ = _; rw [d5]; rfl
    have e5 : (k == 5) = true := by simp [d5]
    have n1 : (k == 1) = false := by simp; omega
    have n2 : (k == 2) = false := by simp; omega
    have n3 : (k == 3) = false := by simp; omega
    have n4 : (k == 4) = false := by simp; omega
    have HIFF : Hid (decide (x < 16) = true ↔ fits k a x) := ⟨fun h => ⟨G1.out, G2.out, by omega, fun _ => by simpa using h⟩, fun g => by have := g.2.2.2 d5; simpa using this⟩
    clear d1 d2 d3 d4 d5
    go_upto_region 13 with fail
    refine wp_region_noPanic ?_
    refine wp_region_held_drew (S := fun w' => w'.cell? ⟨w.heap.size, 2, none⟩ = some (.int .i64 x)) (by kernel_rfl) (by simpa using p2) (fun hB => ?_)
    clear hB
    refine wpAnyH_take (i := 0) (oi := { dst := some 42, op := Op.fieldAddr 170 (Operand.tmp 1) 2, type := 0, pos := _, after := #[], guard := none }) (v := (.pointer (some ⟨w.heap.size, 2, none⟩))) rfl (by kernel_rfl) (by kernel_rfl) (by kernel_rfl) (fun _ _ _ h => h) (Or.inl ⟨by rfl, fun w' hS => by (try dsimp only at hS); go_simp⟩) (by simpa using p2) ?_
    simp only [Act.put, List.setIfInBounds_toArray, List.set_cons_zero, List.set_cons_succ]
    refine wpAnyH_take (i := 4) (oi := { dst := some 46, op := Op.fieldAddr 170 (Operand.tmp 1) 2, type := 0, pos := _, after := #[{ on := 7, ground := Ground.gcOnly Departure.lateStores }], guard := none }) (v := (.pointer (some ⟨w.heap.size, 2, none⟩))) rfl (by kernel_rfl) (by kernel_rfl) (by kernel_rfl) (fun _ _ _ h => h) (Or.inl ⟨by rfl, fun w' hS => by (try dsimp only at hS); go_simp⟩) (by simpa using p2) ?_
    simp only [Act.put, List.setIfInBounds_toArray, List.set_cons_zero, List.set_cons_succ]
    refine wpAnyH_take (i := 1) (oi := { dst := some 43, op := Op.load 3 (Operand.tmp 42), type := 3, pos := _, after := #[{ on := 0, ground := Ground.data }], guard := none }) (v := (.int .i64 x)) rfl (by kernel_rfl) (by kernel_rfl) (by kernel_rfl) (fun _ _ _ h => h) (Or.inl ⟨by rfl, fun w' hS => by (try dsimp only at hS); go_simp⟩) (by simpa using p2) ?_
    simp only [Act.put, List.setIfInBounds_toArray, List.set_cons_zero, List.set_cons_succ]
    refine wpAnyH_take (i := 5) (oi := { dst := some 47, op := Op.load 3 (Operand.tmp 46), type := 3, pos := _, after := #[{ on := 4, ground := Ground.data }, { on := 7, ground := Ground.gcOnly Departure.lateStores }], guard := none }) (v := (.int .i64 x)) rfl (by kernel_rfl) (by kernel_rfl) (by kernel_rfl) (fun _ _ _ h => h) (Or.inl ⟨by rfl, fun w' hS => by (try dsimp only at hS); go_simp⟩) (by simpa using p2) ?_
    simp only [Act.put, List.setIfInBounds_toArray, List.set_cons_zero, List.set_cons_succ]
    refine wpAnyH_take (i := 2) (oi := { dst := some 44, op := Op.build 234 #[(0, Operand.tmp 43)], type := 234, pos := _, after := #[{ on := 1, ground := Ground.data }], guard := none }) (v := (.agg #[.int .i64 x])) rfl (by kernel_rfl) (by kernel_rfl) (by kernel_rfl) (fun _ _ _ h => h) (Or.inl ⟨by rfl, fun w' hS => by (try dsimp only at hS); go_simp⟩) (by simpa using p2) ?_
    simp only [Act.put, List.setIfInBounds_toArray, List.set_cons_zero, List.set_cons_succ]
    refine wpAnyH_take (i := 6) (oi := { dst := some 48, op := Op.binOp BinOp.lss 3 (Operand.tmp 47) (Operand.const (Value.int IntKind.i64 16)) 3, type := 4, pos := _, after := #[{ on := 5, ground := Ground.data }, { on := 7, ground := Ground.gcOnly Departure.lateStores }], guard := none }) (v := (.bool (decide (x < 16)))) rfl (by kernel_rfl) (by kernel_rfl) (by kernel_rfl) (fun _ _ _ h => h) (Or.inl ⟨by rfl, fun w' hS => by (try dsimp only at hS); go_simp⟩) (by simpa using p2) ?_
    simp only [Act.put, List.setIfInBounds_toArray, List.set_cons_zero, List.set_cons_succ]
    refine wpAnyH_take (i := 3) (oi := { dst := some 45, op := Op.makeInterface 234 (Operand.tmp 44), type := 214, pos := _, after := #[{ on := 2, ground := Ground.data }], guard := none }) (v := (.iface 234 (.agg #[.int .i64 x]))) rfl (by kernel_rfl) (by kernel_rfl) (by kernel_rfl) (fun _ _ _ h => h) (Or.inl ⟨by rfl, fun w' hS => by (try dsimp only at hS); go_simp⟩) (by simpa using p2) ?_
    simp only [Act.put, List.setIfInBounds_toArray, List.set_cons_zero, List.set_cons_succ]
    refine wpAnyH_take (i := 7) (oi := { dst := some 2, op := Op.assign (Operand.tmp 45), type := 214, pos := _, after := #[{ on := 3, ground := Ground.data }, { on := 0, ground := Ground.phase }, { on := 1, ground := Ground.phase }, { on := 2, ground := Ground.phase }, { on := 3, ground := Ground.phase }, { on := 4, ground := Ground.textOnly Departure.lateStores }, { on := 5, ground := Ground.textOnly Departure.lateStores }, { on := 6, ground := Ground.textOnly Departure.lateStores }], guard := none }) (v := (.iface 234 (.agg #[.int .i64 x]))) rfl (by kernel_rfl) (by kernel_rfl) (by kernel_rfl) (fun _ _ _ h => h) (Or.inl ⟨by rfl, fun w' hS => by (try dsimp only at hS); go_simp⟩) (by simpa using p2) ?_
    simp only [Act.put, List.setIfInBounds_toArray, List.set_cons_zero, List.set_cons_succ]
    refine wpAnyH_take (i := 8) (oi := { dst := some 3, op := Op.assign (Operand.tmp 48), type := 4, pos := _, after := #[{ on := 6, ground := Ground.data }, { on := 7, ground := Ground.chain }, { on := 0, ground := Ground.phase }, { on := 1, ground := Ground.phase }, { on := 2, ground := Ground.phase }, { on := 3, ground := Ground.phase }, { on := 4, ground := Ground.phase }, { on := 5, ground := Ground.phase }, { on := 6, ground := Ground.phase }, { on := 7, ground := Ground.phase }], guard := none }) (v := (.bool (decide (x < 16)))) rfl (by kernel_rfl) (by kernel_rfl) (by kernel_rfl) (fun _ _ _ h => h) (Or.inl ⟨by rfl, fun w' hS => by (try dsimp only at hS); go_simp⟩) (by simpa using p2) ?_
    simp only [Act.put, List.setIfInBounds_toArray, List.set_cons_zero, List.set_cons_succ]
    refine wpAnyH_done (by kernel_rfl) ?_ _
    refine NoPanic.normal ?_
    go_wp2
    exact bodyPost_ret (v := .tuple #[.iface 234 (.agg #[.int .i64 x]), .bool (decide (x < 16))]) (by simp [results, Try.results180, go_sem]) rfl ⟨_, _, rfl, fun _ => HI.out.symm, HIFF.out, HB.out.drew⟩
  by_cases d6 : k = 6
  · have HF : Hid (fits k a x) := ⟨G1.out, G2.out, by omega, by omega⟩
    have HI : Hid (iv k a x = .iface 236 (.agg #[])) := by show _ = _; rw [d6]; rfl
    have e6 : (k == 6) = true := by simp [d6]
    have n1 : (k == 1) = false := by simp; omega
    have n2 : (k == 2) = false := by simp; omega
    have n3 : (k == 3) = false := by simp; omega
    have n4 : (k == 4) = false := by simp; omega
    have n5 : (k == 5) = false := by simp; omega
    clear d6 d1 d2 d3 d4 d5
    go_wp2
    refine bodyPost_ret (v := .tuple #[.iface 236 (.agg #[]), .bool true]) (by simp [results, Try.results180, go_sem]) rfl ⟨_, _, rfl, fun _ => HI.out.symm, iff_t HF.out, HB.out⟩
  by_cases d7 : k = 7
  · have HF : Hid (fits k a x) := ⟨G1.out, G2.out, by omega, by omega⟩
    have HI : Hid (iv k a x = .iface 237 (.agg #[])) := by show _ = _; rw [d7]; rfl
    have e7 : (k == 7) = true := by simp [d7]
    have n1 : (k == 1) = false := by simp; omega
    have n2 : (k == 2) = false := by simp; omega
    have n3 : (k == 3) = false := by simp; omega
    have n4 : (k == 4) = false := by simp; omega
    have n5 : (k == 5) = false := by simp; omega
    have n6 : (k == 6) = false := by simp; omega
    clear d7 d1 d2 d3 d4 d5 d6
    go_wp2
    refine bodyPost_ret (v := .tuple #[.iface 237 (.agg #[]), .bool true]) (by simp [results, Try.results180, go_sem]) rfl ⟨_, _, rfl, fun _ => HI.out.symm, iff_t HF.out, HB.out⟩
  have HF : Hid (¬ fits k a x) := fun g => by have := g.2.2.1; omega
  have n1 : (k == 1) = false := by simp; omega
  have n2 : (k == 2) = false := by simp; omega
  have n3 : (k == 3) = false := by simp; omega
  have n4 : (k == 4) = false := by simp; omega
  have n5 : (k == 5) = false := by simp; omega
  have n6 : (k == 6) = false := by simp; omega
  have n7 : (k == 7) = false := by simp; omega
  clear d1 d2 d3 d4 d5 d6 d7
  go_wp2
  refine bodyPost_ret (v := .tuple #[.nilIface, .bool false]) (by simp [results, Try.results180, go_sem]) rfl ⟨_, _, rfl, fun h => absurd h (by decide), iff_f HF.out, HB.out⟩
end Go.Proofs.Ytbpdopcdhnemfaa
/- Instructions: the program's. -/
namespace Go.Proofs.Ytbpdopcdhnemfaa
open Go.RowKit
set_option linter.unusedSimpArgs false
set_option linter.unusedVariables false
theorem infoIf : (Try.prog.info? 214).map (fun i => (i.zero, i.size, i.bytes)) = some (some .nilIface, 1, 16) := by kernel_rfl
theorem mkIf (n : Nat) (hn : n ≤ 1048576) (w : World) : (Instr.makeSlice 144 (.int .i64 n) (.int .i64 n)).run Try.prog w = .ok (.slice (some ⟨w.heap.size, 0, none⟩) n n) (w.alloc (.cells (madeCells #[.nilIface] n) 214)) :=
  run_make_row' (P := Try.prog) 144 214 .nilIface 16 Try.underlying144 infoIf rfl .i64 .i64 n (by omega) (by omega) w
theorem method1 (x : Int) (w : World) : (method 157 228 (.agg #[.int .i64 x]) "loop.example/g00620/impl.written").run Try.prog w = .ok (229, .agg #[.int .i64 x]) w := by kernel_rfl
theorem ahead1 (x : Int) (w : World) : (nilAhead 157 228 (.agg #[.int .i64 x]) "loop.example/g00620/impl.written").run Try.prog w = .ok (some false) w := by kernel_rfl
theorem method2 (x : Int) (w : World) : (method 157 229 (.agg #[.int .i64 x]) "loop.example/g00620/impl.written").run Try.prog w = .ok (230, .agg #[.int .i64 x]) w := by kernel_rfl
theorem ahead2 (x : Int) (w : World) : (nilAhead 157 229 (.agg #[.int .i64 x]) "loop.example/g00620/impl.written").run Try.prog w = .ok (some false) w := by kernel_rfl
theorem method3 (a : Int) (w : World) : (method 157 231 (.agg #[.int .i64 a]) "loop.example/g00620/impl.written").run Try.prog w = .ok (231, .agg #[.int .i64 a]) w := by kernel_rfl
theorem ahead3 (a : Int) (w : World) : (nilAhead 157 231 (.agg #[.int .i64 a]) "loop.example/g00620/impl.written").run Try.prog w = .ok (some false) w := by kernel_rfl
theorem method4 (a : Int) (w : World) : (method 157 232 (.agg #[.int .i64 a]) "loop.example/g00620/impl.written").run Try.prog w = .ok (232, .agg #[.int .i64 a]) w := by kernel_rfl
theorem ahead4 (a : Int) (w : World) : (nilAhead 157 232 (.agg #[.int .i64 a]) "loop.example/g00620/impl.written").run Try.prog w = .ok (some false) w := by kernel_rfl
theorem method5 (x : Int) (w : World) : (method 157 234 (.agg #[.int .i64 x]) "loop.example/g00620/impl.written").run Try.prog w = .ok (233, .agg #[.int .i64 x]) w := by kernel_rfl
theorem ahead5 (x : Int) (w : World) : (nilAhead 157 234 (.agg #[.int .i64 x]) "loop.example/g00620/impl.written").run Try.prog w = .ok (some false) w := by kernel_rfl
theorem method6 (w : World) : (method 157 236 (.agg #[]) "loop.example/g00620/impl.written").run Try.prog w = .ok (234, .agg #[]) w := by kernel_rfl
theorem ahead6 (w : World) : (nilAhead 157 236 (.agg #[]) "loop.example/g00620/impl.written").run Try.prog w = .ok (some false) w := by kernel_rfl
theorem method7 (w : World) : (method 157 237 (.agg #[]) "loop.example/g00620/impl.written").run Try.prog w = .ok (235, .agg #[]) w := by kernel_rfl
theorem ahead7 (w : World) : (nilAhead 157 237 (.agg #[]) "loop.example/g00620/impl.written").run Try.prog w = .ok (some false) w := by kernel_rfl
theorem trip_eq (k b c b' c' : Int) (h : b' = b ∧ c' = c) (w : World) : (binOp .neq 170 (.agg #[.int .i64 k, .int .i64 b, .int .i64 c]) (.agg #[.int .i64 k, .int .i64 b', .int .i64 c'])).run Try.prog w = .ok (.bool false) w := by
  obtain ⟨h1, h2⟩ := h
  rw [tripNe, h1, h2]
  simp
theorem trip_ne (k b c b' c' : Int) (h : ¬ (b' = b ∧ c' = c)) (w : World) : (binOp .neq 170 (.agg #[.int .i64 k, .int .i64 b, .int .i64 c]) (.agg #[.int .i64 k, .int .i64 b', .int .i64 c'])).run Try.prog w = .ok (.bool true) w := by
  have hh : ((k == k) && ((b == b') && (c == c'))) = false := by
    rw [Bool.eq_false_iff]
    intro hh
    simp at hh
    exact h ⟨hh.1.symm, hh.2.symm⟩
  rw [tripNe, hh]
  rfl
theorem pc_step {w wr : World} {n j : Nat} {F : Nat → Nat → Int} {u : Value} (hu : iv (F j 0) (F j 1) (F j 2) = u) (hb : Blw w wr) (hr : Row wr w.heap.size n (fun i => if i < j then iv (F i 0) (F i 1) (F i 2) else .nilIface)) :
    Row (wr.setCell ⟨w.heap.size, j, none⟩ u) w.heap.size n (fun i => if i < j + 1 then iv (F i 0) (F i 1) (F i 2) else .nilIface) ∧ Blw w (wr.setCell ⟨w.heap.size, j, none⟩ u) := by
  refine ⟨(hr.set j _).congr fun i hi => ?_, hb.setCell (Nat.le_refl _) _⟩
  by_cases h1 : i = j
  · subst h1; simp [hu]
  · by_cases h2 : i < j
    · simp [h1, h2, Nat.lt_succ_of_lt h2]
    · have h3 : ¬ i < j + 1 := by omega
      simp [h1, h2, h3]
set_option maxRecDepth 10000 in
set_option maxHeartbeats 6400000 in
theorem holdProgram_any (ao : Option Addr) (cp n : Nat) (F : Nat → Nat → Int) (Y : Nat → Prop) (w : World) (h : KAt 3 Y w ao n F) :
    Calls Try.prog 129 #[.slice ao n cp] w fun e w' => ((∃ z, progOK n F ∧ e = .returned (.tuple #[.slice (some ⟨z, 0, none⟩) n n, .bool true]) ∧ Row w' z n (fun i => iv (F i 0) (F i 1) (F i 2)) ∧ w.heap.size ≤ z) ∨ (¬ progOK n F ∧ e = .returned (.tuple #[.slice none 0 0, .bool false]))) ∧ Blw w w' := by
  have H : Hid (KAt 3 Y w ao n F) := h
  have hnn := h.1
  clear h
  by_cases h1 : n < 1
  · have HN : Hid (¬ progOK n F) := fun g => by have := g.n1; omega
    go_enter Try.func129, Try.ntmps129
    go_wp2
    exact bodyPost_ret (v := .tuple #[.slice none 0 0, .bool false]) (by simp [results, Try.results129, go_sem]) rfl ⟨Or.inr ⟨HN.out, rfl⟩, Blw.refl _⟩
  by_cases h2 : 16 < n
  · have HN : Hid (¬ progOK n F) := fun g => by have := g.n2; omega
    go_enter Try.func129, Try.ntmps129
    go_wp2
    exact bodyPost_ret (v := .tuple #[.slice none 0 0, .bool false]) (by simp [results, Try.results129, go_sem]) rfl ⟨Or.inr ⟨HN.out, rfl⟩, Blw.refl _⟩
  have hmk := mkIf n (by omega)
  go_enter Try.func129, Try.ntmps129
  go_wp2_with fail
  clear hmk
  go_loopw [22] (fun iv' wr => ∃ j : Nat, j ≤ n ∧ iv' = .int .i64 j ∧ (∀ t, t < j → insOK (F t 0) (F t 1) (F t 2)) ∧ Row wr w.heap.size n (fun i => if i < j then iv (F i 0) (F i 1) (F i 2) else .nilIface) ∧ Blw w wr) (fun i _ => n - (intOf i).toNat)
  case atStart => exact ⟨0, Nat.zero_le _, rfl, fun t ht => absurd ht (Nat.not_lt_zero _), (Row.made w .nilIface n 214).congr (fun i _ => by simp), (Blw.refl _).alloc _⟩
  case round =>
    obtain ⟨j, hj, rfl, hok, hr, hb⟩ := hrel
    have HO : Hid (∀ t, t < j → insOK (F t 0) (F t 1) (F t 2)) := hok
    have HPW : Hid (Row wr w.heap.size n (fun i => if i < j then iv (F i 0) (F i 1) (F i 2) else .nilIface)) := hr
    have HBW : Hid (Blw w wr) := hb
    clear hok hr hb
    by_cases hlt : j < n
    · obtain ⟨b, o, rfl, -, g⟩ := (H.out.blw HBW.out).2 j hlt
      have g0 := g 0 (by omega)
      have g1 := g 1 (by omega)
      have g2 := g 2 (by omega)
      have hlt' : (j : Int) < n := by omega
      have HLT : Hid (j < n) := hlt
      have hA : Blw wr (wr.alloc (.cells #[.int .i64 (F j 0), .int .i64 (F j 1), .int .i64 (F j 2)] 170)) := (Blw.refl _).alloc _
      replace HBW : Hid (Blw w (wr.alloc (.cells #[.int .i64 (F j 0), .int .i64 (F j 1), .int .i64 (F j 2)] 170))) := HBW.out.trans hA
      replace HPW : Hid (Row (wr.alloc (.cells #[.int .i64 (F j 0), .int .i64 (F j 1), .int .i64 (F j 2)] 170)) w.heap.size n (fun i => if i < j then iv (F i 0) (F i 1) (F i 2) else .nilIface)) := HPW.out.blw hA
      have HX : Hid (Row (wr.alloc (.cells #[.int .i64 (F j 0), .int .i64 (F j 1), .int .i64 (F j 2)] 170)) wr.heap.size 3 (fun i => if i = 0 then .int .i64 (F j 0) else if i = 1 then .int .i64 (F j 1) else .int .i64 (F j 2))) := box3 wr _ _ _ 170
      clear g hA
      rw [Nat.add_zero] at g0
      go_upto_region 7 with fail
      generalize (wr.alloc (.cells #[.int .i64 (F j 0), .int .i64 (F j 1), .int .i64 (F j 2)] 170)) = w1 at *
      generalize wr.heap.size = zb at *
      clear g0 g1 g2
      obtain ⟨p0, p1, p2⟩ := get3 HX.out
      go_wp2_with fail
      clear p0 p1 p2
      refine (readIns_any (F j 0) (F j 1) (F j 2) _).mono ?_
      rintro e w2 ⟨v, r, rfl, hv, hft, hb⟩
      replace HBW : Hid (Blw w w2) := HBW.out.trans hb
      replace HPW : Hid (Row w2 w.heap.size n (fun i => if i < j then iv (F i 0) (F i 1) (F i 2) else .nilIface)) := HPW.out.blw hb
      replace HX : Hid (Row w2 zb 3 (fun i => if i = 0 then .int .i64 (F j 0) else if i = 1 then .int .i64 (F j 1) else .int .i64 (F j 2))) := HX.out.blw hb
      have HFTI : Hid (r = true ↔ fits (F j 0) (F j 1) (F j 2)) := hft
      clear hb hft
      cases r
      · have HN : Hid (¬ progOK n F) := fun g => by have h9 := ((insOK_iff _ _ _).1 (g.i j HLT.out)).1; have := HFTI.out.2 h9; cases this
        clear hv
        go_upto_region 8 with fail
        refine wp_region_noPanic ?_
        refine wp_region_held_drew (S := fun _ => True) (by kernel_rfl) trivial (fun hB => ?_)
        clear hB
        refine wpAnyH_take (i := 0) (oi := { dst := some 32, op := Op.move (Operand.tmp 8), type := 4, pos := _, after := #[], guard := none }) (v := (.bool false)) rfl (by kernel_rfl) (by kernel_rfl) (by kernel_rfl) (fun _ _ _ h => h) (Or.inl ⟨by rfl, fun w' hS => by (try dsimp only at hS); go_simp⟩) trivial ?_
        simp only [Act.put, List.setIfInBounds_toArray, List.set_cons_zero, List.set_cons_succ]
        refine wpAnyH_take (i := 1) (oi := { dst := some 33, op := Op.unOp UnOp.not 4 (Operand.tmp 32), type := 4, pos := _, after := #[{ on := 0, ground := Ground.data }], guard := none }) (v := (.bool true)) rfl (by kernel_rfl) (by kernel_rfl) (by kernel_rfl) (fun _ _ _ h => h) (Or.inl ⟨by rfl, fun w' hS => by (try dsimp only at hS); go_simp⟩) trivial ?_
        simp only [Act.put, List.setIfInBounds_toArray, List.set_cons_zero, List.set_cons_succ]
        refine wpAnyH_take (i := 2) (oi := { dst := some 34, op := Op.move (Operand.tmp 33), type := 4, pos := _, after := #[{ on := 1, ground := Ground.data }], guard := none }) (v := (.bool true)) rfl (by kernel_rfl) (by kernel_rfl) (by kernel_rfl) (fun _ _ _ h => h) (Or.inl ⟨by rfl, fun w' hS => by (try dsimp only at hS); go_simp⟩) trivial ?_
        simp only [Act.put, List.setIfInBounds_toArray, List.set_cons_zero, List.set_cons_succ]
        refine wpAnyH_take (i := 3) (oi := { dst := some 35, op := Op.move (Operand.tmp 7), type := 214, pos := _, after := #[{ on := 2, ground := Ground.guard }], guard := some (2, false) }) (v := undef) rfl (by kernel_rfl) (by kernel_rfl) (by kernel_rfl) (fun _ _ _ h => h) (Or.inr ⟨by rfl, rfl⟩) trivial ?_
        simp only [Act.put, List.setIfInBounds_toArray, List.set_cons_zero, List.set_cons_succ]
        refine wpAnyH_take (i := 5) (oi := { dst := some 37, op := Op.load 170 (Operand.tmp 6), type := 170, pos := _, after := #[{ on := 2, ground := Ground.guard }], guard := some (2, false) }) (v := undef) rfl (by kernel_rfl) (by kernel_rfl) (by kernel_rfl) (fun _ _ _ h => h) (Or.inr ⟨by rfl, rfl⟩) trivial ?_
        simp only [Act.put, List.setIfInBounds_toArray, List.set_cons_zero, List.set_cons_succ]
        refine wpAnyH_take (i := 4) (oi := { dst := some 36, op := Op.call { callee := Callee.invoke (Operand.tmp 35) "loop.example/g00620/impl.written", args := #[], argTypes := #[] }, type := 170, pos := _, after := #[{ on := 3, ground := Ground.data }, { on := 2, ground := Ground.chain }, { on := 2, ground := Ground.guard }], guard := some (2, false) }) (v := undef) rfl (by kernel_rfl) (by kernel_rfl) (by kernel_rfl) (fun _ _ _ h => h) (Or.inr ⟨by rfl, rfl⟩) trivial ?_
        simp only [Act.put, List.setIfInBounds_toArray, List.set_cons_zero, List.set_cons_succ]
        refine wpAnyH_take (i := 6) (oi := { dst := some 38, op := Op.binOp BinOp.neq 170 (Operand.tmp 36) (Operand.tmp 37) 170, type := 4, pos := _, after := #[{ on := 4, ground := Ground.data }, { on := 5, ground := Ground.data }, { on := 2, ground := Ground.guard }], guard := some (2, false) }) (v := undef) rfl (by kernel_rfl) (by kernel_rfl) (by kernel_rfl) (fun _ _ _ h => h) (Or.inr ⟨by rfl, rfl⟩) trivial ?_
        simp only [Act.put, List.setIfInBounds_toArray, List.set_cons_zero, List.set_cons_succ]
        refine wpAnyH_take (i := 7) (oi := { dst := some 39, op := Op.pick (Operand.tmp 34) (Operand.const (Value.bool true)) (Operand.tmp 38), type := 4, pos := _, after := #[{ on := 2, ground := Ground.data }, { on := 6, ground := Ground.data }], guard := none }) (v := (.bool true)) rfl (by kernel_rfl) (by kernel_rfl) (by kernel_rfl) (fun _ _ _ h => h) (Or.inl ⟨by rfl, fun w' hS => by (try dsimp only at hS); go_simp⟩) trivial ?_
        simp only [Act.put, List.setIfInBounds_toArray, List.set_cons_zero, List.set_cons_succ]
        refine wpAnyH_done (by kernel_rfl) ?_ _
        refine NoPanic.normal ?_
        go_wp2
        exact bodyPost_ret (v := .tuple #[.slice none 0 0, .bool false]) (by simp [results, Try.results129, go_sem]) rfl ⟨Or.inr ⟨HN.out, rfl⟩, HBW.out.drew⟩
      have HFT : Hid (fits (F j 0) (F j 1) (F j 2)) := HFTI.out.1 (by first | rfl | trivial)
      obtain rfl := hv (by first | rfl | trivial)
      clear hv HFTI
      rcases (show F j 0 = 1 ∨ F j 0 = 2 ∨ F j 0 = 3 ∨ F j 0 = 4 ∨ F j 0 = 5 ∨ F j 0 = 6 ∨ F j 0 = 7 by have := HFT.out.2.2.1; omega) with e | e | e | e | e | e | e
      · have HV : Hid (iv (F j 0) (F j 1) (F j 2) = .iface 228 (.agg #[.int .i64 (F j 2)])) := by show _ = _; rw [e]; rfl
        rw [HV.out, e]
        have HE : Hid (F j 0 = 1) := e
        have HBX : Hid (Row w2 zb 3 (fun i => if i = 0 then .int .i64 (1 : Int) else if i = 1 then .int .i64 (F j 1) else .int .i64 (F j 2))) := by have h9 := HX.out; rw [e] at h9; exact h9
        clear e HX
        by_cases hB : F j 1 = 0 ∧ F j 2 = (F j 2)
        · have hN : ∀ w', (binOp .neq 170 (.agg #[.int .i64 (1 : Int), .int .i64 0, .int .i64 (F j 2)]) (.agg #[.int .i64 (1 : Int), .int .i64 (F j 1), .int .i64 (F j 2)])).run Try.prog w' = .ok (.bool false) w' := fun w' => trip_eq _ _ _ _ _ hB w'
          have HOK : Hid (insOK (F j 0) (F j 1) (F j 2)) := (insOK_iff _ _ _).2 ⟨HFT.out, by rw [HE.out]; (try rw [hB.1]); simp [wa], by rw [HE.out]; (try rw [hB.2]); simp [wx]⟩
          clear hB
          go_upto_region 8 with fail
          have hS0 := get3 (HBX.out.blw (Blw.refl w2).drew)
          refine wp_region_noPanic ?_
          refine wp_region_held_drew (S := fun w' => w'.cell? ⟨zb, 0, none⟩ = some (.int .i64 (1 : Int)) ∧ w'.cell? ⟨zb, 1, none⟩ = some (.int .i64 (F j 1)) ∧ w'.cell? ⟨zb, 2, none⟩ = some (.int .i64 (F j 2))) (by kernel_rfl) hS0 (fun hB => ?_)
          clear hB
          refine wpAnyH_take (i := 0) (oi := { dst := some 32, op := Op.move (Operand.tmp 8), type := 4, pos := _, after := #[], guard := none }) (v := (.bool true)) rfl (by kernel_rfl) (by kernel_rfl) (by kernel_rfl) (fun _ _ _ h => h) (Or.inl ⟨by rfl, fun w' hS => by (try dsimp only at hS); go_simp⟩) hS0 ?_
          simp only [Act.put, List.setIfInBounds_toArray, List.set_cons_zero, List.set_cons_succ]
          refine wpAnyH_take (i := 1) (oi := { dst := some 33, op := Op.unOp UnOp.not 4 (Operand.tmp 32), type := 4, pos := _, after := #[{ on := 0, ground := Ground.data }], guard := none }) (v := (.bool false)) rfl (by kernel_rfl) (by kernel_rfl) (by kernel_rfl) (fun _ _ _ h => h) (Or.inl ⟨by rfl, fun w' hS => by (try dsimp only at hS); go_simp⟩) hS0 ?_
          simp only [Act.put, List.setIfInBounds_toArray, List.set_cons_zero, List.set_cons_succ]
          refine wpAnyH_take (i := 2) (oi := { dst := some 34, op := Op.move (Operand.tmp 33), type := 4, pos := _, after := #[{ on := 1, ground := Ground.data }], guard := none }) (v := (.bool false)) rfl (by kernel_rfl) (by kernel_rfl) (by kernel_rfl) (fun _ _ _ h => h) (Or.inl ⟨by rfl, fun w' hS => by (try dsimp only at hS); go_simp⟩) hS0 ?_
          simp only [Act.put, List.setIfInBounds_toArray, List.set_cons_zero, List.set_cons_succ]
          refine wpAnyH_take (i := 3) (oi := { dst := some 35, op := Op.move (Operand.tmp 7), type := 214, pos := _, after := #[{ on := 2, ground := Ground.guard }], guard := some (2, false) }) (v := (.iface 228 (.agg #[.int .i64 (F j 2)]))) rfl (by kernel_rfl) (by kernel_rfl) (by kernel_rfl) (fun _ _ _ h => h) (Or.inl ⟨by rfl, fun w' hS => by (try dsimp only at hS); go_simp⟩) hS0 ?_
          simp only [Act.put, List.setIfInBounds_toArray, List.set_cons_zero, List.set_cons_succ]
          refine wpAnyH_take (i := 5) (oi := { dst := some 37, op := Op.load 170 (Operand.tmp 6), type := 170, pos := _, after := #[{ on := 2, ground := Ground.guard }], guard := some (2, false) }) (v := (.agg #[.int .i64 (1 : Int), .int .i64 (F j 1), .int .i64 (F j 2)])) rfl (by kernel_rfl) (by kernel_rfl) (by kernel_rfl) (fun _ _ _ h => h) (Or.inl ⟨by rfl, fun w' hS => by (try dsimp only at hS); go_simp⟩) hS0 ?_
          simp only [Act.put, List.setIfInBounds_toArray, List.set_cons_zero, List.set_cons_succ]
          refine wpAnyH_ready (rs := [4]) (by kernel_rfl) (by simp) ?_
          refine AllReadyH.cons (o := { dst := some 36, op := Op.call { callee := Callee.invoke (Operand.tmp 35) "loop.example/g00620/impl.written", args := #[], argTypes := #[] }, type := 170, pos := _, after := #[{ on := 3, ground := Ground.data }, { on := 2, ground := Ground.chain }, { on := 2, ground := Ground.guard }], guard := some (2, false) }) rfl (fun K hK => ?_) AllReadyH.nil
          have hm := method1 (F j 2)
          have ha := ahead1 (F j 2)
          go_simp
          clear hm ha
          refine (written1_any (F j 2) _).mono ?_
          rintro e w7 ⟨rfl, hb7⟩
          replace HBW : Hid (Blw w w7) := (HBW.out.trans (Blw.refl w2).drew).trans hb7
          replace HPW : Hid (Row w7 w.heap.size n (fun i => if i < j then iv (F i 0) (F i 1) (F i 2) else .nilIface)) := (HPW.out.blw (Blw.refl w2).drew).blw hb7
          have hS9 := get3 ((HBX.out.blw (Blw.refl w2).drew).blw hb7)
          clear hb7
          refine hK.out _ _ hS9 (fun hB => ?_)
          clear hK K hB
          try simp only [Act.put, List.setIfInBounds_toArray, List.set_cons_zero, List.set_cons_succ]
          refine wpAnyH_take (i := 6) (oi := { dst := some 38, op := Op.binOp BinOp.neq 170 (Operand.tmp 36) (Operand.tmp 37) 170, type := 4, pos := _, after := #[{ on := 4, ground := Ground.data }, { on := 5, ground := Ground.data }, { on := 2, ground := Ground.guard }], guard := some (2, false) }) (v := (.bool false)) rfl (by kernel_rfl) (by kernel_rfl) (by kernel_rfl) (fun _ _ _ h => h) (Or.inl ⟨by rfl, fun w' hS => by (try dsimp only at hS); go_simp⟩) hS9 ?_
          simp only [Act.put, List.setIfInBounds_toArray, List.set_cons_zero, List.set_cons_succ]
          refine wpAnyH_take (i := 7) (oi := { dst := some 39, op := Op.pick (Operand.tmp 34) (Operand.const (Value.bool true)) (Operand.tmp 38), type := 4, pos := _, after := #[{ on := 2, ground := Ground.data }, { on := 6, ground := Ground.data }], guard := none }) (v := (.bool false)) rfl (by kernel_rfl) (by kernel_rfl) (by kernel_rfl) (fun _ _ _ h => h) (Or.inl ⟨by rfl, fun w' hS => by (try dsimp only at hS); go_simp⟩) hS9 ?_
          simp only [Act.put, List.setIfInBounds_toArray, List.set_cons_zero, List.set_cons_succ]
          refine wpAnyH_done (by kernel_rfl) ?_ _
          refine NoPanic.normal ?_
          clear hN
          have HSTP : Hid _ := pc_step HV.out HBW.out HPW.out
          have HON : Hid (∀ t, t < j + 1 → insOK (F t 0) (F t 1) (F t 2)) := fun t ht => by
            by_cases e : t = j
            · rw [e]; exact HOK.out
            · exact HO.out t (by omega)
          obtain ⟨vv, gv⟩ : ∃ v, w7.cell? ⟨w.heap.size, j, none⟩ = some v := ⟨_, HPW.out.cell HLT.out⟩
          have fq := HPW.out.frozen j
          clear HO HOK HV HPW HBW HBX HE HFT
          go_wp2
          go_roundw
          case rel => exact ⟨j + 1, by omega, by go_num, HON.out, HSTP.out.1, HSTP.out.2⟩
          case measure => simp [intOf]; omega
        · have hN : ∀ w', (binOp .neq 170 (.agg #[.int .i64 (1 : Int), .int .i64 0, .int .i64 (F j 2)]) (.agg #[.int .i64 (1 : Int), .int .i64 (F j 1), .int .i64 (F j 2)])).run Try.prog w' = .ok (.bool true) w' := fun w' => trip_ne _ _ _ _ _ hB w'
          have HOK : Hid (¬ insOK (F j 0) (F j 1) (F j 2)) := fun g => by
            have h1 := (insOK_iff _ _ _).1 g
            have h2 := h1.2.1
            have h3 := h1.2.2
            rw [HE.out] at h2 h3
            simp [wa] at h2
            simp [wx] at h3
            exact hB (by constructor <;> omega)
          clear hB
          go_upto_region 8 with fail
          have hS0 := get3 (HBX.out.blw (Blw.refl w2).drew)
          refine wp_region_noPanic ?_
          refine wp_region_held_drew (S := fun w' => w'.cell? ⟨zb, 0, none⟩ = some (.int .i64 (1 : Int)) ∧ w'.cell? ⟨zb, 1, none⟩ = some (.int .i64 (F j 1)) ∧ w'.cell? ⟨zb, 2, none⟩ = some (.int .i64 (F j 2))) (by kernel_rfl) hS0 (fun hB => ?_)
          clear hB
          refine wpAnyH_take (i := 0) (oi := { dst := some 32, op := Op.move (Operand.tmp 8), type := 4, pos := _, after := #[], guard := none }) (v := (.bool true)) rfl (by kernel_rfl) (by kernel_rfl) (by kernel_rfl) (fun _ _ _ h => h) (Or.inl ⟨by rfl, fun w' hS => by (try dsimp only at hS); go_simp⟩) hS0 ?_
          simp only [Act.put, List.setIfInBounds_toArray, List.set_cons_zero, List.set_cons_succ]
          refine wpAnyH_take (i := 1) (oi := { dst := some 33, op := Op.unOp UnOp.not 4 (Operand.tmp 32), type := 4, pos := _, after := #[{ on := 0, ground := Ground.data }], guard := none }) (v := (.bool false)) rfl (by kernel_rfl) (by kernel_rfl) (by kernel_rfl) (fun _ _ _ h => h) (Or.inl ⟨by rfl, fun w' hS => by (try dsimp only at hS); go_simp⟩) hS0 ?_
          simp only [Act.put, List.setIfInBounds_toArray, List.set_cons_zero, List.set_cons_succ]
          refine wpAnyH_take (i := 2) (oi := { dst := some 34, op := Op.move (Operand.tmp 33), type := 4, pos := _, after := #[{ on := 1, ground := Ground.data }], guard := none }) (v := (.bool false)) rfl (by kernel_rfl) (by kernel_rfl) (by kernel_rfl) (fun _ _ _ h => h) (Or.inl ⟨by rfl, fun w' hS => by (try dsimp only at hS); go_simp⟩) hS0 ?_
          simp only [Act.put, List.setIfInBounds_toArray, List.set_cons_zero, List.set_cons_succ]
          refine wpAnyH_take (i := 3) (oi := { dst := some 35, op := Op.move (Operand.tmp 7), type := 214, pos := _, after := #[{ on := 2, ground := Ground.guard }], guard := some (2, false) }) (v := (.iface 228 (.agg #[.int .i64 (F j 2)]))) rfl (by kernel_rfl) (by kernel_rfl) (by kernel_rfl) (fun _ _ _ h => h) (Or.inl ⟨by rfl, fun w' hS => by (try dsimp only at hS); go_simp⟩) hS0 ?_
          simp only [Act.put, List.setIfInBounds_toArray, List.set_cons_zero, List.set_cons_succ]
          refine wpAnyH_take (i := 5) (oi := { dst := some 37, op := Op.load 170 (Operand.tmp 6), type := 170, pos := _, after := #[{ on := 2, ground := Ground.guard }], guard := some (2, false) }) (v := (.agg #[.int .i64 (1 : Int), .int .i64 (F j 1), .int .i64 (F j 2)])) rfl (by kernel_rfl) (by kernel_rfl) (by kernel_rfl) (fun _ _ _ h => h) (Or.inl ⟨by rfl, fun w' hS => by (try dsimp only at hS); go_simp⟩) hS0 ?_
          simp only [Act.put, List.setIfInBounds_toArray, List.set_cons_zero, List.set_cons_succ]
          refine wpAnyH_ready (rs := [4]) (by kernel_rfl) (by simp) ?_
          refine AllReadyH.cons (o := { dst := some 36, op := Op.call { callee := Callee.invoke (Operand.tmp 35) "loop.example/g00620/impl.written", args := #[], argTypes := #[] }, type := 170, pos := _, after := #[{ on := 3, ground := Ground.data }, { on := 2, ground := Ground.chain }, { on := 2, ground := Ground.guard }], guard := some (2, false) }) rfl (fun K hK => ?_) AllReadyH.nil
          have hm := method1 (F j 2)
          have ha := ahead1 (F j 2)
          go_simp
          clear hm ha
          refine (written1_any (F j 2) _).mono ?_
          rintro e w7 ⟨rfl, hb7⟩
          replace HBW : Hid (Blw w w7) := (HBW.out.trans (Blw.refl w2).drew).trans hb7
          replace HPW : Hid (Row w7 w.heap.size n (fun i => if i < j then iv (F i 0) (F i 1) (F i 2) else .nilIface)) := (HPW.out.blw (Blw.refl w2).drew).blw hb7
          have hS9 := get3 ((HBX.out.blw (Blw.refl w2).drew).blw hb7)
          clear hb7
          refine hK.out _ _ hS9 (fun hB => ?_)
          clear hK K hB
          try simp only [Act.put, List.setIfInBounds_toArray, List.set_cons_zero, List.set_cons_succ]
          refine wpAnyH_take (i := 6) (oi := { dst := some 38, op := Op.binOp BinOp.neq 170 (Operand.tmp 36) (Operand.tmp 37) 170, type := 4, pos := _, after := #[{ on := 4, ground := Ground.data }, { on := 5, ground := Ground.data }, { on := 2, ground := Ground.guard }], guard := some (2, false) }) (v := (.bool true)) rfl (by kernel_rfl) (by kernel_rfl) (by kernel_rfl) (fun _ _ _ h => h) (Or.inl ⟨by rfl, fun w' hS => by (try dsimp only at hS); go_simp⟩) hS9 ?_
          simp only [Act.put, List.setIfInBounds_toArray, List.set_cons_zero, List.set_cons_succ]
          refine wpAnyH_take (i := 7) (oi := { dst := some 39, op := Op.pick (Operand.tmp 34) (Operand.const (Value.bool true)) (Operand.tmp 38), type := 4, pos := _, after := #[{ on := 2, ground := Ground.data }, { on := 6, ground := Ground.data }], guard := none }) (v := (.bool true)) rfl (by kernel_rfl) (by kernel_rfl) (by kernel_rfl) (fun _ _ _ h => h) (Or.inl ⟨by rfl, fun w' hS => by (try dsimp only at hS); go_simp⟩) hS9 ?_
          simp only [Act.put, List.setIfInBounds_toArray, List.set_cons_zero, List.set_cons_succ]
          refine wpAnyH_done (by kernel_rfl) ?_ _
          refine NoPanic.normal ?_
          clear hN HV
          go_wp2
          exact bodyPost_ret (v := .tuple #[.slice none 0 0, .bool false]) (by simp [results, Try.results129, go_sem]) rfl ⟨Or.inr ⟨fun g => HOK.out (g.i j HLT.out), rfl⟩, HBW.out⟩
      · have HV : Hid (iv (F j 0) (F j 1) (F j 2) = .iface 229 (.agg #[.int .i64 (F j 2)])) := by show _ = _; rw [e]; rfl
        rw [HV.out, e]
        have HE : Hid (F j 0 = 2) := e
        have HBX : Hid (Row w2 zb 3 (fun i => if i = 0 then .int .i64 (2 : Int) else if i = 1 then .int .i64 (F j 1) else .int .i64 (F j 2))) := by have h9 := HX.out; rw [e] at h9; exact h9
        clear e HX
        by_cases hB : F j 1 = 0 ∧ F j 2 = (F j 2)
        · have hN : ∀ w', (binOp .neq 170 (.agg #[.int .i64 (2 : Int), .int .i64 0, .int .i64 (F j 2)]) (.agg #[.int .i64 (2 : Int), .int .i64 (F j 1), .int .i64 (F j 2)])).run Try.prog w' = .ok (.bool false) w' := fun w' => trip_eq _ _ _ _ _ hB w'
          have HOK : Hid (insOK (F j 0) (F j 1) (F j 2)) := (insOK_iff _ _ _).2 ⟨HFT.out, by rw [HE.out]; (try rw [hB.1]); simp [wa], by rw [HE.out]; (try rw [hB.2]); simp [wx]⟩
          clear hB
          go_upto_region 8 with fail
          have hS0 := get3 (HBX.out.blw (Blw.refl w2).drew)
          refine wp_region_noPanic ?_
          refine wp_region_held_drew (S := fun w' => w'.cell? ⟨zb, 0, none⟩ = some (.int .i64 (2 : Int)) ∧ w'.cell? ⟨zb, 1, none⟩ = some (.int .i64 (F j 1)) ∧ w'.cell? ⟨zb, 2, none⟩ = some (.int .i64 (F j 2))) (by kernel_rfl) hS0 (fun hB => ?_)
          clear hB
          refine wpAnyH_take (i := 0) (oi := { dst := some 32, op := Op.move (Operand.tmp 8), type := 4, pos := _, after := #[], guard := none }) (v := (.bool true)) rfl (by kernel_rfl) (by kernel_rfl) (by kernel_rfl) (fun _ _ _ h => h) (Or.inl ⟨by rfl, fun w' hS => by (try dsimp only at hS); go_simp⟩) hS0 ?_
          simp only [Act.put, List.setIfInBounds_toArray, List.set_cons_zero, List.set_cons_succ]
          refine wpAnyH_take (i := 1) (oi := { dst := some 33, op := Op.unOp UnOp.not 4 (Operand.tmp 32), type := 4, pos := _, after := #[{ on := 0, ground := Ground.data }], guard := none }) (v := (.bool false)) rfl (by kernel_rfl) (by kernel_rfl) (by kernel_rfl) (fun _ _ _ h => h) (Or.inl ⟨by rfl, fun w' hS => by (try dsimp only at hS); go_simp⟩) hS0 ?_
          simp only [Act.put, List.setIfInBounds_toArray, List.set_cons_zero, List.set_cons_succ]
          refine wpAnyH_take (i := 2) (oi := { dst := some 34, op := Op.move (Operand.tmp 33), type := 4, pos := _, after := #[{ on := 1, ground := Ground.data }], guard := none }) (v := (.bool false)) rfl (by kernel_rfl) (by kernel_rfl) (by kernel_rfl) (fun _ _ _ h => h) (Or.inl ⟨by rfl, fun w' hS => by (try dsimp only at hS); go_simp⟩) hS0 ?_
          simp only [Act.put, List.setIfInBounds_toArray, List.set_cons_zero, List.set_cons_succ]
          refine wpAnyH_take (i := 3) (oi := { dst := some 35, op := Op.move (Operand.tmp 7), type := 214, pos := _, after := #[{ on := 2, ground := Ground.guard }], guard := some (2, false) }) (v := (.iface 229 (.agg #[.int .i64 (F j 2)]))) rfl (by kernel_rfl) (by kernel_rfl) (by kernel_rfl) (fun _ _ _ h => h) (Or.inl ⟨by rfl, fun w' hS => by (try dsimp only at hS); go_simp⟩) hS0 ?_
          simp only [Act.put, List.setIfInBounds_toArray, List.set_cons_zero, List.set_cons_succ]
          refine wpAnyH_take (i := 5) (oi := { dst := some 37, op := Op.load 170 (Operand.tmp 6), type := 170, pos := _, after := #[{ on := 2, ground := Ground.guard }], guard := some (2, false) }) (v := (.agg #[.int .i64 (2 : Int), .int .i64 (F j 1), .int .i64 (F j 2)])) rfl (by kernel_rfl) (by kernel_rfl) (by kernel_rfl) (fun _ _ _ h => h) (Or.inl ⟨by rfl, fun w' hS => by (try dsimp only at hS); go_simp⟩) hS0 ?_
          simp only [Act.put, List.setIfInBounds_toArray, List.set_cons_zero, List.set_cons_succ]
          refine wpAnyH_ready (rs := [4]) (by kernel_rfl) (by simp) ?_
          refine AllReadyH.cons (o := { dst := some 36, op := Op.call { callee := Callee.invoke (Operand.tmp 35) "loop.example/g00620/impl.written", args := #[], argTypes := #[] }, type := 170, pos := _, after := #[{ on := 3, ground := Ground.data }, { on := 2, ground := Ground.chain }, { on := 2, ground := Ground.guard }], guard := some (2, false) }) rfl (fun K hK => ?_) AllReadyH.nil
          have hm := method2 (F j 2)
          have ha := ahead2 (F j 2)
          go_simp
          clear hm ha
          refine (written2_any (F j 2) _).mono ?_
          rintro e w7 ⟨rfl, hb7⟩
          replace HBW : Hid (Blw w w7) := (HBW.out.trans (Blw.refl w2).drew).trans hb7
          replace HPW : Hid (Row w7 w.heap.size n (fun i => if i < j then iv (F i 0) (F i 1) (F i 2) else .nilIface)) := (HPW.out.blw (Blw.refl w2).drew).blw hb7
          have hS9 := get3 ((HBX.out.blw (Blw.refl w2).drew).blw hb7)
          clear hb7
          refine hK.out _ _ hS9 (fun hB => ?_)
          clear hK K hB
          try simp only [Act.put, List.setIfInBounds_toArray, List.set_cons_zero, List.set_cons_succ]
          refine wpAnyH_take (i := 6) (oi := { dst := some 38, op := Op.binOp BinOp.neq 170 (Operand.tmp 36) (Operand.tmp 37) 170, type := 4, pos := _, after := #[{ on := 4, ground := Ground.data }, { on := 5, ground := Ground.data }, { on := 2, ground := Ground.guard }], guard := some (2, false) }) (v := (.bool false)) rfl (by kernel_rfl) (by kernel_rfl) (by kernel_rfl) (fun _ _ _ h => h) (Or.inl ⟨by rfl, fun w' hS => by (try dsimp only at hS); go_simp⟩) hS9 ?_
          simp only [Act.put, List.setIfInBounds_toArray, List.set_cons_zero, List.set_cons_succ]
          refine wpAnyH_take (i := 7) (oi := { dst := some 39, op := Op.pick (Operand.tmp 34) (Operand.const (Value.bool true)) (Operand.tmp 38), type := 4, pos := _, after := #[{ on := 2, ground := Ground.data }, { on := 6, ground := Ground.data }], guard := none }) (v := (.bool false)) rfl (by kernel_rfl) (by kernel_rfl) (by kernel_rfl) (fun _ _ _ h => h) (Or.inl ⟨by rfl, fun w' hS => by (try dsimp only at hS); go_simp⟩) hS9 ?_
          simp only [Act.put, List.setIfInBounds_toArray, List.set_cons_zero, List.set_cons_succ]
          refine wpAnyH_done (by kernel_rfl) ?_ _
          refine NoPanic.normal ?_
          clear hN
          have HSTP : Hid _ := pc_step HV.out HBW.out HPW.out
          have HON : Hid (∀ t, t < j + 1 → insOK (F t 0) (F t 1) (F t 2)) := fun t ht => by
            by_cases e : t = j
            · rw [e]; exact HOK.out
            · exact HO.out t (by omega)
          obtain ⟨vv, gv⟩ : ∃ v, w7.cell? ⟨w.heap.size, j, none⟩ = some v := ⟨_, HPW.out.cell HLT.out⟩
          have fq := HPW.out.frozen j
          clear HO HOK HV HPW HBW HBX HE HFT
          go_wp2
          go_roundw
          case rel => exact ⟨j + 1, by omega, by go_num, HON.out, HSTP.out.1, HSTP.out.2⟩
          case measure => simp [intOf]; omega
        · have hN : ∀ w', (binOp .neq 170 (.agg #[.int .i64 (2 : Int), .int .i64 0, .int .i64 (F j 2)]) (.agg #[.int .i64 (2 : Int), .int .i64 (F j 1), .int .i64 (F j 2)])).run Try.prog w' = .ok (.bool true) w' := fun w' => trip_ne _ _ _ _ _ hB w'
          have HOK : Hid (¬ insOK (F j 0) (F j 1) (F j 2)) := fun g => by
            have h1 := (insOK_iff _ _ _).1 g
            have h2 := h1.2.1
            have h3 := h1.2.2
            rw [HE.out] at h2 h3
            simp [wa] at h2
            simp [wx] at h3
            exact hB (by constructor <;> omega)
          clear hB
          go_upto_region 8 with fail
          have hS0 := get3 (HBX.out.blw (Blw.refl w2).drew)
          refine wp_region_noPanic ?_
          refine wp_region_held_drew (S := fun w' => w'.cell? ⟨zb, 0, none⟩ = some (.int .i64 (2 : Int)) ∧ w'.cell? ⟨zb, 1, none⟩ = some (.int .i64 (F j 1)) ∧ w'.cell? ⟨zb, 2, none⟩ = some (.int .i64 (F j 2))) (by kernel_rfl) hS0 (fun hB => ?_)
          clear hB
          refine wpAnyH_take (i := 0) (oi := { dst := some 32, op := Op.move (Operand.tmp 8), type := 4, pos := _, after := #[], guard := none }) (v := (.bool true)) rfl (by kernel_rfl) (by kernel_rfl) (by kernel_rfl) (fun _ _ _ h => h) (Or.inl ⟨by rfl, fun w' hS => by (try dsimp only at hS); go_simp⟩) hS0 ?_
          simp only [Act.put, List.setIfInBounds_toArray, List.set_cons_zero, List.set_cons_succ]
          refine wpAnyH_take (i := 1) (oi := { dst := some 33, op := Op.unOp UnOp.not 4 (Operand.tmp 32), type := 4, pos := _, after := #[{ on := 0, ground := Ground.data }], guard := none }) (v := (.bool false)) rfl (by kernel_rfl) (by kernel_rfl) (by kernel_rfl) (fun _ _ _ h => h) (Or.inl ⟨by rfl, fun w' hS => by (try dsimp only at hS); go_simp⟩) hS0 ?_
          simp only [Act.put, List.setIfInBounds_toArray, List.set_cons_zero, List.set_cons_succ]
          refine wpAnyH_take (i := 2) (oi := { dst := some 34, op := Op.move (Operand.tmp 33), type := 4, pos := _, after := #[{ on := 1, ground := Ground.data }], guard := none }) (v := (.bool false)) rfl (by kernel_rfl) (by kernel_rfl) (by kernel_rfl) (fun _ _ _ h => h) (Or.inl ⟨by rfl, fun w' hS => by (try dsimp only at hS); go_simp⟩) hS0 ?_
          simp only [Act.put, List.setIfInBounds_toArray, List.set_cons_zero, List.set_cons_succ]
          refine wpAnyH_take (i := 3) (oi := { dst := some 35, op := Op.move (Operand.tmp 7), type := 214, pos := _, after := #[{ on := 2, ground := Ground.guard }], guard := some (2, false) }) (v := (.iface 229 (.agg #[.int .i64 (F j 2)]))) rfl (by kernel_rfl) (by kernel_rfl) (by kernel_rfl) (fun _ _ _ h => h) (Or.inl ⟨by rfl, fun w' hS => by (try dsimp only at hS); go_simp⟩) hS0 ?_
          simp only [Act.put, List.setIfInBounds_toArray, List.set_cons_zero, List.set_cons_succ]
          refine wpAnyH_take (i := 5) (oi := { dst := some 37, op := Op.load 170 (Operand.tmp 6), type := 170, pos := _, after := #[{ on := 2, ground := Ground.guard }], guard := some (2, false) }) (v := (.agg #[.int .i64 (2 : Int), .int .i64 (F j 1), .int .i64 (F j 2)])) rfl (by kernel_rfl) (by kernel_rfl) (by kernel_rfl) (fun _ _ _ h => h) (Or.inl ⟨by rfl, fun w' hS => by (try dsimp only at hS); go_simp⟩) hS0 ?_
          simp only [Act.put, List.setIfInBounds_toArray, List.set_cons_zero, List.set_cons_succ]
          refine wpAnyH_ready (rs := [4]) (by kernel_rfl) (by simp) ?_
          refine AllReadyH.cons (o := { dst := some 36, op := Op.call { callee := Callee.invoke (Operand.tmp 35) "loop.example/g00620/impl.written", args := #[], argTypes := #[] }, type := 170, pos := _, after := #[{ on := 3, ground := Ground.data }, { on := 2, ground := Ground.chain }, { on := 2, ground := Ground.guard }], guard := some (2, false) }) rfl (fun K hK => ?_) AllReadyH.nil
          have hm := method2 (F j 2)
          have ha := ahead2 (F j 2)
          go_simp
          clear hm ha
          refine (written2_any (F j 2) _).mono ?_
          rintro e w7 ⟨rfl, hb7⟩
          replace HBW : Hid (Blw w w7) := (HBW.out.trans (Blw.refl w2).drew).trans hb7
          replace HPW : Hid (Row w7 w.heap.size n (fun i => if i < j then iv (F i 0) (F i 1) (F i 2) else .nilIface)) := (HPW.out.blw (Blw.refl w2).drew).blw hb7
          have hS9 := get3 ((HBX.out.blw (Blw.refl w2).drew).blw hb7)
          clear hb7
          refine hK.out _ _ hS9 (fun hB => ?_)
          clear hK K hB
          try simp only [Act.put, List.setIfInBounds_toArray, List.set_cons_zero, List.set_cons_succ]
          refine wpAnyH_take (i := 6) (oi := { dst := some 38, op := Op.binOp BinOp.neq 170 (Operand.tmp 36) (Operand.tmp 37) 170, type := 4, pos := _, after := #[{ on := 4, ground := Ground.data }, { on := 5, ground := Ground.data }, { on := 2, ground := Ground.guard }], guard := some (2, false) }) (v := (.bool true)) rfl (by kernel_rfl) (by kernel_rfl) (by kernel_rfl) (fun _ _ _ h => h) (Or.inl ⟨by rfl, fun w' hS => by (try dsimp only at hS); go_simp⟩) hS9 ?_
          simp only [Act.put, List.setIfInBounds_toArray, List.set_cons_zero, List.set_cons_succ]
          refine wpAnyH_take (i := 7) (oi := { dst := some 39, op := Op.pick (Operand.tmp 34) (Operand.const (Value.bool true)) (Operand.tmp 38), type := 4, pos := _, after := #[{ on := 2, ground := Ground.data }, { on := 6, ground := Ground.data }], guard := none }) (v := (.bool true)) rfl (by kernel_rfl) (by kernel_rfl) (by kernel_rfl) (fun _ _ _ h => h) (Or.inl ⟨by rfl, fun w' hS => by (try dsimp only at hS); go_simp⟩) hS9 ?_
          simp only [Act.put, List.setIfInBounds_toArray, List.set_cons_zero, List.set_cons_succ]
          refine wpAnyH_done (by kernel_rfl) ?_ _
          refine NoPanic.normal ?_
          clear hN HV
          go_wp2
          exact bodyPost_ret (v := .tuple #[.slice none 0 0, .bool false]) (by simp [results, Try.results129, go_sem]) rfl ⟨Or.inr ⟨fun g => HOK.out (g.i j HLT.out), rfl⟩, HBW.out⟩
      · have HV : Hid (iv (F j 0) (F j 1) (F j 2) = .iface 231 (.agg #[.int .i64 (F j 1)])) := by show _ = _; rw [e]; rfl
        rw [HV.out, e]
        have HE : Hid (F j 0 = 3) := e
        have HBX : Hid (Row w2 zb 3 (fun i => if i = 0 then .int .i64 (3 : Int) else if i = 1 then .int .i64 (F j 1) else .int .i64 (F j 2))) := by have h9 := HX.out; rw [e] at h9; exact h9
        clear e HX
        by_cases hB : F j 1 = (F j 1) ∧ F j 2 = 0
        · have hN : ∀ w', (binOp .neq 170 (.agg #[.int .i64 (3 : Int), .int .i64 (F j 1), .int .i64 0]) (.agg #[.int .i64 (3 : Int), .int .i64 (F j 1), .int .i64 (F j 2)])).run Try.prog w' = .ok (.bool false) w' := fun w' => trip_eq _ _ _ _ _ hB w'
          have HOK : Hid (insOK (F j 0) (F j 1) (F j 2)) := (insOK_iff _ _ _).2 ⟨HFT.out, by rw [HE.out]; (try rw [hB.1]); simp [wa], by rw [HE.out]; (try rw [hB.2]); simp [wx]⟩
          clear hB
          go_upto_region 8 with fail
          have hS0 := get3 (HBX.out.blw (Blw.refl w2).drew)
          refine wp_region_noPanic ?_
          refine wp_region_held_drew (S := fun w' => w'.cell? ⟨zb, 0, none⟩ = some (.int .i64 (3 : Int)) ∧ w'.cell? ⟨zb, 1, none⟩ = some (.int .i64 (F j 1)) ∧ w'.cell? ⟨zb, 2, none⟩ = some (.int .i64 (F j 2))) (by kernel_rfl) hS0 (fun hB => ?_)
          clear hB
          refine wpAnyH_take (i := 0) (oi := { dst := some 32, op := Op.move (Operand.tmp 8), type := 4, pos := _, after := #[], guard := none }) (v := (.bool true)) rfl (by kernel_rfl) (by kernel_rfl) (by kernel_rfl) (fun _ _ _ h => h) (Or.inl ⟨by rfl, fun w' hS => by (try dsimp only at hS); go_simp⟩) hS0 ?_
          simp only [Act.put, List.setIfInBounds_toArray, List.set_cons_zero, List.set_cons_succ]
          refine wpAnyH_take (i := 1) (oi := { dst := some 33, op := Op.unOp UnOp.not 4 (Operand.tmp 32), type := 4, pos := _, after := #[{ on := 0, ground := Ground.data }], guard := none }) (v := (.bool false)) rfl (by kernel_rfl) (by kernel_rfl) (by kernel_rfl) (fun _ _ _ h => h) (Or.inl ⟨by rfl, fun w' hS => by (try dsimp only at hS); go_simp⟩) hS0 ?_
          simp only [Act.put, List.setIfInBounds_toArray, List.set_cons_zero, List.set_cons_succ]
          refine wpAnyH_take (i := 2) (oi := { dst := some 34, op := Op.move (Operand.tmp 33), type := 4, pos := _, after := #[{ on := 1, ground := Ground.data }], guard := none }) (v := (.bool false)) rfl (by kernel_rfl) (by kernel_rfl) (by kernel_rfl) (fun _ _ _ h => h) (Or.inl ⟨by rfl, fun w' hS => by (try dsimp only at hS); go_simp⟩) hS0 ?_
          simp only [Act.put, List.setIfInBounds_toArray, List.set_cons_zero, List.set_cons_succ]
          refine wpAnyH_take (i := 3) (oi := { dst := some 35, op := Op.move (Operand.tmp 7), type := 214, pos := _, after := #[{ on := 2, ground := Ground.guard }], guard := some (2, false) }) (v := (.iface 231 (.agg #[.int .i64 (F j 1)]))) rfl (by kernel_rfl) (by kernel_rfl) (by kernel_rfl) (fun _ _ _ h => h) (Or.inl ⟨by rfl, fun w' hS => by (try dsimp only at hS); go_simp⟩) hS0 ?_
          simp only [Act.put, List.setIfInBounds_toArray, List.set_cons_zero, List.set_cons_succ]
          refine wpAnyH_take (i := 5) (oi := { dst := some 37, op := Op.load 170 (Operand.tmp 6), type := 170, pos := _, after := #[{ on := 2, ground := Ground.guard }], guard := some (2, false) }) (v := (.agg #[.int .i64 (3 : Int), .int .i64 (F j 1), .int .i64 (F j 2)])) rfl (by kernel_rfl) (by kernel_rfl) (by kernel_rfl) (fun _ _ _ h => h) (Or.inl ⟨by rfl, fun w' hS => by (try dsimp only at hS); go_simp⟩) hS0 ?_
          simp only [Act.put, List.setIfInBounds_toArray, List.set_cons_zero, List.set_cons_succ]
          refine wpAnyH_ready (rs := [4]) (by kernel_rfl) (by simp) ?_
          refine AllReadyH.cons (o := { dst := some 36, op := Op.call { callee := Callee.invoke (Operand.tmp 35) "loop.example/g00620/impl.written", args := #[], argTypes := #[] }, type := 170, pos := _, after := #[{ on := 3, ground := Ground.data }, { on := 2, ground := Ground.chain }, { on := 2, ground := Ground.guard }], guard := some (2, false) }) rfl (fun K hK => ?_) AllReadyH.nil
          have hm := method3 (F j 1)
          have ha := ahead3 (F j 1)
          go_simp
          clear hm ha
          refine (written3_any (F j 1) _).mono ?_
          rintro e w7 ⟨rfl, hb7⟩
          replace HBW : Hid (Blw w w7) := (HBW.out.trans (Blw.refl w2).drew).trans hb7
          replace HPW : Hid (Row w7 w.heap.size n (fun i => if i < j then iv (F i 0) (F i 1) (F i 2) else .nilIface)) := (HPW.out.blw (Blw.refl w2).drew).blw hb7
          have hS9 := get3 ((HBX.out.blw (Blw.refl w2).drew).blw hb7)
          clear hb7
          refine hK.out _ _ hS9 (fun hB => ?_)
          clear hK K hB
          try simp only [Act.put, List.setIfInBounds_toArray, List.set_cons_zero, List.set_cons_succ]
          refine wpAnyH_take (i := 6) (oi := { dst := some 38, op := Op.binOp BinOp.neq 170 (Operand.tmp 36) (Operand.tmp 37) 170, type := 4, pos := _, after := #[{ on := 4, ground := Ground.data }, { on := 5, ground := Ground.data }, { on := 2, ground := Ground.guard }], guard := some (2, false) }) (v := (.bool false)) rfl (by kernel_rfl) (by kernel_rfl) (by kernel_rfl) (fun _ _ _ h => h) (Or.inl ⟨by rfl, fun w' hS => by (try dsimp only at hS); go_simp⟩) hS9 ?_
          simp only [Act.put, List.setIfInBounds_toArray, List.set_cons_zero, List.set_cons_succ]
          refine wpAnyH_take (i := 7) (oi := { dst := some 39, op := Op.pick (Operand.tmp 34) (Operand.const (Value.bool true)) (Operand.tmp 38), type := 4, pos := _, after := #[{ on := 2, ground := Ground.data }, { on := 6, ground := Ground.data }], guard := none }) (v := (.bool false)) rfl (by kernel_rfl) (by kernel_rfl) (by kernel_rfl) (fun _ _ _ h => h) (Or.inl ⟨by rfl, fun w' hS => by (try dsimp only at hS); go_simp⟩) hS9 ?_
          simp only [Act.put, List.setIfInBounds_toArray, List.set_cons_zero, List.set_cons_succ]
          refine wpAnyH_done (by kernel_rfl) ?_ _
          refine NoPanic.normal ?_
          clear hN
          have HSTP : Hid _ := pc_step HV.out HBW.out HPW.out
          have HON : Hid (∀ t, t < j + 1 → insOK (F t 0) (F t 1) (F t 2)) := fun t ht => by
            by_cases e : t = j
            · rw [e]; exact HOK.out
            · exact HO.out t (by omega)
          obtain ⟨vv, gv⟩ : ∃ v, w7.cell? ⟨w.heap.size, j, none⟩ = some v := ⟨_, HPW.out.cell HLT.out⟩
          have fq := HPW.out.frozen j
          clear HO HOK HV HPW HBW HBX HE HFT
          go_wp2
          go_roundw
          case rel => exact ⟨j + 1, by omega, by go_num, HON.out, HSTP.out.1, HSTP.out.2⟩
          case measure => simp [intOf]; omega
        · have hN : ∀ w', (binOp .neq 170 (.agg #[.int .i64 (3 : Int), .int .i64 (F j 1), .int .i64 0]) (.agg #[.int .i64 (3 : Int), .int .i64 (F j 1), .int .i64 (F j 2)])).run Try.prog w' = .ok (.bool true) w' := fun w' => trip_ne _ _ _ _ _ hB w'
          have HOK : Hid (¬ insOK (F j 0) (F j 1) (F j 2)) := fun g => by
            have h1 := (insOK_iff _ _ _).1 g
            have h2 := h1.2.1
            have h3 := h1.2.2
            rw [HE.out] at h2 h3
            simp [wa] at h2
            simp [wx] at h3
            exact hB (by constructor <;> omega)
          clear hB
          go_upto_region 8 with fail
          have hS0 := get3 (HBX.out.blw (Blw.refl w2).drew)
          refine wp_region_noPanic ?_
          refine wp_region_held_drew (S := fun w' => w'.cell? ⟨zb, 0, none⟩ = some (.int .i64 (3 : Int)) ∧ w'.cell? ⟨zb, 1, none⟩ = some (.int .i64 (F j 1)) ∧ w'.cell? ⟨zb, 2, none⟩ = some (.int .i64 (F j 2))) (by kernel_rfl) hS0 (fun hB => ?_)
          clear hB
          refine wpAnyH_take (i := 0) (oi := { dst := some 32, op := Op.move (Operand.tmp 8), type := 4, pos := _, after := #[], guard := none }) (v := (.bool true)) rfl (by kernel_rfl) (by kernel_rfl) (by kernel_rfl) (fun _ _ _ h => h) (Or.inl ⟨by rfl, fun w' hS => by (try dsimp only at hS); go_simp⟩) hS0 ?_
          simp only [Act.put, List.setIfInBounds_toArray, List.set_cons_zero, List.set_cons_succ]
          refine wpAnyH_take (i := 1) (oi := { dst := some 33, op := Op.unOp UnOp.not 4 (Operand.tmp 32), type := 4, pos := _, after := #[{ on := 0, ground := Ground.data }], guard := none }) (v := (.bool false)) rfl (by kernel_rfl) (by kernel_rfl) (by kernel_rfl) (fun _ _ _ h => h) (Or.inl ⟨by rfl, fun w' hS => by (try dsimp only at hS); go_simp⟩) hS0 ?_
          simp only [Act.put, List.setIfInBounds_toArray, List.set_cons_zero, List.set_cons_succ]
          refine wpAnyH_take (i := 2) (oi := { dst := some 34, op := Op.move (Operand.tmp 33), type := 4, pos := _, after := #[{ on := 1, ground := Ground.data }], guard := none }) (v := (.bool false)) rfl (by kernel_rfl) (by kernel_rfl) (by kernel_rfl) (fun _ _ _ h => h) (Or.inl ⟨by rfl, fun w' hS => by (try dsimp only at hS); go_simp⟩) hS0 ?_
          simp only [Act.put, List.setIfInBounds_toArray, List.set_cons_zero, List.set_cons_succ]
          refine wpAnyH_take (i := 3) (oi := { dst := some 35, op := Op.move (Operand.tmp 7), type := 214, pos := _, after := #[{ on := 2, ground := Ground.guard }], guard := some (2, false) }) (v := (.iface 231 (.agg #[.int .i64 (F j 1)]))) rfl (by kernel_rfl) (by kernel_rfl) (by kernel_rfl) (fun _ _ _ h => h) (Or.inl ⟨by rfl, fun w' hS => by (try dsimp only at hS); go_simp⟩) hS0 ?_
          simp only [Act.put, List.setIfInBounds_toArray, List.set_cons_zero, List.set_cons_succ]
          refine wpAnyH_take (i := 5) (oi := { dst := some 37, op := Op.load 170 (Operand.tmp 6), type := 170, pos := _, after := #[{ on := 2, ground := Ground.guard }], guard := some (2, false) }) (v := (.agg #[.int .i64 (3 : Int), .int .i64 (F j 1), .int .i64 (F j 2)])) rfl (by kernel_rfl) (by kernel_rfl) (by kernel_rfl) (fun _ _ _ h => h) (Or.inl ⟨by rfl, fun w' hS => by (try dsimp only at hS); go_simp⟩) hS0 ?_
          simp only [Act.put, List.setIfInBounds_toArray, List.set_cons_zero, List.set_cons_succ]
          refine wpAnyH_ready (rs := [4]) (by kernel_rfl) (by simp) ?_
          refine AllReadyH.cons (o := { dst := some 36, op := Op.call { callee := Callee.invoke (Operand.tmp 35) "loop.example/g00620/impl.written", args := #[], argTypes := #[] }, type := 170, pos := _, after := #[{ on := 3, ground := Ground.data }, { on := 2, ground := Ground.chain }, { on := 2, ground := Ground.guard }], guard := some (2, false) }) rfl (fun K hK => ?_) AllReadyH.nil
          have hm := method3 (F j 1)
          have ha := ahead3 (F j 1)
          go_simp
          clear hm ha
          refine (written3_any (F j 1) _).mono ?_
          rintro e w7 ⟨rfl, hb7⟩
          replace HBW : Hid (Blw w w7) := (HBW.out.trans (Blw.refl w2).drew).trans hb7
          replace HPW : Hid (Row w7 w.heap.size n (fun i => if i < j then iv (F i 0) (F i 1) (F i 2) else .nilIface)) := (HPW.out.blw (Blw.refl w2).drew).blw hb7
          have hS9 := get3 ((HBX.out.blw (Blw.refl w2).drew).blw hb7)
          clear hb7
          refine hK.out _ _ hS9 (fun hB => ?_)
          clear hK K hB
          try simp only [Act.put, List.setIfInBounds_toArray, List.set_cons_zero, List.set_cons_succ]
          refine wpAnyH_take (i := 6) (oi := { dst := some 38, op := Op.binOp BinOp.neq 170 (Operand.tmp 36) (Operand.tmp 37) 170, type := 4, pos := _, after := #[{ on := 4, ground := Ground.data }, { on := 5, ground := Ground.data }, { on := 2, ground := Ground.guard }], guard := some (2, false) }) (v := (.bool true)) rfl (by kernel_rfl) (by kernel_rfl) (by kernel_rfl) (fun _ _ _ h => h) (Or.inl ⟨by rfl, fun w' hS => by (try dsimp only at hS); go_simp⟩) hS9 ?_
          simp only [Act.put, List.setIfInBounds_toArray, List.set_cons_zero, List.set_cons_succ]
          refine wpAnyH_take (i := 7) (oi := { dst := some 39, op := Op.pick (Operand.tmp 34) (Operand.const (Value.bool true)) (Operand.tmp 38), type := 4, pos := _, after := #[{ on := 2, ground := Ground.data }, { on := 6, ground := Ground.data }], guard := none }) (v := (.bool true)) rfl (by kernel_rfl) (by kernel_rfl) (by kernel_rfl) (fun _ _ _ h => h) (Or.inl ⟨by rfl, fun w' hS => by (try dsimp only at hS); go_simp⟩) hS9 ?_
          simp only [Act.put, List.setIfInBounds_toArray, List.set_cons_zero, List.set_cons_succ]
          refine wpAnyH_done (by kernel_rfl) ?_ _
          refine NoPanic.normal ?_
          clear hN HV
          go_wp2
          exact bodyPost_ret (v := .tuple #[.slice none 0 0, .bool false]) (by simp [results, Try.results129, go_sem]) rfl ⟨Or.inr ⟨fun g => HOK.out (g.i j HLT.out), rfl⟩, HBW.out⟩
      · have HV : Hid (iv (F j 0) (F j 1) (F j 2) = .iface 232 (.agg #[.int .i64 (F j 1)])) := by show _ = _; rw [e]; rfl
        rw [HV.out, e]
        have HE : Hid (F j 0 = 4) := e
        have HBX : Hid (Row w2 zb 3 (fun i => if i = 0 then .int .i64 (4 : Int) else if i = 1 then .int .i64 (F j 1) else .int .i64 (F j 2))) := by have h9 := HX.out; rw [e] at h9; exact h9
        clear e HX
        by_cases hB : F j 1 = (F j 1) ∧ F j 2 = 0
        · have hN : ∀ w', (binOp .neq 170 (.agg #[.int .i64 (4 : Int), .int .i64 (F j 1), .int .i64 0]) (.agg #[.int .i64 (4 : Int), .int .i64 (F j 1), .int .i64 (F j 2)])).run Try.prog w' = .ok (.bool false) w' := fun w' => trip_eq _ _ _ _ _ hB w'
          have HOK : Hid (insOK (F j 0) (F j 1) (F j 2)) := (insOK_iff _ _ _).2 ⟨HFT.out, by rw [HE.out]; (try rw [hB.1]); simp [wa], by rw [HE.out]; (try rw [hB.2]); simp [wx]⟩
          clear hB
          go_upto_region 8 with fail
          have hS0 := get3 (HBX.out.blw (Blw.refl w2).drew)
          refine wp_region_noPanic ?_
          refine wp_region_held_drew (S := fun w' => w'.cell? ⟨zb, 0, none⟩ = some (.int .i64 (4 : Int)) ∧ w'.cell? ⟨zb, 1, none⟩ = some (.int .i64 (F j 1)) ∧ w'.cell? ⟨zb, 2, none⟩ = some (.int .i64 (F j 2))) (by kernel_rfl) hS0 (fun hB => ?_)
          clear hB
          refine wpAnyH_take (i := 0) (oi := { dst := some 32, op := Op.move (Operand.tmp 8), type := 4, pos := _, after := #[], guard := none }) (v := (.bool true)) rfl (by kernel_rfl) (by kernel_rfl) (by kernel_rfl) (fun _ _ _ h => h) (Or.inl ⟨by rfl, fun w' hS => by (try dsimp only at hS); go_simp⟩) hS0 ?_
          simp only [Act.put, List.setIfInBounds_toArray, List.set_cons_zero, List.set_cons_succ]
          refine wpAnyH_take (i := 1) (oi := { dst := some 33, op := Op.unOp UnOp.not 4 (Operand.tmp 32), type := 4, pos := _, after := #[{ on := 0, ground := Ground.data }], guard := none }) (v := (.bool false)) rfl (by kernel_rfl) (by kernel_rfl) (by kernel_rfl) (fun _ _ _ h => h) (Or.inl ⟨by rfl, fun w' hS => by (try dsimp only at hS); go_simp⟩) hS0 ?_
          simp only [Act.put, List.setIfInBounds_toArray, List.set_cons_zero, List.set_cons_succ]
          refine wpAnyH_take (i := 2) (oi := { dst := some 34, op := Op.move (Operand.tmp 33), type := 4, pos := _, after := #[{ on := 1, ground := Ground.data }], guard := none }) (v := (.bool false)) rfl (by kernel_rfl) (by kernel_rfl) (by kernel_rfl) (fun _ _ _ h => h) (Or.inl ⟨by rfl, fun w' hS => by (try dsimp only at hS); go_simp⟩) hS0 ?_
          simp only [Act.put, List.setIfInBounds_toArray, List.set_cons_zero, List.set_cons_succ]
          refine wpAnyH_take (i := 3) (oi := { dst := some 35, op := Op.move (Operand.tmp 7), type := 214, pos := _, after := #[{ on := 2, ground := Ground.guard }], guard := some (2, false) }) (v := (.iface 232 (.agg #[.int .i64 (F j 1)]))) rfl (by kernel_rfl) (by kernel_rfl) (by kernel_rfl) (fun _ _ _ h => h) (Or.inl ⟨by rfl, fun w' hS => by (try dsimp only at hS); go_simp⟩) hS0 ?_
          simp only [Act.put, List.setIfInBounds_toArray, List.set_cons_zero, List.set_cons_succ]
          refine wpAnyH_take (i := 5) (oi := { dst := some 37, op := Op.load 170 (Operand.tmp 6), type := 170, pos := _, after := #[{ on := 2, ground := Ground.guard }], guard := some (2, false) }) (v := (.agg #[.int .i64 (4 : Int), .int .i64 (F j 1), .int .i64 (F j 2)])) rfl (by kernel_rfl) (by kernel_rfl) (by kernel_rfl) (fun _ _ _ h => h) (Or.inl ⟨by rfl, fun w' hS => by (try dsimp only at hS); go_simp⟩) hS0 ?_
          simp only [Act.put, List.setIfInBounds_toArray, List.set_cons_zero, List.set_cons_succ]
          refine wpAnyH_ready (rs := [4]) (by kernel_rfl) (by simp) ?_
          refine AllReadyH.cons (o := { dst := some 36, op := Op.call { callee := Callee.invoke (Operand.tmp 35) "loop.example/g00620/impl.written", args := #[], argTypes := #[] }, type := 170, pos := _, after := #[{ on := 3, ground := Ground.data }, { on := 2, ground := Ground.chain }, { on := 2, ground := Ground.guard }], guard := some (2, false) }) rfl (fun K hK => ?_) AllReadyH.nil
          have hm := method4 (F j 1)
          have ha := ahead4 (F j 1)
          go_simp
          clear hm ha
          refine (written4_any (F j 1) _).mono ?_
          rintro e w7 ⟨rfl, hb7⟩
          replace HBW : Hid (Blw w w7) := (HBW.out.trans (Blw.refl w2).drew).trans hb7
          replace HPW : Hid (Row w7 w.heap.size n (fun i => if i < j then iv (F i 0) (F i 1) (F i 2) else .nilIface)) := (HPW.out.blw (Blw.refl w2).drew).blw hb7
          have hS9 := get3 ((HBX.out.blw (Blw.refl w2).drew).blw hb7)
          clear hb7
          refine hK.out _ _ hS9 (fun hB => ?_)
          clear hK K hB
          try simp only [Act.put, List.setIfInBounds_toArray, List.set_cons_zero, List.set_cons_succ]
          refine wpAnyH_take (i := 6) (oi := { dst := some 38, op := Op.binOp BinOp.neq 170 (Operand.tmp 36) (Operand.tmp 37) 170, type := 4, pos := _, after := #[{ on := 4, ground := Ground.data }, { on := 5, ground := Ground.data }, { on := 2, ground := Ground.guard }], guard := some (2, false) }) (v := (.bool false)) rfl (by kernel_rfl) (by kernel_rfl) (by kernel_rfl) (fun _ _ _ h => h) (Or.inl ⟨by rfl, fun w' hS => by (try dsimp only at hS); go_simp⟩) hS9 ?_
          simp only [Act.put, List.setIfInBounds_toArray, List.set_cons_zero, List.set_cons_succ]
          refine wpAnyH_take (i := 7) (oi := { dst := some 39, op := Op.pick (Operand.tmp 34) (Operand.const (Value.bool true)) (Operand.tmp 38), type := 4, pos := _, after := #[{ on := 2, ground := Ground.data }, { on := 6, ground := Ground.data }], guard := none }) (v := (.bool false)) rfl (by kernel_rfl) (by kernel_rfl) (by kernel_rfl) (fun _ _ _ h => h) (Or.inl ⟨by rfl, fun w' hS => by (try dsimp only at hS); go_simp⟩) hS9 ?_
          simp only [Act.put, List.setIfInBounds_toArray, List.set_cons_zero, List.set_cons_succ]
          refine wpAnyH_done (by kernel_rfl) ?_ _
          refine NoPanic.normal ?_
          clear hN
          have HSTP : Hid _ := pc_step HV.out HBW.out HPW.out
          have HON : Hid (∀ t, t < j + 1 → insOK (F t 0) (F t 1) (F t 2)) := fun t ht => by
            by_cases e : t = j
            · rw [e]; exact HOK.out
            · exact HO.out t (by omega)
          obtain ⟨vv, gv⟩ : ∃ v, w7.cell? ⟨w.heap.size, j, none⟩ = some v := ⟨_, HPW.out.cell HLT.out⟩
          have fq := HPW.out.frozen j
          clear HO HOK HV HPW HBW HBX HE HFT
          go_wp2
          go_roundw
          case rel => exact ⟨j + 1, by omega, by go_num, HON.out, HSTP.out.1, HSTP.out.2⟩
          case measure => simp [intOf]; omega
        · have hN : ∀ w', (binOp .neq 170 (.agg #[.int .i64 (4 : Int), .int .i64 (F j 1), .int .i64 0]) (.agg #[.int .i64 (4 : Int), .int .i64 (F j 1), .int .i64 (F j 2)])).run Try.prog w' = .ok (.bool true) w' := fun w' => trip_ne _ _ _ _ _ hB w'
          have HOK : Hid (¬ insOK (F j 0) (F j 1) (F j 2)) := fun g => by
            have h1 := (insOK_iff _ _ _).1 g
            have h2 := h1.2.1
            have h3 := h1.2.2
            rw [HE.out] at h2 h3
            simp [wa] at h2
            simp [wx] at h3
            exact hB (by constructor <;> omega)
          clear hB
          go_upto_region 8 with fail
          have hS0 := get3 (HBX.out.blw (Blw.refl w2).drew)
          refine wp_region_noPanic ?_
          refine wp_region_held_drew (S := fun w' => w'.cell? ⟨zb, 0, none⟩ = some (.int .i64 (4 : Int)) ∧ w'.cell? ⟨zb, 1, none⟩ = some (.int .i64 (F j 1)) ∧ w'.cell? ⟨zb, 2, none⟩ = some (.int .i64 (F j 2))) (by kernel_rfl) hS0 (fun hB => ?_)
          clear hB
          refine wpAnyH_take (i := 0) (oi := { dst := some 32, op := Op.move (Operand.tmp 8), type := 4, pos := _, after := #[], guard := none }) (v := (.bool true)) rfl (by kernel_rfl) (by kernel_rfl) (by kernel_rfl) (fun _ _ _ h => h) (Or.inl ⟨by rfl, fun w' hS => by (try dsimp only at hS); go_simp⟩) hS0 ?_
          simp only [Act.put, List.setIfInBounds_toArray, List.set_cons_zero, List.set_cons_succ]
          refine wpAnyH_take (i := 1) (oi := { dst := some 33, op := Op.unOp UnOp.not 4 (Operand.tmp 32), type := 4, pos := _, after := #[{ on := 0, ground := Ground.data }], guard := none }) (v := (.bool false)) rfl (by kernel_rfl) (by kernel_rfl) (by kernel_rfl) (fun _ _ _ h => h) (Or.inl ⟨by rfl, fun w' hS => by (try dsimp only at hS); go_simp⟩) hS0 ?_
          simp only [Act.put, List.setIfInBounds_toArray, List.set_cons_zero, List.set_cons_succ]
          refine wpAnyH_take (i := 2) (oi := { dst := some 34, op := Op.move (Operand.tmp 33), type := 4, pos := _, after := #[{ on := 1, ground := Ground.data }], guard := none }) (v := (.bool false)) rfl (by kernel_rfl) (by kernel_rfl) (by kernel_rfl) (fun _ _ _ h => h) (Or.inl ⟨by rfl, fun w' hS => by (try dsimp only at hS); go_simp⟩) hS0 ?_
          simp only [Act.put, List.setIfInBounds_toArray, List.set_cons_zero, List.set_cons_succ]
          refine wpAnyH_take (i := 3) (oi := { dst := some 35, op := Op.move (Operand.tmp 7), type := 214, pos := _, after := #[{ on := 2, ground := Ground.guard }], guard := some (2, false) }) (v := (.iface 232 (.agg #[.int .i64 (F j 1)]))) rfl (by kernel_rfl) (by kernel_rfl) (by kernel_rfl) (fun _ _ _ h => h) (Or.inl ⟨by rfl, fun w' hS => by (try dsimp only at hS); go_simp⟩) hS0 ?_
          simp only [Act.put, List.setIfInBounds_toArray, List.set_cons_zero, List.set_cons_succ]
          refine wpAnyH_take (i := 5) (oi := { dst := some 37, op := Op.load 170 (Operand.tmp 6), type := 170, pos := _, after := #[{ on := 2, ground := Ground.guard }], guard := some (2, false) }) (v := (.agg #[.int .i64 (4 : Int), .int .i64 (F j 1), .int .i64 (F j 2)])) rfl (by kernel_rfl) (by kernel_rfl) (by kernel_rfl) (fun _ _ _ h => h) (Or.inl ⟨by rfl, fun w' hS => by (try dsimp only at hS); go_simp⟩) hS0 ?_
          simp only [Act.put, List.setIfInBounds_toArray, List.set_cons_zero, List.set_cons_succ]
          refine wpAnyH_ready (rs := [4]) (by kernel_rfl) (by simp) ?_
          refine AllReadyH.cons (o := { dst := some 36, op := Op.call { callee := Callee.invoke (Operand.tmp 35) "loop.example/g00620/impl.written", args := #[], argTypes := #[] }, type := 170, pos := _, after := #[{ on := 3, ground := Ground.data }, { on := 2, ground := Ground.chain }, { on := 2, ground := Ground.guard }], guard := some (2, false) }) rfl (fun K hK => ?_) AllReadyH.nil
          have hm := method4 (F j 1)
          have ha := ahead4 (F j 1)
          go_simp
          clear hm ha
          refine (written4_any (F j 1) _).mono ?_
          rintro e w7 ⟨rfl, hb7⟩
          replace HBW : Hid (Blw w w7) := (HBW.out.trans (Blw.refl w2).drew).trans hb7
          replace HPW : Hid (Row w7 w.heap.size n (fun i => if i < j then iv (F i 0) (F i 1) (F i 2) else .nilIface)) := (HPW.out.blw (Blw.refl w2).drew).blw hb7
          have hS9 := get3 ((HBX.out.blw (Blw.refl w2).drew).blw hb7)
          clear hb7
          refine hK.out _ _ hS9 (fun hB => ?_)
          clear hK K hB
          try simp only [Act.put, List.setIfInBounds_toArray, List.set_cons_zero, List.set_cons_succ]
          refine wpAnyH_take (i := 6) (oi := { dst := some 38, op := Op.binOp BinOp.neq 170 (Operand.tmp 36) (Operand.tmp 37) 170, type := 4, pos := _, after := #[{ on := 4, ground := Ground.data }, { on := 5, ground := Ground.data }, { on := 2, ground := Ground.guard }], guard := some (2, false) }) (v := (.bool true)) rfl (by kernel_rfl) (by kernel_rfl) (by kernel_rfl) (fun _ _ _ h => h) (Or.inl ⟨by rfl, fun w' hS => by (try dsimp only at hS); go_simp⟩) hS9 ?_
          simp only [Act.put, List.setIfInBounds_toArray, List.set_cons_zero, List.set_cons_succ]
          refine wpAnyH_take (i := 7) (oi := { dst := some 39, op := Op.pick (Operand.tmp 34) (Operand.const (Value.bool true)) (Operand.tmp 38), type := 4, pos := _, after := #[{ on := 2, ground := Ground.data }, { on := 6, ground := Ground.data }], guard := none }) (v := (.bool true)) rfl (by kernel_rfl) (by kernel_rfl) (by kernel_rfl) (fun _ _ _ h => h) (Or.inl ⟨by rfl, fun w' hS => by (try dsimp only at hS); go_simp⟩) hS9 ?_
          simp only [Act.put, List.setIfInBounds_toArray, List.set_cons_zero, List.set_cons_succ]
          refine wpAnyH_done (by kernel_rfl) ?_ _
          refine NoPanic.normal ?_
          clear hN HV
          go_wp2
          exact bodyPost_ret (v := .tuple #[.slice none 0 0, .bool false]) (by simp [results, Try.results129, go_sem]) rfl ⟨Or.inr ⟨fun g => HOK.out (g.i j HLT.out), rfl⟩, HBW.out⟩
      · have HV : Hid (iv (F j 0) (F j 1) (F j 2) = .iface 234 (.agg #[.int .i64 (F j 2)])) := by show _ = _; rw [e]; rfl
        rw [HV.out, e]
        have HE : Hid (F j 0 = 5) := e
        have HBX : Hid (Row w2 zb 3 (fun i => if i = 0 then .int .i64 (5 : Int) else if i = 1 then .int .i64 (F j 1) else .int .i64 (F j 2))) := by have h9 := HX.out; rw [e] at h9; exact h9
        clear e HX
        by_cases hB : F j 1 = 0 ∧ F j 2 = (F j 2)
        · have hN : ∀ w', (binOp .neq 170 (.agg #[.int .i64 (5 : Int), .int .i64 0, .int .i64 (F j 2)]) (.agg #[.int .i64 (5 : Int), .int .i64 (F j 1), .int .i64 (F j 2)])).run Try.prog w' = .ok (.bool false) w' := fun w' => trip_eq _ _ _ _ _ hB w'
          have HOK : Hid (insOK (F j 0) (F j 1) (F j 2)) := (insOK_iff _ _ _).2 ⟨HFT.out, by rw [HE.out]; (try rw [hB.1]); simp [wa], by rw [HE.out]; (try rw [hB.2]); simp [wx]⟩
          clear hB
          go_upto_region 8 with fail
          have hS0 := get3 (HBX.out.blw (Blw.refl w2).drew)
          refine wp_region_noPanic ?_
          refine wp_region_held_drew (S := fun w' => w'.cell? ⟨zb, 0, none⟩ = some (.int .i64 (5 : Int)) ∧ w'.cell? ⟨zb, 1, none⟩ = some (.int .i64 (F j 1)) ∧ w'.cell? ⟨zb, 2, none⟩ = some (.int .i64 (F j 2))) (by kernel_rfl) hS0 (fun hB => ?_)
          clear hB
          refine wpAnyH_take (i := 0) (oi := { dst := some 32, op := Op.move (Operand.tmp 8), type := 4, pos := _, after := #[], guard := none }) (v := (.bool true)) rfl (by kernel_rfl) (by kernel_rfl) (by kernel_rfl) (fun _ _ _ h => h) (Or.inl ⟨by rfl, fun w' hS => by (try dsimp only at hS); go_simp⟩) hS0 ?_
          simp only [Act.put, List.setIfInBounds_toArray, List.set_cons_zero, List.set_cons_succ]
          refine wpAnyH_take (i := 1) (oi := { dst := some 33, op := Op.unOp UnOp.not 4 (Operand.tmp 32), type := 4, pos := _, after := #[{ on := 0, ground := Ground.data }], guard := none }) (v := (.bool false)) rfl (by kernel_rfl) (by kernel_rfl) (by kernel_rfl) (fun _ _ _ h => h) (Or.inl ⟨by rfl, fun w' hS => by (try dsimp only at hS); go_simp⟩) hS0 ?_
          simp only [Act.put, List.setIfInBounds_toArray, List.set_cons_zero, List.set_cons_succ]
          refine wpAnyH_take (i := 2) (oi := { dst := some 34, op := Op.move (Operand.tmp 33), type := 4, pos := _, after := #[{ on := 1, ground := Ground.data }], guard := none }) (v := (.bool false)) rfl (by kernel_rfl) (by kernel_rfl) (by kernel_rfl) (fun _ _ _ h => h) (Or.inl ⟨by rfl, fun w' hS => by (try dsimp only at hS); go_simp⟩) hS0 ?_
          simp only [Act.put, List.setIfInBounds_toArray, List.set_cons_zero, List.set_cons_succ]
          refine wpAnyH_take (i := 3) (oi := { dst := some 35, op := Op.move (Operand.tmp 7), type := 214, pos := _, after := #[{ on := 2, ground := Ground.guard }], guard := some (2, false) }) (v := (.iface 234 (.agg #[.int .i64 (F j 2)]))) rfl (by kernel_rfl) (by kernel_rfl) (by kernel_rfl) (fun _ _ _ h => h) (Or.inl ⟨by rfl, fun w' hS => by (try dsimp only at hS); go_simp⟩) hS0 ?_
          simp only [Act.put, List.setIfInBounds_toArray, List.set_cons_zero, List.set_cons_succ]
          refine wpAnyH_take (i := 5) (oi := { dst := some 37, op := Op.load 170 (Operand.tmp 6), type := 170, pos := _, after := #[{ on := 2, ground := Ground.guard }], guard := some (2, false) }) (v := (.agg #[.int .i64 (5 : Int), .int .i64 (F j 1), .int .i64 (F j 2)])) rfl (by kernel_rfl) (by kernel_rfl) (by kernel_rfl) (fun _ _ _ h => h) (Or.inl ⟨by rfl, fun w' hS => by (try dsimp only at hS); go_simp⟩) hS0 ?_
          simp only [Act.put, List.setIfInBounds_toArray, List.set_cons_zero, List.set_cons_succ]
          refine wpAnyH_ready (rs := [4]) (by kernel_rfl) (by simp) ?_
          refine AllReadyH.cons (o := { dst := some 36, op := Op.call { callee := Callee.invoke (Operand.tmp 35) "loop.example/g00620/impl.written", args := #[], argTypes := #[] }, type := 170, pos := _, after := #[{ on := 3, ground := Ground.data }, { on := 2, ground := Ground.chain }, { on := 2, ground := Ground.guard }], guard := some (2, false) }) rfl (fun K hK => ?_) AllReadyH.nil
          have hm := method5 (F j 2)
          have ha := ahead5 (F j 2)
          go_simp
          clear hm ha
          refine (written5_any (F j 2) _).mono ?_
          rintro e w7 ⟨rfl, hb7⟩
          replace HBW : Hid (Blw w w7) := (HBW.out.trans (Blw.refl w2).drew).trans hb7
          replace HPW : Hid (Row w7 w.heap.size n (fun i => if i < j then iv (F i 0) (F i 1) (F i 2) else .nilIface)) := (HPW.out.blw (Blw.refl w2).drew).blw hb7
          have hS9 := get3 ((HBX.out.blw (Blw.refl w2).drew).blw hb7)
          clear hb7
          refine hK.out _ _ hS9 (fun hB => ?_)
          clear hK K hB
          try simp only [Act.put, List.setIfInBounds_toArray, List.set_cons_zero, List.set_cons_succ]
          refine wpAnyH_take (i := 6) (oi := { dst := some 38, op := Op.binOp BinOp.neq 170 (Operand.tmp 36) (Operand.tmp 37) 170, type := 4, pos := _, after := #[{ on := 4, ground := Ground.data }, { on := 5, ground := Ground.data }, { on := 2, ground := Ground.guard }], guard := some (2, false) }) (v := (.bool false)) rfl (by kernel_rfl) (by kernel_rfl) (by kernel_rfl) (fun _ _ _ h => h) (Or.inl ⟨by rfl, fun w' hS => by (try dsimp only at hS); go_simp⟩) hS9 ?_
          simp only [Act.put, List.setIfInBounds_toArray, List.set_cons_zero, List.set_cons_succ]
          refine wpAnyH_take (i := 7) (oi := { dst := some 39, op := Op.pick (Operand.tmp 34) (Operand.const (Value.bool true)) (Operand.tmp 38), type := 4, pos := _, after := #[{ on := 2, ground := Ground.data }, { on := 6, ground := Ground.data }], guard := none }) (v := (.bool false)) rfl (by kernel_rfl) (by kernel_rfl) (by kernel_rfl) (fun _ _ _ h => h) (Or.inl ⟨by rfl, fun w' hS => by (try dsimp only at hS); go_simp⟩) hS9 ?_
          simp only [Act.put, List.setIfInBounds_toArray, List.set_cons_zero, List.set_cons_succ]
          refine wpAnyH_done (by kernel_rfl) ?_ _
          refine NoPanic.normal ?_
          clear hN
          have HSTP : Hid _ := pc_step HV.out HBW.out HPW.out
          have HON : Hid (∀ t, t < j + 1 → insOK (F t 0) (F t 1) (F t 2)) := fun t ht => by
            by_cases e : t = j
            · rw [e]; exact HOK.out
            · exact HO.out t (by omega)
          obtain ⟨vv, gv⟩ : ∃ v, w7.cell? ⟨w.heap.size, j, none⟩ = some v := ⟨_, HPW.out.cell HLT.out⟩
          have fq := HPW.out.frozen j
          clear HO HOK HV HPW HBW HBX HE HFT
          go_wp2
          go_roundw
          case rel => exact ⟨j + 1, by omega, by go_num, HON.out, HSTP.out.1, HSTP.out.2⟩
          case measure => simp [intOf]; omega
        · have hN : ∀ w', (binOp .neq 170 (.agg #[.int .i64 (5 : Int), .int .i64 0, .int .i64 (F j 2)]) (.agg #[.int .i64 (5 : Int), .int .i64 (F j 1), .int .i64 (F j 2)])).run Try.prog w' = .ok (.bool true) w' := fun w' => trip_ne _ _ _ _ _ hB w'
          have HOK : Hid (¬ insOK (F j 0) (F j 1) (F j 2)) := fun g => by
            have h1 := (insOK_iff _ _ _).1 g
            have h2 := h1.2.1
            have h3 := h1.2.2
            rw [HE.out] at h2 h3
            simp [wa] at h2
            simp [wx] at h3
            exact hB (by constructor <;> omega)
          clear hB
          go_upto_region 8 with fail
          have hS0 := get3 (HBX.out.blw (Blw.refl w2).drew)
          refine wp_region_noPanic ?_
          refine wp_region_held_drew (S := fun w' => w'.cell? ⟨zb, 0, none⟩ = some (.int .i64 (5 : Int)) ∧ w'.cell? ⟨zb, 1, none⟩ = some (.int .i64 (F j 1)) ∧ w'.cell? ⟨zb, 2, none⟩ = some (.int .i64 (F j 2))) (by kernel_rfl) hS0 (fun hB => ?_)
          clear hB
          refine wpAnyH_take (i := 0) (oi := { dst := some 32, op := Op.move (Operand.tmp 8), type := 4, pos := _, after := #[], guard := none }) (v := (.bool true)) rfl (by kernel_rfl) (by kernel_rfl) (by kernel_rfl) (fun _ _ _ h => h) (Or.inl ⟨by rfl, fun w' hS => by (try dsimp only at hS); go_simp⟩) hS0 ?_
          simp only [Act.put, List.setIfInBounds_toArray, List.set_cons_zero, List.set_cons_succ]
          refine wpAnyH_take (i := 1) (oi := { dst := some 33, op := Op.unOp UnOp.not 4 (Operand.tmp 32), type := 4, pos := _, after := #[{ on := 0, ground := Ground.data }], guard := none }) (v := (.bool false)) rfl (by kernel_rfl) (by kernel_rfl) (by kernel_rfl) (fun _ _ _ h => h) (Or.inl ⟨by rfl, fun w' hS => by (try dsimp only at hS); go_simp⟩) hS0 ?_
          simp only [Act.put, List.setIfInBounds_toArray, List.set_cons_zero, List.set_cons_succ]
          refine wpAnyH_take (i := 2) (oi := { dst := some 34, op := Op.move (Operand.tmp 33), type := 4, pos := _, after := #[{ on := 1, ground := Ground.data }], guard := none }) (v := (.bool false)) rfl (by kernel_rfl) (by kernel_rfl) (by kernel_rfl) (fun _ _ _ h => h) (Or.inl ⟨by rfl, fun w' hS => by (try dsimp only at hS); go_simp⟩) hS0 ?_
          simp only [Act.put, List.setIfInBounds_toArray, List.set_cons_zero, List.set_cons_succ]
          refine wpAnyH_take (i := 3) (oi := { dst := some 35, op := Op.move (Operand.tmp 7), type := 214, pos := _, after := #[{ on := 2, ground := Ground.guard }], guard := some (2, false) }) (v := (.iface 234 (.agg #[.int .i64 (F j 2)]))) rfl (by kernel_rfl) (by kernel_rfl) (by kernel_rfl) (fun _ _ _ h => h) (Or.inl ⟨by rfl, fun w' hS => by (try dsimp only at hS); go_simp⟩) hS0 ?_
          simp only [Act.put, List.setIfInBounds_toArray, List.set_cons_zero, List.set_cons_succ]
          refine wpAnyH_take (i := 5) (oi := { dst := some 37, op := Op.load 170 (Operand.tmp 6), type := 170, pos := _, after := #[{ on := 2, ground := Ground.guard }], guard := some (2, false) }) (v := (.agg #[.int .i64 (5 : Int), .int .i64 (F j 1), .int .i64 (F j 2)])) rfl (by kernel_rfl) (by kernel_rfl) (by kernel_rfl) (fun _ _ _ h => h) (Or.inl ⟨by rfl, fun w' hS => by (try dsimp only at hS); go_simp⟩) hS0 ?_
          simp only [Act.put, List.setIfInBounds_toArray, List.set_cons_zero, List.set_cons_succ]
          refine wpAnyH_ready (rs := [4]) (by kernel_rfl) (by simp) ?_
          refine AllReadyH.cons (o := { dst := some 36, op := Op.call { callee := Callee.invoke (Operand.tmp 35) "loop.example/g00620/impl.written", args := #[], argTypes := #[] }, type := 170, pos := _, after := #[{ on := 3, ground := Ground.data }, { on := 2, ground := Ground.chain }, { on := 2, ground := Ground.guard }], guard := some (2, false) }) rfl (fun K hK => ?_) AllReadyH.nil
          have hm := method5 (F j 2)
          have ha := ahead5 (F j 2)
          go_simp
          clear hm ha
          refine (written5_any (F j 2) _).mono ?_
          rintro e w7 ⟨rfl, hb7⟩
          replace HBW : Hid (Blw w w7) := (HBW.out.trans (Blw.refl w2).drew).trans hb7
          replace HPW : Hid (Row w7 w.heap.size n (fun i => if i < j then iv (F i 0) (F i 1) (F i 2) else .nilIface)) := (HPW.out.blw (Blw.refl w2).drew).blw hb7
          have hS9 := get3 ((HBX.out.blw (Blw.refl w2).drew).blw hb7)
          clear hb7
          refine hK.out _ _ hS9 (fun hB => ?_)
          clear hK K hB
          try simp only [Act.put, List.setIfInBounds_toArray, List.set_cons_zero, List.set_cons_succ]
          refine wpAnyH_take (i := 6) (oi := { dst := some 38, op := Op.binOp BinOp.neq 170 (Operand.tmp 36) (Operand.tmp 37) 170, type := 4, pos := _, after := #[{ on := 4, ground := Ground.data }, { on := 5, ground := Ground.data }, { on := 2, ground := Ground.guard }], guard := some (2, false) }) (v := (.bool true)) rfl (by kernel_rfl) (by kernel_rfl) (by kernel_rfl) (fun _ _ _ h => h) (Or.inl ⟨by rfl, fun w' hS => by (try dsimp only at hS); go_simp⟩) hS9 ?_
          simp only [Act.put, List.setIfInBounds_toArray, List.set_cons_zero, List.set_cons_succ]
          refine wpAnyH_take (i := 7) (oi := { dst := some 39, op := Op.pick (Operand.tmp 34) (Operand.const (Value.bool true)) (Operand.tmp 38), type := 4, pos := _, after := #[{ on := 2, ground := Ground.data }, { on := 6, ground := Ground.data }], guard := none }) (v := (.bool true)) rfl (by kernel_rfl) (by kernel_rfl) (by kernel_rfl) (fun _ _ _ h => h) (Or.inl ⟨by rfl, fun w' hS => by (try dsimp only at hS); go_simp⟩) hS9 ?_
          simp only [Act.put, List.setIfInBounds_toArray, List.set_cons_zero, List.set_cons_succ]
          refine wpAnyH_done (by kernel_rfl) ?_ _
          refine NoPanic.normal ?_
          clear hN HV
          go_wp2
          exact bodyPost_ret (v := .tuple #[.slice none 0 0, .bool false]) (by simp [results, Try.results129, go_sem]) rfl ⟨Or.inr ⟨fun g => HOK.out (g.i j HLT.out), rfl⟩, HBW.out⟩
      · have HV : Hid (iv (F j 0) (F j 1) (F j 2) = .iface 236 (.agg #[])) := by show _ = _; rw [e]; rfl
        rw [HV.out, e]
        have HE : Hid (F j 0 = 6) := e
        have HBX : Hid (Row w2 zb 3 (fun i => if i = 0 then .int .i64 (6 : Int) else if i = 1 then .int .i64 (F j 1) else .int .i64 (F j 2))) := by have h9 := HX.out; rw [e] at h9; exact h9
        clear e HX
        by_cases hB : F j 1 = 0 ∧ F j 2 = 0
        · have hN : ∀ w', (binOp .neq 170 (.agg #[.int .i64 (6 : Int), .int .i64 0, .int .i64 0]) (.agg #[.int .i64 (6 : Int), .int .i64 (F j 1), .int .i64 (F j 2)])).run Try.prog w' = .ok (.bool false) w' := fun w' => trip_eq _ _ _ _ _ hB w'
          have HOK : Hid (insOK (F j 0) (F j 1) (F j 2)) := (insOK_iff _ _ _).2 ⟨HFT.out, by rw [HE.out]; (try rw [hB.1]); simp [wa], by rw [HE.out]; (try rw [hB.2]); simp [wx]⟩
          clear hB
          go_upto_region 8 with fail
          have hS0 := get3 (HBX.out.blw (Blw.refl w2).drew)
          refine wp_region_noPanic ?_
          refine wp_region_held_drew (S := fun w' => w'.cell? ⟨zb, 0, none⟩ = some (.int .i64 (6 : Int)) ∧ w'.cell? ⟨zb, 1, none⟩ = some (.int .i64 (F j 1)) ∧ w'.cell? ⟨zb, 2, none⟩ = some (.int .i64 (F j 2))) (by kernel_rfl) hS0 (fun hB => ?_)
          clear hB
          refine wpAnyH_take (i := 0) (oi := { dst := some 32, op := Op.move (Operand.tmp 8), type := 4, pos := _, after := #[], guard := none }) (v := (.bool true)) rfl (by kernel_rfl) (by kernel_rfl) (by kernel_rfl) (fun _ _ _ h => h) (Or.inl ⟨by rfl, fun w' hS => by (try dsimp only at hS); go_simp⟩) hS0 ?_
          simp only [Act.put, List.setIfInBounds_toArray, List.set_cons_zero, List.set_cons_succ]
          refine wpAnyH_take (i := 1) (oi := { dst := some 33, op := Op.unOp UnOp.not 4 (Operand.tmp 32), type := 4, pos := _, after := #[{ on := 0, ground := Ground.data }], guard := none }) (v := (.bool false)) rfl (by kernel_rfl) (by kernel_rfl) (by kernel_rfl) (fun _ _ _ h => h) (Or.inl ⟨by rfl, fun w' hS => by (try dsimp only at hS); go_simp⟩) hS0 ?_
          simp only [Act.put, List.setIfInBounds_toArray, List.set_cons_zero, List.set_cons_succ]
          refine wpAnyH_take (i := 2) (oi := { dst := some 34, op := Op.move (Operand.tmp 33), type := 4, pos := _, after := #[{ on := 1, ground := Ground.data }], guard := none }) (v := (.bool false)) rfl (by kernel_rfl) (by kernel_rfl) (by kernel_rfl) (fun _ _ _ h => h) (Or.inl ⟨by rfl, fun w' hS => by (try dsimp only at hS); go_simp⟩) hS0 ?_
          simp only [Act.put, List.setIfInBounds_toArray, List.set_cons_zero, List.set_cons_succ]
          refine wpAnyH_take (i := 3) (oi := { dst := some 35, op := Op.move (Operand.tmp 7), type := 214, pos := _, after := #[{ on := 2, ground := Ground.guard }], guard := some (2, false) }) (v := (.iface 236 (.agg #[]))) rfl (by kernel_rfl) (by kernel_rfl) (by kernel_rfl) (fun _ _ _ h => h) (Or.inl ⟨by rfl, fun w' hS => by (try dsimp only at hS); go_simp⟩) hS0 ?_
          simp only [Act.put, List.setIfInBounds_toArray, List.set_cons_zero, List.set_cons_succ]
          refine wpAnyH_take (i := 5) (oi := { dst := some 37, op := Op.load 170 (Operand.tmp 6), type := 170, pos := _, after := #[{ on := 2, ground := Ground.guard }], guard := some (2, false) }) (v := (.agg #[.int .i64 (6 : Int), .int .i64 (F j 1), .int .i64 (F j 2)])) rfl (by kernel_rfl) (by kernel_rfl) (by kernel_rfl) (fun _ _ _ h => h) (Or.inl ⟨by rfl, fun w' hS => by (try dsimp only at hS); go_simp⟩) hS0 ?_
          simp only [Act.put, List.setIfInBounds_toArray, List.set_cons_zero, List.set_cons_succ]
          refine wpAnyH_ready (rs := [4]) (by kernel_rfl) (by simp) ?_
          refine AllReadyH.cons (o := { dst := some 36, op := Op.call { callee := Callee.invoke (Operand.tmp 35) "loop.example/g00620/impl.written", args := #[], argTypes := #[] }, type := 170, pos := _, after := #[{ on := 3, ground := Ground.data }, { on := 2, ground := Ground.chain }, { on := 2, ground := Ground.guard }], guard := some (2, false) }) rfl (fun K hK => ?_) AllReadyH.nil
          have hm := method6
          have ha := ahead6
          go_simp
          clear hm ha
          refine (written6_any _).mono ?_
          rintro e w7 ⟨rfl, hb7⟩
          replace HBW : Hid (Blw w w7) := (HBW.out.trans (Blw.refl w2).drew).trans hb7
          replace HPW : Hid (Row w7 w.heap.size n (fun i => if i < j then iv (F i 0) (F i 1) (F i 2) else .nilIface)) := (HPW.out.blw (Blw.refl w2).drew).blw hb7
          have hS9 := get3 ((HBX.out.blw (Blw.refl w2).drew).blw hb7)
          clear hb7
          refine hK.out _ _ hS9 (fun hB => ?_)
          clear hK K hB
          try simp only [Act.put, List.setIfInBounds_toArray, List.set_cons_zero, List.set_cons_succ]
          refine wpAnyH_take (i := 6) (oi := { dst := some 38, op := Op.binOp BinOp.neq 170 (Operand.tmp 36) (Operand.tmp 37) 170, type := 4, pos := _, after := #[{ on := 4, ground := Ground.data }, { on := 5, ground := Ground.data }, { on := 2, ground := Ground.guard }], guard := some (2, false) }) (v := (.bool false)) rfl (by kernel_rfl) (by kernel_rfl) (by kernel_rfl) (fun _ _ _ h => h) (Or.inl ⟨by rfl, fun w' hS => by (try dsimp only at hS); go_simp⟩) hS9 ?_
          simp only [Act.put, List.setIfInBounds_toArray, List.set_cons_zero, List.set_cons_succ]
          refine wpAnyH_take (i := 7) (oi := { dst := some 39, op := Op.pick (Operand.tmp 34) (Operand.const (Value.bool true)) (Operand.tmp 38), type := 4, pos := _, after := #[{ on := 2, ground := Ground.data }, { on := 6, ground := Ground.data }], guard := none }) (v := (.bool false)) rfl (by kernel_rfl) (by kernel_rfl) (by kernel_rfl) (fun _ _ _ h => h) (Or.inl ⟨by rfl, fun w' hS => by (try dsimp only at hS); go_simp⟩) hS9 ?_
          simp only [Act.put, List.setIfInBounds_toArray, List.set_cons_zero, List.set_cons_succ]
          refine wpAnyH_done (by kernel_rfl) ?_ _
          refine NoPanic.normal ?_
          clear hN
          have HSTP : Hid _ := pc_step HV.out HBW.out HPW.out
          have HON : Hid (∀ t, t < j + 1 → insOK (F t 0) (F t 1) (F t 2)) := fun t ht => by
            by_cases e : t = j
            · rw [e]; exact HOK.out
            · exact HO.out t (by omega)
          obtain ⟨vv, gv⟩ : ∃ v, w7.cell? ⟨w.heap.size, j, none⟩ = some v := ⟨_, HPW.out.cell HLT.out⟩
          have fq := HPW.out.frozen j
          clear HO HOK HV HPW HBW HBX HE HFT
          go_wp2
          go_roundw
          case rel => exact ⟨j + 1, by omega, by go_num, HON.out, HSTP.out.1, HSTP.out.2⟩
          case measure => simp [intOf]; omega
        · have hN : ∀ w', (binOp .neq 170 (.agg #[.int .i64 (6 : Int), .int .i64 0, .int .i64 0]) (.agg #[.int .i64 (6 : Int), .int .i64 (F j 1), .int .i64 (F j 2)])).run Try.prog w' = .ok (.bool true) w' := fun w' => trip_ne _ _ _ _ _ hB w'
          have HOK : Hid (¬ insOK (F j 0) (F j 1) (F j 2)) := fun g => by
            have h1 := (insOK_iff _ _ _).1 g
            have h2 := h1.2.1
            have h3 := h1.2.2
            rw [HE.out] at h2 h3
            simp [wa] at h2
            simp [wx] at h3
            exact hB (by constructor <;> omega)
          clear hB
          go_upto_region 8 with fail
          have hS0 := get3 (HBX.out.blw (Blw.refl w2).drew)
          refine wp_region_noPanic ?_
          refine wp_region_held_drew (S := fun w' => w'.cell? ⟨zb, 0, none⟩ = some (.int .i64 (6 : Int)) ∧ w'.cell? ⟨zb, 1, none⟩ = some (.int .i64 (F j 1)) ∧ w'.cell? ⟨zb, 2, none⟩ = some (.int .i64 (F j 2))) (by kernel_rfl) hS0 (fun hB => ?_)
          clear hB
          refine wpAnyH_take (i := 0) (oi := { dst := some 32, op := Op.move (Operand.tmp 8), type := 4, pos := _, after := #[], guard := none }) (v := (.bool true)) rfl (by kernel_rfl) (by kernel_rfl) (by kernel_rfl) (fun _ _ _ h => h) (Or.inl ⟨by rfl, fun w' hS => by (try dsimp only at hS); go_simp⟩) hS0 ?_
          simp only [Act.put, List.setIfInBounds_toArray, List.set_cons_zero, List.set_cons_succ]
          refine wpAnyH_take (i := 1) (oi := { dst := some 33, op := Op.unOp UnOp.not 4 (Operand.tmp 32), type := 4, pos := _, after := #[{ on := 0, ground := Ground.data }], guard := none }) (v := (.bool false)) rfl (by kernel_rfl) (by kernel_rfl) (by kernel_rfl) (fun _ _ _ h => h) (Or.inl ⟨by rfl, fun w' hS => by (try dsimp only at hS); go_simp⟩) hS0 ?_
          simp only [Act.put, List.setIfInBounds_toArray, List.set_cons_zero, List.set_cons_succ]
          refine wpAnyH_take (i := 2) (oi := { dst := some 34, op := Op.move (Operand.tmp 33), type := 4, pos := _, after := #[{ on := 1, ground := Ground.data }], guard := none }) (v := (.bool false)) rfl (by kernel_rfl) (by kernel_rfl) (by kernel_rfl) (fun _ _ _ h => h) (Or.inl ⟨by rfl, fun w' hS => by (try dsimp only at hS); go_simp⟩) hS0 ?_
          simp only [Act.put, List.setIfInBounds_toArray, List.set_cons_zero, List.set_cons_succ]
          refine wpAnyH_take (i := 3) (oi := { dst := some 35, op := Op.move (Operand.tmp 7), type := 214, pos := _, after := #[{ on := 2, ground := Ground.guard }], guard := some (2, false) }) (v := (.iface 236 (.agg #[]))) rfl (by kernel_rfl) (by kernel_rfl) (by kernel_rfl) (fun _ _ _ h => h) (Or.inl ⟨by rfl, fun w' hS => by (try dsimp only at hS); go_simp⟩) hS0 ?_
          simp only [Act.put, List.setIfInBounds_toArray, List.set_cons_zero, List.set_cons_succ]
          refine wpAnyH_take (i := 5) (oi := { dst := some 37, op := Op.load 170 (Operand.tmp 6), type := 170, pos := _, after := #[{ on := 2, ground := Ground.guard }], guard := some (2, false) }) (v := (.agg #[.int .i64 (6 : Int), .int .i64 (F j 1), .int .i64 (F j 2)])) rfl (by kernel_rfl) (by kernel_rfl) (by kernel_rfl) (fun _ _ _ h => h) (Or.inl ⟨by rfl, fun w' hS => by (try dsimp only at hS); go_simp⟩) hS0 ?_
          simp only [Act.put, List.setIfInBounds_toArray, List.set_cons_zero, List.set_cons_succ]
          refine wpAnyH_ready (rs := [4]) (by kernel_rfl) (by simp) ?_
          refine AllReadyH.cons (o := { dst := some 36, op := Op.call { callee := Callee.invoke (Operand.tmp 35) "loop.example/g00620/impl.written", args := #[], argTypes := #[] }, type := 170, pos := _, after := #[{ on := 3, ground := Ground.data }, { on := 2, ground := Ground.chain }, { on := 2, ground := Ground.guard }], guard := some (2, false) }) rfl (fun K hK => ?_) AllReadyH.nil
          have hm := method6
          have ha := ahead6
          go_simp
          clear hm ha
          refine (written6_any _).mono ?_
          rintro e w7 ⟨rfl, hb7⟩
          replace HBW : Hid (Blw w w7) := (HBW.out.trans (Blw.refl w2).drew).trans hb7
          replace HPW : Hid (Row w7 w.heap.size n (fun i => if i < j then iv (F i 0) (F i 1) (F i 2) else .nilIface)) := (HPW.out.blw (Blw.refl w2).drew).blw hb7
          have hS9 := get3 ((HBX.out.blw (Blw.refl w2).drew).blw hb7)
          clear hb7
          refine hK.out _ _ hS9 (fun hB => ?_)
          clear hK K hB
          try simp only [Act.put, List.setIfInBounds_toArray, List.set_cons_zero, List.set_cons_succ]
          refine wpAnyH_take (i := 6) (oi := { dst := some 38, op := Op.binOp BinOp.neq 170 (Operand.tmp 36) (Operand.tmp 37) 170, type := 4, pos := _, after := #[{ on := 4, ground := Ground.data }, { on := 5, ground := Ground.data }, { on := 2, ground := Ground.guard }], guard := some (2, false) }) (v := (.bool true)) rfl (by kernel_rfl) (by kernel_rfl) (by kernel_rfl) (fun _ _ _ h => h) (Or.inl ⟨by rfl, fun w' hS => by (try dsimp only at hS); go_simp⟩) hS9 ?_
          simp only [Act.put, List.setIfInBounds_toArray, List.set_cons_zero, List.set_cons_succ]
          refine wpAnyH_take (i := 7) (oi := { dst := some 39, op := Op.pick (Operand.tmp 34) (Operand.const (Value.bool true)) (Operand.tmp 38), type := 4, pos := _, after := #[{ on := 2, ground := Ground.data }, { on := 6, ground := Ground.data }], guard := none }) (v := (.bool true)) rfl (by kernel_rfl) (by kernel_rfl) (by kernel_rfl) (fun _ _ _ h => h) (Or.inl ⟨by rfl, fun w' hS => by (try dsimp only at hS); go_simp⟩) hS9 ?_
          simp only [Act.put, List.setIfInBounds_toArray, List.set_cons_zero, List.set_cons_succ]
          refine wpAnyH_done (by kernel_rfl) ?_ _
          refine NoPanic.normal ?_
          clear hN HV
          go_wp2
          exact bodyPost_ret (v := .tuple #[.slice none 0 0, .bool false]) (by simp [results, Try.results129, go_sem]) rfl ⟨Or.inr ⟨fun g => HOK.out (g.i j HLT.out), rfl⟩, HBW.out⟩
      · have HV : Hid (iv (F j 0) (F j 1) (F j 2) = .iface 237 (.agg #[])) := by show _ = _; rw [e]; rfl
        rw [HV.out, e]
        have HE : Hid (F j 0 = 7) := e
        have HBX : Hid (Row w2 zb 3 (fun i => if i = 0 then .int .i64 (7 : Int) else if i = 1 then .int .i64 (F j 1) else .int .i64 (F j 2))) := by have h9 := HX.out; rw [e] at h9; exact h9
        clear e HX
        by_cases hB : F j 1 = 0 ∧ F j 2 = 0
        · have hN : ∀ w', (binOp .neq 170 (.agg #[.int .i64 (7 : Int), .int .i64 0, .int .i64 0]) (.agg #[.int .i64 (7 : Int), .int .i64 (F j 1), .int .i64 (F j 2)])).run Try.prog w' = .ok (.bool false) w' := fun w' => trip_eq _ _ _ _ _ hB w'
          have HOK : Hid (insOK (F j 0) (F j 1) (F j 2)) := (insOK_iff _ _ _).2 ⟨HFT.out, by rw [HE.out]; (try rw [hB.1]); simp [wa], by rw [HE.out]; (try rw [hB.2]); simp [wx]⟩
          clear hB
          go_upto_region 8 with fail
          have hS0 := get3 (HBX.out.blw (Blw.refl w2).drew)
          refine wp_region_noPanic ?_
          refine wp_region_held_drew (S := fun w' => w'.cell? ⟨zb, 0, none⟩ = some (.int .i64 (7 : Int)) ∧ w'.cell? ⟨zb, 1, none⟩ = some (.int .i64 (F j 1)) ∧ w'.cell? ⟨zb, 2, none⟩ = some (.int .i64 (F j 2))) (by kernel_rfl) hS0 (fun hB => ?_)
          clear hB
          refine wpAnyH_take (i := 0) (oi := { dst := some 32, op := Op.move (Operand.tmp 8), type := 4, pos := _, after := #[], guard := none }) (v := (.bool true)) rfl (by kernel_rfl) (by kernel_rfl) (by kernel_rfl) (fun _ _ _ h => h) (Or.inl ⟨by rfl, fun w' hS => by (try dsimp only at hS); go_simp⟩) hS0 ?_
          simp only [Act.put, List.setIfInBounds_toArray, List.set_cons_zero, List.set_cons_succ]
          refine wpAnyH_take (i := 1) (oi := { dst := some 33, op := Op.unOp UnOp.not 4 (Operand.tmp 32), type := 4, pos := _, after := #[{ on := 0, ground := Ground.data }], guard := none }) (v := (.bool false)) rfl (by kernel_rfl) (by kernel_rfl) (by kernel_rfl) (fun _ _ _ h => h) (Or.inl ⟨by rfl, fun w' hS => by (try dsimp only at hS); go_simp⟩) hS0 ?_
          simp only [Act.put, List.setIfInBounds_toArray, List.set_cons_zero, List.set_cons_succ]
          refine wpAnyH_take (i := 2) (oi := { dst := some 34, op := Op.move (Operand.tmp 33), type := 4, pos := _, after := #[{ on := 1, ground := Ground.data }], guard := none }) (v := (.bool false)) rfl (by kernel_rfl) (by kernel_rfl) (by kernel_rfl) (fun _ _ _ h => h) (Or.inl ⟨by rfl, fun w' hS => by (try dsimp only at hS); go_simp⟩) hS0 ?_
          simp only [Act.put, List.setIfInBounds_toArray, List.set_cons_zero, List.set_cons_succ]
          refine wpAnyH_take (i := 3) (oi := { dst := some 35, op := Op.move (Operand.tmp 7), type := 214, pos := _, after := #[{ on := 2, ground := Ground.guard }], guard := some (2, false) }) (v := (.iface 237 (.agg #[]))) rfl (by kernel_rfl) (by kernel_rfl) (by kernel_rfl) (fun _ _ _ h => h) (Or.inl ⟨by rfl, fun w' hS => by (try dsimp only at hS); go_simp⟩) hS0 ?_
          simp only [Act.put, List.setIfInBounds_toArray, List.set_cons_zero, List.set_cons_succ]
          refine wpAnyH_take (i := 5) (oi := { dst := some 37, op := Op.load 170 (Operand.tmp 6), type := 170, pos := _, after := #[{ on := 2, ground := Ground.guard }], guard := some (2, false) }) (v := (.agg #[.int .i64 (7 : Int), .int .i64 (F j 1), .int .i64 (F j 2)])) rfl (by kernel_rfl) (by kernel_rfl) (by kernel_rfl) (fun _ _ _ h => h) (Or.inl ⟨by rfl, fun w' hS => by (try dsimp only at hS); go_simp⟩) hS0 ?_
          simp only [Act.put, List.setIfInBounds_toArray, List.set_cons_zero, List.set_cons_succ]
          refine wpAnyH_ready (rs := [4]) (by kernel_rfl) (by simp) ?_
          refine AllReadyH.cons (o := { dst := some 36, op := Op.call { callee := Callee.invoke (Operand.tmp 35) "loop.example/g00620/impl.written", args := #[], argTypes := #[] }, type := 170, pos := _, after := #[{ on := 3, ground := Ground.data }, { on := 2, ground := Ground.chain }, { on := 2, ground := Ground.guard }], guard := some (2, false) }) rfl (fun K hK => ?_) AllReadyH.nil
          have hm := method7
          have ha := ahead7
          go_simp
          clear hm ha
          refine (written7_any _).mono ?_
          rintro e w7 ⟨rfl, hb7⟩
          replace HBW : Hid (Blw w w7) := (HBW.out.trans (Blw.refl w2).drew).trans hb7
          replace HPW : Hid (Row w7 w.heap.size n (fun i => if i < j then iv (F i 0) (F i 1) (F i 2) else .nilIface)) := (HPW.out.blw (Blw.refl w2).drew).blw hb7
          have hS9 := get3 ((HBX.out.blw (Blw.refl w2).drew).blw hb7)
          clear hb7
          refine hK.out _ _ hS9 (fun hB => ?_)
          clear hK K hB
          try simp only [Act.put, List.setIfInBounds_toArray, List.set_cons_zero, List.set_cons_succ]
          refine wpAnyH_take (i := 6) (oi := { dst := some 38, op := Op.binOp BinOp.neq 170 (Operand.tmp 36) (Operand.tmp 37) 170, type := 4, pos := _, after := #[{ on := 4, ground := Ground.data }, { on := 5, ground := Ground.data }, { on := 2, ground := Ground.guard }], guard := some (2, false) }) (v := (.bool false)) rfl (by kernel_rfl) (by kernel_rfl) (by kernel_rfl) (fun _ _ _ h => h) (Or.inl ⟨by rfl, fun w' hS => by (try dsimp only at hS); go_simp⟩) hS9 ?_
          simp only [Act.put, List.setIfInBounds_toArray, List.set_cons_zero, List.set_cons_succ]
          refine wpAnyH_take (i := 7) (oi := { dst := some 39, op := Op.pick (Operand.tmp 34) (Operand.const (Value.bool true)) (Operand.tmp 38), type := 4, pos := _, after := #[{ on := 2, ground := Ground.data }, { on := 6, ground := Ground.data }], guard := none }) (v := (.bool false)) rfl (by kernel_rfl) (by kernel_rfl) (by kernel_rfl) (fun _ _ _ h => h) (Or.inl ⟨by rfl, fun w' hS => by (try dsimp only at hS); go_simp⟩) hS9 ?_
          simp only [Act.put, List.setIfInBounds_toArray, List.set_cons_zero, List.set_cons_succ]
          refine wpAnyH_done (by kernel_rfl) ?_ _
          refine NoPanic.normal ?_
          clear hN
          have HSTP : Hid _ := pc_step HV.out HBW.out HPW.out
          have HON : Hid (∀ t, t < j + 1 → insOK (F t 0) (F t 1) (F t 2)) := fun t ht => by
            by_cases e : t = j
            · rw [e]; exact HOK.out
            · exact HO.out t (by omega)
          obtain ⟨vv, gv⟩ : ∃ v, w7.cell? ⟨w.heap.size, j, none⟩ = some v := ⟨_, HPW.out.cell HLT.out⟩
          have fq := HPW.out.frozen j
          clear HO HOK HV HPW HBW HBX HE HFT
          go_wp2
          go_roundw
          case rel => exact ⟨j + 1, by omega, by go_num, HON.out, HSTP.out.1, HSTP.out.2⟩
          case measure => simp [intOf]; omega
        · have hN : ∀ w', (binOp .neq 170 (.agg #[.int .i64 (7 : Int), .int .i64 0, .int .i64 0]) (.agg #[.int .i64 (7 : Int), .int .i64 (F j 1), .int .i64 (F j 2)])).run Try.prog w' = .ok (.bool true) w' := fun w' => trip_ne _ _ _ _ _ hB w'
          have HOK : Hid (¬ insOK (F j 0) (F j 1) (F j 2)) := fun g => by
            have h1 := (insOK_iff _ _ _).1 g
            have h2 := h1.2.1
            have h3 := h1.2.2
            rw [HE.out] at h2 h3
            simp [wa] at h2
            simp [wx] at h3
            exact hB (by constructor <;> omega)
          clear hB
          go_upto_region 8 with fail
          have hS0 := get3 (HBX.out.blw (Blw.refl w2).drew)
          refine wp_region_noPanic ?_
          refine wp_region_held_drew (S := fun w' => w'.cell? ⟨zb, 0, none⟩ = some (.int .i64 (7 : Int)) ∧ w'.cell? ⟨zb, 1, none⟩ = some (.int .i64 (F j 1)) ∧ w'.cell? ⟨zb, 2, none⟩ = some (.int .i64 (F j 2))) (by kernel_rfl) hS0 (fun hB => ?_)
          clear hB
          refine wpAnyH_take (i := 0) (oi := { dst := some 32, op := Op.move (Operand.tmp 8), type := 4, pos := _, after := #[], guard := none }) (v := (.bool true)) rfl (by kernel_rfl) (by kernel_rfl) (by kernel_rfl) (fun _ _ _ h => h) (Or.inl ⟨by rfl, fun w' hS => by (try dsimp only at hS); go_simp⟩) hS0 ?_
          simp only [Act.put, List.setIfInBounds_toArray, List.set_cons_zero, List.set_cons_succ]
          refine wpAnyH_take (i := 1) (oi := { dst := some 33, op := Op.unOp UnOp.not 4 (Operand.tmp 32), type := 4, pos := _, after := #[{ on := 0, ground := Ground.data }], guard := none }) (v := (.bool false)) rfl (by kernel_rfl) (by kernel_rfl) (by kernel_rfl) (fun _ _ _ h => h) (Or.inl ⟨by rfl, fun w' hS => by (try dsimp only at hS); go_simp⟩) hS0 ?_
          simp only [Act.put, List.setIfInBounds_toArray, List.set_cons_zero, List.set_cons_succ]
          refine wpAnyH_take (i := 2) (oi := { dst := some 34, op := Op.move (Operand.tmp 33), type := 4, pos := _, after := #[{ on := 1, ground := Ground.data }], guard := none }) (v := (.bool false)) rfl (by kernel_rfl) (by kernel_rfl) (by kernel_rfl) (fun _ _ _ h => h) (Or.inl ⟨by rfl, fun w' hS => by (try dsimp only at hS); go_simp⟩) hS0 ?_
          simp only [Act.put, List.setIfInBounds_toArray, List.set_cons_zero, List.set_cons_succ]
          refine wpAnyH_take (i := 3) (oi := { dst := some 35, op := Op.move (Operand.tmp 7), type := 214, pos := _, after := #[{ on := 2, ground := Ground.guard }], guard := some (2, false) }) (v := (.iface 237 (.agg #[]))) rfl (by kernel_rfl) (by kernel_rfl) (by kernel_rfl) (fun _ _ _ h => h) (Or.inl ⟨by rfl, fun w' hS => by (try dsimp only at hS); go_simp⟩) hS0 ?_
          simp only [Act.put, List.setIfInBounds_toArray, List.set_cons_zero, List.set_cons_succ]
          refine wpAnyH_take (i := 5) (oi := { dst := some 37, op := Op.load 170 (Operand.tmp 6), type := 170, pos := _, after := #[{ on := 2, ground := Ground.guard }], guard := some (2, false) }) (v := (.agg #[.int .i64 (7 : Int), .int .i64 (F j 1), .int .i64 (F j 2)])) rfl (by kernel_rfl) (by kernel_rfl) (by kernel_rfl) (fun _ _ _ h => h) (Or.inl ⟨by rfl, fun w' hS => by (try dsimp only at hS); go_simp⟩) hS0 ?_
          simp only [Act.put, List.setIfInBounds_toArray, List.set_cons_zero, List.set_cons_succ]
          refine wpAnyH_ready (rs := [4]) (by kernel_rfl) (by simp) ?_
          refine AllReadyH.cons (o := { dst := some 36, op := Op.call { callee := Callee.invoke (Operand.tmp 35) "loop.example/g00620/impl.written", args := #[], argTypes := #[] }, type := 170, pos := _, after := #[{ on := 3, ground := Ground.data }, { on := 2, ground := Ground.chain }, { on := 2, ground := Ground.guard }], guard := some (2, false) }) rfl (fun K hK => ?_) AllReadyH.nil
          have hm := method7
          have ha := ahead7
          go_simp
          clear hm ha
          refine (written7_any _).mono ?_
          rintro e w7 ⟨rfl, hb7⟩
          replace HBW : Hid (Blw w w7) := (HBW.out.trans (Blw.refl w2).drew).trans hb7
          replace HPW : Hid (Row w7 w.heap.size n (fun i => if i < j then iv (F i 0) (F i 1) (F i 2) else .nilIface)) := (HPW.out.blw (Blw.refl w2).drew).blw hb7
          have hS9 := get3 ((HBX.out.blw (Blw.refl w2).drew).blw hb7)
          clear hb7
          refine hK.out _ _ hS9 (fun hB => ?_)
          clear hK K hB
          try simp only [Act.put, List.setIfInBounds_toArray, List.set_cons_zero, List.set_cons_succ]
          refine wpAnyH_take (i := 6) (oi := { dst := some 38, op := Op.binOp BinOp.neq 170 (Operand.tmp 36) (Operand.tmp 37) 170, type := 4, pos := _, after := #[{ on := 4, ground := Ground.data }, { on := 5, ground := Ground.data }, { on := 2, ground := Ground.guard }], guard := some (2, false) }) (v := (.bool true)) rfl (by kernel_rfl) (by kernel_rfl) (by kernel_rfl) (fun _ _ _ h => h) (Or.inl ⟨by rfl, fun w' hS => by (try dsimp only at hS); go_simp⟩) hS9 ?_
          simp only [Act.put, List.setIfInBounds_toArray, List.set_cons_zero, List.set_cons_succ]
          refine wpAnyH_take (i := 7) (oi := { dst := some 39, op := Op.pick (Operand.tmp 34) (Operand.const (Value.bool true)) (Operand.tmp 38), type := 4, pos := _, after := #[{ on := 2, ground := Ground.data }, { on := 6, ground := Ground.data }], guard := none }) (v := (.bool true)) rfl (by kernel_rfl) (by kernel_rfl) (by kernel_rfl) (fun _ _ _ h => h) (Or.inl ⟨by rfl, fun w' hS => by (try dsimp only at hS); go_simp⟩) hS9 ?_
          simp only [Act.put, List.setIfInBounds_toArray, List.set_cons_zero, List.set_cons_succ]
          refine wpAnyH_done (by kernel_rfl) ?_ _
          refine NoPanic.normal ?_
          clear hN HV
          go_wp2
          exact bodyPost_ret (v := .tuple #[.slice none 0 0, .bool false]) (by simp [results, Try.results129, go_sem]) rfl ⟨Or.inr ⟨fun g => HOK.out (g.i j HLT.out), rfl⟩, HBW.out⟩
    · obtain rfl : j = n := by omega
      have HG : Hid (progOK j F) := ⟨by omega, by omega, HO.out⟩
      have HRN : Hid (Row wr w.heap.size j (fun i => iv (F i 0) (F i 1) (F i 2))) := HPW.out.congr (fun i hi => by simp [hi])
      clear HPW HO
      go_wp2
      exact bodyPost_ret (v := .tuple #[.slice (some ⟨w.heap.size, 0, none⟩) j j, .bool true]) (by simp [results, Try.results129, go_sem]) rfl ⟨Or.inl ⟨_, HG.out, rfl, HRN.out, Nat.le_refl _⟩, HBW.out⟩
end Go.Proofs.Ytbpdopcdhnemfaa
/- Great values: laid, read, stored as wholes. -/
namespace Go.Proofs.Ytbpdopcdhnemfaa
open Go.RowKit
set_option linter.unusedSimpArgs false
set_option linter.unusedVariables false
/-- What told is behind the many that count is 0. -/
def tz (g : GD) (i : Nat) : Int := if i < g.nt then g.t i else 0
/-- A held guest's cells. -/
def hcf (at_ acc : Int) (c t : Nat → Int) (many : Int) (d : Bool) : Nat → Value := fun i => if i = 0 then .int .i64 at_ else if i = 1 then .int .i64 acc else if i < 10 then .int .i64 (c (i - 2)) else if i < 30 then .int .i64 (t (i - 10)) else if i = 30 then .int .i64 many else .bool d
def hc (g : GD) : Nat → Value := hcf g.at_ g.acc g.c (tz g) g.nt g.d
def hz : Nat → Value := hcf 0 0 (fun _ => 0) (fun _ => 0) 0 false
def mcf (p : Value) (h : Nat → Value) (st : Nat → Bool) : Nat → Value := fun i => if i = 0 then p else if i < 33 then h (i - 1) else .bool (st (i - 33))
def mc (p : Value) (g : GD) (st : Nat → Bool) : Nat → Value := mcf p (hc g) st
def lst (n : Nat) (f : Nat → Value) : List Value := (List.range n).map f
theorem lst_len (n : Nat) (f : Nat → Value) : (lst n f).length = n := by simp [lst]
theorem lst_get {n : Nat} {f : Nat → Value} {i : Nat} (h : i < n) : (lst n f)[i]? = some (f i) := by simp [lst, h]
theorem lst_one {n : Nat} {f : Nat → Value} (h : ∀ i, i < n → (f i).oneCell' = true) : (lst n f).toArray.all (·.oneCell') = true := all_oneCell_toArray (by
  intro v hv
  obtain ⟨i, hi, rfl⟩ := List.mem_map.1 hv
  exact h i (List.mem_range.1 hi))
theorem hcf_one (at_ acc : Int) (c t : Nat → Int) (many : Int) (d : Bool) (i : Nat) : (hcf at_ acc c t many d i).oneCell' = true := by
  unfold hcf
  repeat' split
  all_goals rfl
theorem hc_one (g : GD) (i : Nat) : (hc g i).oneCell' = true := hcf_one _ _ _ _ _ _ i
theorem mc_one {p : Value} (hp : p.oneCell' = true) (g : GD) (st : Nat → Bool) (i : Nat) : (mc p g st i).oneCell' = true := by
  unfold mc mcf
  split
  · exact hp
  · split
    · exact hc_one _ _
    · rfl
/-- A type of n cells, that is read and stored as a whole. -/
structure Wd (T : TypeId) (n : Nat) : Prop where
  ex : ∃ d, Try.prog.underlying T = some d ∧ d.isRow = true
  size : (Try.prog.info? T).map (·.size) = some n
/-- Cells at a place of a block. -/
def Cells (w : World) (b o n : Nat) (f : Nat → Value) : Prop := ∀ i, i < n → w.cell? ⟨b, o + i, none⟩ = some (f i) ∧ w.frozen? ⟨b, o + i, none⟩ = false
theorem Row.cells {w : World} {b n : Nat} {f : Nat → Value} (h : Row w b n f) : Cells w b 0 n f := fun i hi => by rw [Nat.zero_add]; exact ⟨h.cell hi, h.frozen i⟩
theorem Row.cellsAt {w : World} {b n : Nat} {f g : Nat → Value} (h : Row w b n f) (o m : Nat) (hm : o + m ≤ n) (he : ∀ i, i < m → f (o + i) = g i) : Cells w b o m g := fun i hi => ⟨by rw [h.cell (by omega), he i hi], h.frozen _⟩
theorem Cells.blw {w w' : World} {b o n : Nat} {f : Nat → Value} (h : Cells w b o n f) (hb : Blw w w') : Cells w' b o n f := fun i hi => ⟨hb.cell (h i hi).1, by rw [hb.frozen (p := ⟨b, o + i, none⟩) (World.block_lt_of_cell? _ _ (h i hi).1)]; exact (h i hi).2⟩
theorem Cells.range {w : World} {b o n : Nat} {f : Nat → Value} (h : Cells w b o n f) : w.rangeAt b o (lst n f) := fun j v hv => by
  have hj : j < n := by have := (List.getElem?_eq_some_iff.1 hv).1; rwa [lst_len] at this
  rw [lst_get hj] at hv
  cases hv
  exact (h j hj).1
theorem load_big {ops : Array Oper} {rest : List Oper} {o : Oper} {a : Act} {w : World} {Q : Exit → Act → World → Prop} (hg : o.guard = none) (T : TypeId) (x : Operand) (ho : o.op = .load T x) (b off n : Nat) (hx : a.eval x = .pointer (some ⟨b, off, none⟩)) (f : Nat → Value) (hT : Wd T n) (hc : Cells w b off n f)
    (h : wpList Try.prog ops Q rest (a.put o.dst (.agg (lst n f).toArray)) w) : wpList Try.prog ops Q (o :: rest) a w := by
  obtain ⟨d, hu, hd⟩ := hT.ex
  exact wpList_load_mid hg T x ho b off hx (lst n f) d hc.range hu hd (by rw [lst_len]; exact hT.size) h
theorem run_load_big {w : World} {T : TypeId} {b off n : Nat} {f : Nat → Value} (hT : Wd T n) (hc : Cells w b off n f) : (loadVar T ⟨b, off, none⟩).run Try.prog w = .ok (.agg (lst n f).toArray) w := by
  obtain ⟨d, hu, hd⟩ := hT.ex
  exact run_loadVar_mid w b off T (lst n f) d hc.range hu hd (by rw [lst_len]; exact hT.size)
/-- Many cells of a block are set. -/
theorem setCells_row {w : World} {b n : Nat} {f g : Nat → Value} (h : Row w b n g) : Row (w.setCells b 0 (lst n f)) b n f ∧ Mod (fun x => x = b) w (w.setCells b 0 (lst n f)) ∧ (w.setCells b 0 (lst n f)).heap.size = w.heap.size := by
  suffices H : ∀ (m k : Nat) (w : World) (g : Nat → Value), k + m = n → Row w b n g → Row (w.setCells b k ((List.range' k m).map f)) b n (fun i => if k ≤ i then f i else g i) ∧ Mod (fun x => x = b) w (w.setCells b k ((List.range' k m).map f)) ∧ (w.setCells b k ((List.range' k m).map f)).heap.size = w.heap.size by
    have := H n 0 w g (by omega) h
    rw [← List.range_eq_range'] at this
    exact ⟨this.1.congr (fun i hi => by simp), this.2⟩
  intro m
  induction m with
  | zero =>
    intro k w g hk h
    refine ⟨h.congr (fun i hi => by rw [if_neg (by omega)]), Mod.refl _ _, rfl⟩
  | succ m ih =>
    intro k w g hk h
    have hm : Mod (fun x => x = b) w (w.setCell ⟨b, k, none⟩ (f k)) := Mod.setCell (X := fun x => x = b) _ (p := ⟨b, k, none⟩) rfl _
    obtain ⟨h1, h2, h3⟩ := ih (k + 1) (w.setCell ⟨b, k, none⟩ (f k)) _ (by omega) (h.set k (f k))
    rw [List.range'_succ, List.map_cons, World.setCells]
    refine ⟨h1.congr (fun i hi => ?_), hm.trans h2, h3.trans (by simp [World.setCell])⟩
    by_cases e : k + 1 ≤ i
    · rw [if_pos e, if_pos (by omega)]
    · by_cases e2 : i = k
      · subst e2; simp
      · rw [if_neg e, if_neg e2, if_neg (by omega)]
theorem there_of {w : World} {b n : Nat} {g : Nat → Value} (h : Row w b n g) : w.there b 0 n := fun j hj => by rw [Nat.zero_add, h.cell hj]; exact ⟨rfl, h.frozen j⟩
theorem store_big {ops : Array Oper} {rest : List Oper} {o : Oper} {a : Act} {w : World} {Q : Exit → Act → World → Prop} (hgd : o.guard = none) (T : TypeId) (x y : Operand) (ho : o.op = .store T x y) (b n : Nat) (f g : Nat → Value)
    (hx : a.eval x = .pointer (some ⟨b, 0, none⟩)) (hy : a.eval y = .agg (lst n f).toArray) (hT : Wd T n) (hr : Row w b n g) (h1 : ∀ i, i < n → (f i).oneCell' = true)
    (h : ∀ w', Row w' b n f → Mod (fun x => x = b) w w' → w'.heap.size = w.heap.size → wpList Try.prog ops Q rest (a.put o.dst undef) w') : wpList Try.prog ops Q (o :: rest) a w := by
  have hs : (lst n f).toArray.size = n := by simp [lst]
  refine wpList_store_mid hgd T x y ho b 0 (lst n f).toArray hx hy (by rw [hs]; exact there_of hr) (by rw [hs]; exact hT.size) (lst_one h1) ?_
  obtain ⟨k1, k2, k3⟩ := setCells_row (f := f) hr
  exact h _ k1 k2 k3
theorem alloc_big {ops : Array Oper} {rest : List Oper} {o : Oper} {a : Act} {w : World} {Q : Exit → Act → World → Prop} (hgd : o.guard = none) (T : TypeId) (ho : o.op = .alloc T) (n : Nat) (z : Nat → Value) (hz : ((Try.prog.info? T).bind (·.zero)).map Value.cells = some (lst n z).toArray)
    (h : ∀ w', Row w' w.heap.size n z → Blw w w' → w'.heap.size = w.heap.size + 1 → wpList Try.prog ops Q rest (a.put o.dst (.pointer (some ⟨w.heap.size, 0, none⟩))) w') : wpList Try.prog ops Q (o :: rest) a w := by
  refine wpList_plain hgd fun K hK => ?_
  have hrun : (Instr.alloc T true (.tuple #[])).run Try.prog w = .ok (.pointer (some ⟨w.heap.size, 0, none⟩)) (w.alloc (.cells (lst n z).toArray T)) := by
    cases hq : Try.prog.info? T with
    | none => simp [hq] at hz
    | some i =>
      cases hq2 : i.zero with
      | none => simp [hq, hq2] at hz
      | some v =>
        simp [hq, hq2] at hz
        simp [Instr.alloc, zeroValue, typeInfo, newVar, hq, hq2, go_sem]
        rw [← hz]
        rfl
  unfold Oper.wp execOp
  simp only [ho, Sem.run_bind, hrun, Result.andThen_ok]
  refine hK _ _ (h _ ?_ ((Blw.refl _).alloc _) (by simp))
  exact ⟨_, T, heap_alloc_new _ _, by simp [lst], fun i hi => by simp [lst, hi]⟩
/-- copy as one step, its run said by the caller. -/
theorem step_copy_run {ops : Array Oper} {o : Oper} {a : Act} {w : World} {K : Act → World → Prop} {Q : Exit → Act → World → Prop} {E : Prop} (hgd : o.guard = none) (d s : Operand) (dT sT : TypeId)
    (ho : o.op = .call { callee := .builtin .copy, args := #[d, s], argTypes := #[dT, sT] }) (vd vs : Value) (hd : a.eval d = vd) (hs : a.eval s = vs) (m : Nat) (w' : World)
    (hrun : (Builtin.copy_ #[dT, sT] o.type #[vd, vs]).run Try.prog w = .ok (goInt m) w') (h : K (a.put o.dst (goInt m)) w') :
    if Region.wanted o (yielded ops a.tmps) = true then Oper.wp Try.prog o a w K Q else E := by
  have hw : Region.wanted o (yielded ops a.tmps) = true := by simp [Region.wanted, hgd]
  rw [if_pos hw]
  unfold Oper.wp
  simp [execOp, ho, resolve, invoke, builtin, hd, hs, hrun, Result.andThen]
  exact h
theorem copy_nil (b o dl dc c : Nat) (w : World) : (Builtin.copy_ #[26, 26] 3 #[.slice (some ⟨b, o, none⟩) dl dc, .slice none 0 c]).run Try.prog w = .ok (goInt 0) w := by
  simp [Builtin.copy_, go_sem]
theorem tinfoI : (Try.prog.info? 3).map (·.size) = some 1 := by kernel_rfl
/-- copy of numbers that are read into a row. -/
theorem copy_ints {Y : Nat → Prop} {w : World} {ao : Option Addr} {n c b off dc N : Nat} {f : Nat → Int} {g : Nat → Value} (dl : Nat) (h : IntsAt Y w ao n f) (hn : n ≤ dl) (hr : Row w b N g) (hfit : off + dl ≤ N) (hao : ao = none → n = 0) :
    ∃ w', (Builtin.copy_ #[26, 26] 3 #[.slice (some ⟨b, off, none⟩) dl dc, .slice ao n c]).run Try.prog w = .ok (goInt n) w' ∧ Row w' b N (fun i => if off ≤ i ∧ i < off + n then .int .i64 (f (i - off)) else g i) ∧ Mod (fun x => x = b) w w' ∧ w'.heap.size = w.heap.size := by
  cases ao with
  | none =>
    obtain rfl := hao rfl
    exact ⟨w, copy_nil _ _ _ _ _ _, hr.congr (fun i hi => by rw [if_neg (by omega)]), Mod.refl _ _, rfl⟩
  | some ad =>
    refine run_copy_fn (P := Try.prog) w 26 26 3 3 b off dl dc ad n c n (fun j => .int .i64 (f j)) N g Try.underlying26 tinfoI (by show n = min n dl; omega) (fun j hj => ?_) (fun _ _ => rfl) hr (by omega)
    obtain ⟨b', o', e, -, hc⟩ := h.2 j hj
    cases e
    rw [Addr.add_mid]
    exact hc
theorem wdH : Wd 148 32 := ⟨⟨_, Try.underlying148, rfl⟩, by kernel_rfl⟩
theorem wdM : Wd 151 41 := ⟨⟨_, Try.underlying151, rfl⟩, by kernel_rfl⟩
def fF : Nat → Bool := fun _ => false
def mz : Nat → Value := mcf (.slice none 0 0) hz fF
theorem zeroH : ((Try.prog.info? 148).bind (·.zero)).map Value.cells = some (lst 32 hz).toArray := by kernel_rfl
theorem zeroM : ((Try.prog.info? 151).bind (·.zero)).map Value.cells = some (lst 41 mz).toArray := by kernel_rfl
end Go.Proofs.Ytbpdopcdhnemfaa
