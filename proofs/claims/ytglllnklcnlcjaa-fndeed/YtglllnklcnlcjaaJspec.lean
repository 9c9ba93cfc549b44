/- Merged by program, in this order: SpecW, SpecN, SpecF, SpecS, SpecR, SpecD. -/
import Derived.Test.YtglllnklcnlcjaaLawM
import Derived.Test.YtglllnklcnlcjaaFlushI
import Derived.Test.YtglllnklcnlcjaaData
import Derived.Test.YtglllnklcnlcjaaGoodP
import Derived.Test.YtglllnklcnlcjaaDeedS
import Derived.Test.YtglllnklcnlcjaaLawG
/- The model's memory that changes, with all that it was. -/
namespace Go.Proofs.Ytglllnklcnlcjaa
open Go.RowKit
set_option linter.unusedSimpArgs false
set_option linter.unusedVariables false
def appIs (o : Oper) (i j t : Nat) : Bool :=
  match appOf o with
  | some (.tmp i', .tmp j', t') => i == i' && j == j' && t == t'
  | _ => false
theorem step_appIs {w : World} {ops : Array Oper} {o : Oper} {a : Act} {K : Act → World → Prop} {Q : Exit → Act → World → Prop} {E : Prop} (i j t : Nat) (ho : appIs o i j t = true)
    (h : ∃ r w', (Builtin.append_ #[t, t] o.type #[a.eval (.tmp i), a.eval (.tmp j)]).run Try.prog w = .ok r w' ∧ K (a.put o.dst r) w') :
    if Region.wanted o (yielded ops a.tmps) = true then Oper.wp Try.prog o a w K Q else E := by
  refine step_app (.tmp i) (.tmp j) t ?_ h
  unfold appIs at ho
  split at ho
  · rename_i e
    simp at ho
    obtain ⟨⟨rfl, rfl⟩, rfl⟩ := ho
    exact e
  · cases ho
theorem Mod.newer {X Z : Nat → Prop} {a b c : World} (h : Mod X a b) (k : Mod Z b c) (hz : ∀ i, Z i → a.heap.size ≤ i) : Mod X a c :=
  ⟨k.os.trans h.os, k.tape.trans h.tape, k.output.trans h.output, Nat.le_trans h.size k.size, fun i hi hx => (k.block i (Nat.lt_of_lt_of_le hi h.size) (fun e => by have := hz i e; omega)).trans (h.block i hi hx)⟩
/-- The four cells at B: a memory's slices, and a list. -/
def lcell (m : MV) (v : Value) : Nat → Value := fun i => if i = 0 then .slice m.a1 12 m.c1 else if i = 1 then .slice m.a2 12 m.c2 else if i = 2 then .slice m.a3 12 m.c3 else v
theorem get4 {w : World} {B : Nat} {m : MV} {v : Value} (r : Row w B 4 (lcell m v)) : w.cell? ⟨B, 0, none⟩ = some (.slice m.a1 12 m.c1) ∧ w.cell? ⟨B, 1, none⟩ = some (.slice m.a2 12 m.c2) ∧ w.cell? ⟨B, 2, none⟩ = some (.slice m.a3 12 m.c3) ∧ w.cell? ⟨B, 3, none⟩ = some v :=
  ⟨r.cell (i := 0) (by omega), r.cell (i := 1) (by omega), r.cell (i := 2) (by omega), r.cell (i := 3) (by omega)⟩
theorem set_now {w : World} {B : Nat} {m m' : MV} {v : Value} (r : Row w B 4 (lcell m v)) : Row (((w.setCell ⟨B, 0, none⟩ (.slice m'.a1 12 m'.c1)).setCell ⟨B, 1, none⟩ (.slice m'.a2 12 m'.c2)).setCell ⟨B, 2, none⟩ (.slice m'.a3 12 m'.c3)) B 4 (lcell m' v) :=
  (((r.set 0 _).set 1 _).set 2 _).congr (fun i hi => by
    match i, hi with
    | 0, _ => rfl
    | 1, _ => rfl
    | 2, _ => rfl
    | 3, _ => rfl)
theorem set_all {w : World} {B : Nat} {m : MV} {v v' : Value} (r : Row w B 4 (lcell m v)) : Row (w.setCell ⟨B, 3, none⟩ v') B 4 (lcell m v') :=
  (r.set 3 _).congr (fun i hi => by
    match i, hi with
    | 0, _ => rfl
    | 1, _ => rfl
    | 2, _ => rfl
    | 3, _ => rfl)
/-- At B: a memory that holds H, and a list of memories M; what is written lies at lo or behind it. -/
structure LW (Q : Nat → Prop) (lo : Nat) (w : World) (B : Nat) (H : HS) (n : Nat) (M : Nat → MD) : Prop where
  ex : ∃ (m : MV) (v : Value) (X Y : Nat → Prop), Row w B 4 (lcell m v) ∧ MemAt Y w m H.md ∧ MBuf X w v n M ∧ (∀ x, X x → lo ≤ x ∧ x < w.heap.size ∧ x ≠ B) ∧ (∀ x, Y x → x < w.heap.size ∧ ¬ X x ∧ x ≠ B ∧ (Q x ∨ lo ≤ x))
  good : H.md.Good
  lo : lo ≤ B
theorem LW.mod {Q : Nat → Prop} {lo : Nat} {w w' : World} {B : Nat} {H : HS} {n : Nat} {M : Nat → MD} (h : LW Q lo w B H n M) (hb : Blw w w') : LW Q lo w' B H n M := by
  obtain ⟨m, v, X, Y, r, a, b, hX, hY⟩ := h.ex
  have := hb.size
  exact ⟨⟨m, v, X, Y, r.blw hb, a.blw hb, b.blw hb, fun x hx => by have := hX x hx; omega, fun x hx => by have := hY x hx; exact ⟨by omega, this.2⟩⟩, h.good, h.lo⟩
theorem own_now {X Q : Nat → Prop} {lo : Nat} {w w1 w2 w3 : World} {B n : Nat} {m m2 : MV} {v : Value} {M : Nat → MD} {H' : HS} {Z : Nat → Prop}
    (r : Row w B 4 (lcell m v)) (b : MBuf X w v n M) (hX : ∀ x, X x → lo ≤ x ∧ x < w.heap.size ∧ x ≠ B) (good : H'.md.Good) (hlo : lo ≤ B)
    (hb : Blw w w1) (hm2 : Mod (fun x => x = B) w1 w2) (r2 : Row w2 B 4 (lcell m2 v)) (own : MemOwn Z w3 m2 H'.md) (hZ : ∀ x, Z x → w.heap.size ≤ x ∧ x < w3.heap.size) (hm3 : Mod (fun x => w.heap.size ≤ x) w2 w3) :
    LW Q lo w3 B H' n M ∧ Mod (fun x => x = B) w w3 := by
  have lt := r.lt
  have s1 := hb.size
  have s2 := hm2.size
  have s3 := hm3.size
  refine ⟨⟨⟨m2, v, X, Z, r2.mod hm3 (by omega), own.at, ((b.blw hb).mod hm2 (fun x hx => (hX x hx).2.2)).mod hm3 (fun x hx => by have := (hX x hx).2.1; omega), fun x hx => ?_, fun x hx => ?_⟩, good, hlo⟩, ((hb.mod _).trans hm2).newer hm3 (fun i hi => hi)⟩
  · have := hX x hx; omega
  · have := hZ x hx
    exact ⟨by omega, fun h => by have := hX x h; omega, by omega, Or.inr (by omega)⟩
set_option maxHeartbeats 3200000 in
theorem lwStoreA_any {Q : Nat → Prop} (lo B : Nat) (H : HS) (n : Nat) (M : Nat → MD) (k : Nat) (x : Int) (w : World) (hk : k < 48) (hx : 0 ≤ x ∧ x ≤ 65535) (h : LW Q lo w B H n M) :
    Calls Try.prog 95 #[.pointer (some ⟨B, 0, none⟩), .int .i64 k, .int .i64 x] w fun e w' => (∃ v, e = .returned v) ∧ ∀ Q', LW Q' lo w' B (H.st k x) n M ∧ Mod (fun b => b = B) w w' := by
  obtain ⟨m, v, X, Y, r, a, b, hX, hY⟩ := h.ex
  have good := h.good
  have hlo := h.lo
  clear h
  obtain ⟨p0, p1, p2, p3⟩ := get4 r
  go_enter Try.func95, Try.ntmps95
  go_wp2_with fail
  clear p0 p1 p2 p3
  refine (l1Own_any m H.md Y _ good a).mono ?_
  rintro e w1 ⟨m2, rfl, own, hb1⟩
  have r1 := r.blw hb1
  obtain ⟨p0, p1, p2, p3⟩ := get4 r1
  have f0 := r1.frozen 0
  have f1 := r1.frozen 1
  have f2 := r1.frozen 2
  have r2 := set_now (m' := m2) r1
  have hm2 := mod_set3 w1 B (.slice m2.a1 12 m2.c1) (.slice m2.a2 12 m2.c2) (.slice m2.a3 12 m2.c3)
  have lt := r.lt
  have own2 := own.mod hm2 (fun x hx => by have := hx.1; omega)
  have HR : Hid _ := r
  have HBf : Hid _ := b
  have HX : Hid _ := hX
  have HB1 : Hid _ := hb1
  simp only [MV.val, HS.md, MD.full] at *
  clear r b hX hb1 own r1 a hY
  have HM2 : Hid _ := hm2
  have HR2 : Hid _ := r2
  have HO2 : Hid _ := own2
  obtain ⟨q0, q1, q2, q3⟩ := get4 r2
  clear hm2 r2 own2 p3 q3
  go_wp2_with fail
  clear p0 p1 p2 f0 f1 f2 q0 q1 q2
  have s1 := HB1.out.size
  have s2 := HM2.out.size
  refine (l1Store_any m2 H.s H.c H.d _ _ k x hk HO2.out (fun b hb => by have := hb.2; omega)).mono ?_
  rintro e w3 ⟨⟨v', rfl⟩, own3, hm3⟩
  have s3 := hm3.size
  have FIN : Hid (∀ Q', LW Q' lo w3 B (H.st k x) n M ∧ Mod (fun b => b = B) w w3) := fun Q' => own_now (Q := Q') (H' := H.st k x) HR.out HBf.out HX.out (good_st good hx) hlo HB1.out HM2.out HR2.out own3 (fun x hx => ⟨hx.1, by have := hx.2; omega⟩) (hm3.mono (fun x hx => hx.1))
  clear HR HBf HX HB1 HM2 HR2 HO2 own3 hm3
  go_wp2
  refine bodyPost_end (results_none rfl _ _ _) rfl ?_
  exact ⟨⟨_, rfl⟩, FIN.out⟩
theorem lwStore_any {Q : Nat → Prop} (lo B : Nat) (H : HS) (n : Nat) (M : Nat → MD) (k : Nat) (x : Int) (w : World) (hk : k < 48) (hx : 0 ≤ x ∧ x ≤ 65535) (h : LW Q lo w B H n M) :
    Calls Try.prog 95 #[.pointer (some ⟨B, 0, none⟩), .int .i64 k, .int .i64 x] w fun e w' => (∃ v, e = .returned v) ∧ LW Q lo w' B (H.st k x) n M ∧ Mod (fun b => b = B) w w' :=
  (lwStoreA_any lo B H n M k x w hk hx h).mono fun e w' ⟨h1, h2⟩ => ⟨h1, h2 Q⟩
end Go.Proofs.Ytglllnklcnlcjaa
/- The model's note of what a memory is. -/
namespace Go.Proofs.Ytglllnklcnlcjaa
open Go.RowKit
set_option linter.unusedSimpArgs false
set_option linter.unusedVariables false
/-- Behind a note. -/
theorem noted {X Y Q : Nat → Prop} {lo : Nat} {w w1 w2 : World} {B n : Nat} {m : MV} {v v2 : Value} {H : HS} {M' : Nat → MD}
    (r : Row w B 4 (lcell m v)) (a : MemAt Y w m H.md) (hX : ∀ x, X x → lo ≤ x ∧ x < w.heap.size ∧ x ≠ B) (hY : ∀ x, Y x → x < w.heap.size ∧ ¬ X x ∧ x ≠ B ∧ (Q x ∨ lo ≤ x)) (good : H.md.Good) (hlo : lo ≤ B) (hw : lo ≤ w.heap.size)
    (hb : Blw w w1) (hz : w1.heap.size ≤ w2.heap.size) (hB : MBuf (fun b => (X b ∨ (w.heap.size ≤ b ∧ b < w1.heap.size) ∨ b = w1.heap.size) ∧ b < w2.heap.size) w2 v2 (n + 1) M') (hm : Mod X w1 w2) :
    LW Q lo (w2.setCell ⟨B, 3, none⟩ v2) B H (n + 1) M' ∧ Mod (fun b => lo ≤ b) w (w2.setCell ⟨B, 3, none⟩ v2) := by
  have lt := r.lt
  have s1 := hb.size
  have hm3 := Mod.setCell (X := fun x => x = B) w2 (p := ⟨B, 3, none⟩) rfl v2
  have s3 := hm3.size
  have r2 := (r.blw hb).mod hm (fun h => (hX _ h).2.2 rfl)
  refine ⟨⟨⟨m, v2, _, Y, set_all r2, ((a.blw hb).mod hm (fun x hx => (hY x hx).2.1)).mod hm3 (fun x hx => (hY x hx).2.2.1), hB.mod hm3 (fun x hx e => ?_), fun x hx => ?_, fun x hx => ?_⟩, good, hlo⟩, (((hb.mod _).trans (hm.mono (fun x hx => (hX x hx).1))).trans (hm3.mono (fun x hx => by omega)))⟩
  · rcases hx.1 with h | h | h
    · exact (hX x h).2.2 e
    · omega
    · omega
  · rcases hx.1 with h | h | h
    · have := hX x h; exact ⟨this.1, by omega, this.2.2⟩
    · exact ⟨by omega, by omega, by omega⟩
    · exact ⟨by omega, by omega, by omega⟩
  · have := hY x hx
    refine ⟨by omega, fun h => ?_, this.2.2⟩
    rcases h.1 with h | h | h
    · exact this.2.1 h
    · omega
    · omega
set_option maxRecDepth 20000 in
set_option maxHeartbeats 6400000 in
theorem lwNote_any {Q : Nat → Prop} (lo B : Nat) (H : HS) (n : Nat) (M M' : Nat → MD) (w : World) (hn : n ≤ 1000) (hM : ∀ i, i < n → M i = M' i) (hMn : M' n = H.md) (hw : lo ≤ w.heap.size) (h : LW Q lo w B H n M) :
    Calls Try.prog 94 #[.pointer (some ⟨B, 0, none⟩)] w fun e w' => (∃ v, e = .returned v) ∧ LW Q lo w' B H (n + 1) M' ∧ Mod (fun b => lo ≤ b) w w' := by
  obtain ⟨m, v, X, Y, r, a, b, hX, hY⟩ := h.ex
  have good := h.good
  have hlo := h.lo
  clear h
  have RB : ∀ w', Blw w w' → Row w' B 4 (lcell m v) := fun w' hb => r.blw hb
  have KB : ∀ w', Row w' B 4 (lcell m v) → (w'.cell? ⟨B, 0, none⟩ = some (.slice m.a1 12 m.c1) ∧ w'.cell? ⟨B, 1, none⟩ = some (.slice m.a2 12 m.c2) ∧ w'.cell? ⟨B, 2, none⟩ = some (.slice m.a3 12 m.c3)) := fun w' r => ⟨(get4 r).1, (get4 r).2.1, (get4 r).2.2.1⟩
  have AP : Hid (∀ (w1 : World) (m2 : MV), Blw w w1 → MemOwn (fun b => w.heap.size ≤ b ∧ b < w1.heap.size) w1 m2 H.md → ∃ ao' cap w2, (Builtin.append_ #[48, 48] 48 #[v, .slice (some ⟨w1.heap.size, 0, none⟩) 1 1]).run Try.prog (w1.alloc (.cells #[.slice m2.a1 12 m2.c1, .slice m2.a2 12 m2.c2, .slice m2.a3 12 m2.c3] 26)) = .ok (.slice ao' (n + 1) cap) w2 ∧
      Row w2 B 4 (lcell m v) ∧ Row (w2.setCell ⟨B, 3, none⟩ (.slice ao' (n + 1) cap)) B 4 (lcell m (.slice ao' (n + 1) cap)) ∧ LW Q lo (w2.setCell ⟨B, 3, none⟩ (.slice ao' (n + 1) cap)) B H (n + 1) M' ∧ Mod (fun b => lo ≤ b) w (w2.setCell ⟨B, 3, none⟩ (.slice ao' (n + 1) cap))) := by
    intro w1 m2 hb own
    have hA : Blw w1 (w1.alloc (.cells #[.slice m2.a1 12 m2.c1, .slice m2.a2 12 m2.c2, .slice m2.a3 12 m2.c3] 26)) := (Blw.refl _).alloc _
    have s1 := hb.size
    have lt := r.lt
    obtain ⟨ao', cap, w2, h1, h2, h3, -⟩ := MBuf.append (M' := M') (Zn := fun b => w.heap.size ≤ b ∧ b < w1.heap.size) (b.blw (hb.trans hA)) (g := w1.heap.size) 1 (m := m2) (by rw [hMn]; exact box3 w1 _ _ _ 26) (by rw [hMn]; exact own.blw hA) (fun x hx => ⟨fun h => by have := hX x h; omega, by simp only [World.size_alloc]; omega⟩) (fun x hx => by have := hX x hx; simp only [World.size_alloc]; omega) hM hn 48
    have s2 := h3.size
    simp only [World.size_alloc] at s2
    have r2 := (RB _ (hb.trans hA)).mod h3 (fun h => (hX _ h).2.2 rfl)
    have NT := noted (Q := Q) (v := v) (n := n) (M' := M') (H := H) (w1 := w1.alloc (.cells #[.slice m2.a1 12 m2.c1, .slice m2.a2 12 m2.c2, .slice m2.a3 12 m2.c3] 26)) r a hX hY good hlo hw (hb.trans hA) (by simp only [World.size_alloc]; omega) (h2.mono (fun x hx => ⟨?_, hx.2⟩)) h3
    · exact ⟨ao', cap, w2, h1, r2, set_all r2, NT⟩
    · rcases hx.1 with h | h | h
      · exact Or.inl h
      · exact Or.inr (Or.inl ⟨h.1, by simp only [World.size_alloc]; omega⟩)
      · exact Or.inr (Or.inr h)
  have HA : Hid (∀ w', Blw w w' → MemAt Y w' m H.md) := fun w' hb => a.blw hb
  obtain ⟨p0, p1, p2, p3⟩ := get4 r
  have f3 := r.frozen 3
  clear a b hX hY
  go_enter Try.func94, Try.ntmps94
  refine wp_region_noPanic ?_
  have hS0 := KB _ (RB _ (Blw.refl w).drew)
  refine wp_region_held_drew (S := fun w' => w'.cell? ⟨B, 0, none⟩ = some (.slice m.a1 12 m.c1) ∧ w'.cell? ⟨B, 1, none⟩ = some (.slice m.a2 12 m.c2) ∧ w'.cell? ⟨B, 2, none⟩ = some (.slice m.a3 12 m.c3)) (by kernel_rfl) hS0 (fun hB => ?_)
  clear hB
  refine wpAnyH_take (i := 0) (oi := { dst := some 2, op := Op.move (Operand.tmp 0), type := 118, pos := _, after := #[], guard := none }) (v := (.pointer (some ⟨B, 0, none⟩))) rfl (by kernel_rfl) (by kernel_rfl) (by kernel_rfl) (fun _ _ _ h => h) (Or.inl ⟨by rfl, fun w' hS => by (try dsimp only at hS); obtain ⟨hS1, hS2, hS3⟩ := hS; go_simp⟩) hS0 ?_
  simp only [Act.put, List.setIfInBounds_toArray, List.set_cons_zero, List.set_cons_succ]
  refine wpAnyH_take (i := 1) (oi := { dst := some 3, op := Op.move (Operand.tmp 0), type := 118, pos := _, after := #[], guard := none }) (v := (.pointer (some ⟨B, 0, none⟩))) rfl (by kernel_rfl) (by kernel_rfl) (by kernel_rfl) (fun _ _ _ h => h) (Or.inl ⟨by rfl, fun w' hS => by (try dsimp only at hS); obtain ⟨hS1, hS2, hS3⟩ := hS; go_simp⟩) hS0 ?_
  simp only [Act.put, List.setIfInBounds_toArray, List.set_cons_zero, List.set_cons_succ]
  refine wpAnyH_take (i := 2) (oi := { dst := some 4, op := Op.nilCheck (Operand.tmp 3), type := 0, pos := _, after := #[{ on := 1, ground := Ground.data }], guard := none }) (v := (.pointer (some ⟨B, 0, none⟩))) rfl (by kernel_rfl) (by kernel_rfl) (by kernel_rfl) (fun _ _ _ h => h) (Or.inl ⟨by rfl, fun w' hS => by (try dsimp only at hS); obtain ⟨hS1, hS2, hS3⟩ := hS; go_simp⟩) hS0 ?_
  simp only [Act.put, List.setIfInBounds_toArray, List.set_cons_zero, List.set_cons_succ]
  refine wpAnyH_take (i := 3) (oi := { dst := some 5, op := Op.fieldAddr 120 (Operand.tmp 4) 1, type := 0, pos := _, after := #[{ on := 2, ground := Ground.data }], guard := none }) (v := (.pointer (some ⟨B, 3, none⟩))) rfl (by kernel_rfl) (by kernel_rfl) (by kernel_rfl) (fun _ _ _ h => h) (Or.inl ⟨by rfl, fun w' hS => by (try dsimp only at hS); obtain ⟨hS1, hS2, hS3⟩ := hS; go_simp⟩) hS0 ?_
  simp only [Act.put, List.setIfInBounds_toArray, List.set_cons_zero, List.set_cons_succ]
  refine wpAnyH_take (i := 5) (oi := { dst := some 7, op := Op.move (Operand.tmp 0), type := 118, pos := _, after := #[], guard := none }) (v := (.pointer (some ⟨B, 0, none⟩))) rfl (by kernel_rfl) (by kernel_rfl) (by kernel_rfl) (fun _ _ _ h => h) (Or.inl ⟨by rfl, fun w' hS => by (try dsimp only at hS); obtain ⟨hS1, hS2, hS3⟩ := hS; go_simp⟩) hS0 ?_
  simp only [Act.put, List.setIfInBounds_toArray, List.set_cons_zero, List.set_cons_succ]
  refine wpAnyH_take (i := 6) (oi := { dst := some 8, op := Op.nilCheck (Operand.tmp 7), type := 0, pos := _, after := #[{ on := 5, ground := Ground.data }], guard := none }) (v := (.pointer (some ⟨B, 0, none⟩))) rfl (by kernel_rfl) (by kernel_rfl) (by kernel_rfl) (fun _ _ _ h => h) (Or.inl ⟨by rfl, fun w' hS => by (try dsimp only at hS); obtain ⟨hS1, hS2, hS3⟩ := hS; go_simp⟩) hS0 ?_
  simp only [Act.put, List.setIfInBounds_toArray, List.set_cons_zero, List.set_cons_succ]
  refine wpAnyH_take (i := 7) (oi := { dst := some 9, op := Op.fieldAddr 120 (Operand.tmp 8) 0, type := 0, pos := _, after := #[{ on := 6, ground := Ground.data }], guard := none }) (v := (.pointer (some ⟨B, 0, none⟩))) rfl (by kernel_rfl) (by kernel_rfl) (by kernel_rfl) (fun _ _ _ h => h) (Or.inl ⟨by rfl, fun w' hS => by (try dsimp only at hS); obtain ⟨hS1, hS2, hS3⟩ := hS; go_simp⟩) hS0 ?_
  simp only [Act.put, List.setIfInBounds_toArray, List.set_cons_zero, List.set_cons_succ]
  refine wpAnyH_take (i := 8) (oi := { dst := some 10, op := Op.load 26 (Operand.tmp 9), type := 26, pos := _, after := #[{ on := 7, ground := Ground.data }], guard := none }) (v := (.agg #[.slice m.a1 12 m.c1, .slice m.a2 12 m.c2, .slice m.a3 12 m.c3])) rfl (by kernel_rfl) (by kernel_rfl) (by kernel_rfl) (fun _ _ _ h => h) (Or.inl ⟨by rfl, fun w' hS => by (try dsimp only at hS); obtain ⟨hS1, hS2, hS3⟩ := hS; go_simp⟩) hS0 ?_
  simp only [Act.put, List.setIfInBounds_toArray, List.set_cons_zero, List.set_cons_succ]
  refine wpAnyH_ready (rs := [4, 9]) (by kernel_rfl) (by simp) ?_
  refine AllReadyH.cons (o := { dst := some 6, op := Op.load 48 (Operand.tmp 5), type := 48, pos := _, after := #[{ on := 3, ground := Ground.data }], guard := none }) rfl (fun K hK => ?_) (AllReadyH.cons (o := { dst := some 11, op := Op.call { callee := Callee.value (Operand.func 97), args := #[Operand.tmp 10], argTypes := #[26] }, type := 26, pos := _, after := #[{ on := 8, ground := Ground.data }], guard := none }) rfl (fun K hK => ?_) AllReadyH.nil)
  · go_simp
    refine hK.out _ _ hS0 (fun hB => ?_)
    clear hK K hB
    try simp only [Act.put, List.setIfInBounds_toArray, List.set_cons_zero, List.set_cons_succ]
    refine wpAnyH_ready (rs := [9]) (by kernel_rfl) (by simp) ?_
    refine AllReadyH.cons (o := { dst := some 11, op := Op.call { callee := Callee.value (Operand.func 97), args := #[Operand.tmp 10], argTypes := #[26] }, type := 26, pos := _, after := #[{ on := 8, ground := Ground.data }], guard := none }) rfl (fun K hK => ?_) AllReadyH.nil
    go_simp
    refine (l1Own_any m H.md Y _ good (HA.out _ (Blw.refl _).drew)).mono ?_
    rintro e w1 ⟨m2, rfl, own, hb⟩
    have B1 : Blw w w1 := (Blw.refl w).drew.trans hb
    have R1 := RB _ B1
    have R1A := RB _ (B1.alloc (.cells #[.slice m2.a1 12 m2.c1, .slice m2.a2 12 m2.c2, .slice m2.a3 12 m2.c3] 26))
    have p4 := (get4 R1).2.2.2
    have p5 := (get4 R1A).2.2.2
    have OWN : Hid (MemOwn _ w1 m2 H.md) := own
    clear own hb
    refine hK.out _ _ (KB _ R1) (fun hB => ?_)
    clear hK K hB
    try simp only [Act.put, List.setIfInBounds_toArray, List.set_cons_zero, List.set_cons_succ]
    try simp only [MV.val, MD.full]
    refine wpAnyH_ready (rs := [10]) (by kernel_rfl) (by simp) ?_
    refine AllReadyH.cons (o := { dst := some 12, op := Op.buildSlice 48 1 #[(0, Operand.tmp 11)], type := 48, pos := _, after := #[{ on := 9, ground := Ground.data }], guard := none }) rfl (fun K hK => ?_) AllReadyH.nil
    go_simp
    refine hK.out _ _ (KB _ R1A) (fun hB => ?_)
    clear hK K hB
    try simp only [Act.put, List.setIfInBounds_toArray, List.set_cons_zero, List.set_cons_succ]
    refine wpAnyH_ready (rs := [11]) (by kernel_rfl) (by simp) ?_
    refine AllReadyH.cons (o := { dst := some 13, op := Op.call { callee := Callee.builtin Builtin.append, args := #[Operand.tmp 6, Operand.tmp 12], argTypes := #[48, 48] }, type := 48, pos := _, after := #[{ on := 4, ground := Ground.data }, { on := 10, ground := Ground.data }, { on := 9, ground := Ground.chain }], guard := none }) rfl (fun K hK => ?_) AllReadyH.nil
    refine step_appIs 6 12 48 (by decide +kernel) ?_
    obtain ⟨ao', cap, w2, hrun, R2, R3, FIN⟩ := AP.out _ m2 B1 OWN.out
    have FIN' : Hid _ := FIN
    clear FIN
    refine ⟨_, _, hrun, ?_⟩
    have p6 := (get4 R2).2.2.2
    have f6 := R2.frozen 3
    refine hK.out _ _ (KB _ R2) (fun hB => ?_)
    clear hK K hB
    try simp only [Act.put, List.setIfInBounds_toArray, List.set_cons_zero, List.set_cons_succ]
    refine wpAnyH_take (i := 12) (oi := { dst := some 14, op := Op.nilCheck (Operand.tmp 2), type := 0, pos := _, after := #[{ on := 0, ground := Ground.data }, { on := 0, ground := Ground.phase }, { on := 1, ground := Ground.phase }, { on := 2, ground := Ground.phase }, { on := 3, ground := Ground.phase }, { on := 4, ground := Ground.phase }, { on := 5, ground := Ground.phase }, { on := 6, ground := Ground.phase }, { on := 7, ground := Ground.phase }, { on := 8, ground := Ground.phase }, { on := 9, ground := Ground.phase }, { on := 10, ground := Ground.phase }, { on := 11, ground := Ground.phase }], guard := none }) (v := (.pointer (some ⟨B, 0, none⟩))) rfl (by kernel_rfl) (by kernel_rfl) (by kernel_rfl) (fun _ _ _ h => h) (Or.inl ⟨by rfl, fun w' hS => by (try dsimp only at hS); obtain ⟨hS1, hS2, hS3⟩ := hS; go_simp⟩) (KB _ R2) ?_
    simp only [Act.put, List.setIfInBounds_toArray, List.set_cons_zero, List.set_cons_succ]
    refine wpAnyH_take (i := 13) (oi := { dst := some 15, op := Op.fieldAddr 120 (Operand.tmp 14) 1, type := 0, pos := _, after := #[{ on := 12, ground := Ground.data }, { on := 0, ground := Ground.phase }, { on := 1, ground := Ground.phase }, { on := 2, ground := Ground.phase }, { on := 3, ground := Ground.phase }, { on := 4, ground := Ground.phase }, { on := 5, ground := Ground.phase }, { on := 6, ground := Ground.phase }, { on := 7, ground := Ground.phase }, { on := 8, ground := Ground.phase }, { on := 9, ground := Ground.phase }, { on := 10, ground := Ground.phase }, { on := 11, ground := Ground.phase }], guard := none }) (v := (.pointer (some ⟨B, 3, none⟩))) rfl (by kernel_rfl) (by kernel_rfl) (by kernel_rfl) (fun _ _ _ h => h) (Or.inl ⟨by rfl, fun w' hS => by (try dsimp only at hS); obtain ⟨hS1, hS2, hS3⟩ := hS; go_simp⟩) (KB _ R2) ?_
    simp only [Act.put, List.setIfInBounds_toArray, List.set_cons_zero, List.set_cons_succ]
    refine wpAnyH_ready (rs := [14]) (by kernel_rfl) (by simp) ?_
    refine AllReadyH.cons (o := { dst := none, op := Op.store 48 (Operand.tmp 15) (Operand.tmp 13), type := 0, pos := _, after := #[{ on := 13, ground := Ground.data }, { on := 11, ground := Ground.data }, { on := 11, ground := Ground.chain }, { on := 0, ground := Ground.phase }, { on := 1, ground := Ground.phase }, { on := 2, ground := Ground.phase }, { on := 3, ground := Ground.phase }, { on := 4, ground := Ground.phase }, { on := 5, ground := Ground.phase }, { on := 6, ground := Ground.phase }, { on := 7, ground := Ground.phase }, { on := 8, ground := Ground.phase }, { on := 9, ground := Ground.phase }, { on := 10, ground := Ground.phase }, { on := 11, ground := Ground.phase }], guard := none }) rfl (fun K hK => ?_) AllReadyH.nil
    go_simp
    refine hK.out _ _ ⟨(get4 R3).1, (get4 R3).2.1, (get4 R3).2.2.1⟩ (fun hB => ?_)
    clear hK K hB
    try simp only [Act.put, List.setIfInBounds_toArray, List.set_cons_zero, List.set_cons_succ]
    refine wpAnyH_done (by kernel_rfl) ?_ _
    refine NoPanic.normal ?_
    clear hw R1 R1A R2 R3 KB RB AP HA OWN p0 p1 p2 p3 p4 p5 p6 f3 f6 hrun hS0
    go_wp2
    refine bodyPost_end (results_none rfl _ _ _) rfl ?_
    exact ⟨⟨_, rfl⟩, FIN'.out⟩
  · go_simp
    refine (l1Own_any m H.md Y _ good (HA.out _ (Blw.refl _).drew)).mono ?_
    rintro e w1 ⟨m2, rfl, own, hb⟩
    have B1 : Blw w w1 := (Blw.refl w).drew.trans hb
    have R1 := RB _ B1
    have R1A := RB _ (B1.alloc (.cells #[.slice m2.a1 12 m2.c1, .slice m2.a2 12 m2.c2, .slice m2.a3 12 m2.c3] 26))
    have p4 := (get4 R1).2.2.2
    have p5 := (get4 R1A).2.2.2
    have OWN : Hid (MemOwn _ w1 m2 H.md) := own
    clear own hb
    refine hK.out _ _ (KB _ R1) (fun hB => ?_)
    clear hK K hB
    try simp only [Act.put, List.setIfInBounds_toArray, List.set_cons_zero, List.set_cons_succ]
    try simp only [MV.val, MD.full]
    refine wpAnyH_ready (rs := [4, 10]) (by kernel_rfl) (by simp) ?_
    refine AllReadyH.cons (o := { dst := some 6, op := Op.load 48 (Operand.tmp 5), type := 48, pos := _, after := #[{ on := 3, ground := Ground.data }], guard := none }) rfl (fun K hK => ?_) (AllReadyH.cons (o := { dst := some 12, op := Op.buildSlice 48 1 #[(0, Operand.tmp 11)], type := 48, pos := _, after := #[{ on := 9, ground := Ground.data }], guard := none }) rfl (fun K hK => ?_) AllReadyH.nil)
    · go_simp
      refine hK.out _ _ (KB _ R1) (fun hB => ?_)
      clear hK K hB
      try simp only [Act.put, List.setIfInBounds_toArray, List.set_cons_zero, List.set_cons_succ]
      refine wpAnyH_ready (rs := [10]) (by kernel_rfl) (by simp) ?_
      refine AllReadyH.cons (o := { dst := some 12, op := Op.buildSlice 48 1 #[(0, Operand.tmp 11)], type := 48, pos := _, after := #[{ on := 9, ground := Ground.data }], guard := none }) rfl (fun K hK => ?_) AllReadyH.nil
      go_simp
      refine hK.out _ _ (KB _ R1A) (fun hB => ?_)
      clear hK K hB
      try simp only [Act.put, List.setIfInBounds_toArray, List.set_cons_zero, List.set_cons_succ]
      refine wpAnyH_ready (rs := [11]) (by kernel_rfl) (by simp) ?_
      refine AllReadyH.cons (o := { dst := some 13, op := Op.call { callee := Callee.builtin Builtin.append, args := #[Operand.tmp 6, Operand.tmp 12], argTypes := #[48, 48] }, type := 48, pos := _, after := #[{ on := 4, ground := Ground.data }, { on := 10, ground := Ground.data }, { on := 9, ground := Ground.chain }], guard := none }) rfl (fun K hK => ?_) AllReadyH.nil
      refine step_appIs 6 12 48 (by decide +kernel) ?_
      obtain ⟨ao', cap, w2, hrun, R2, R3, FIN⟩ := AP.out _ m2 B1 OWN.out
      have FIN' : Hid _ := FIN
      clear FIN
      refine ⟨_, _, hrun, ?_⟩
      have p6 := (get4 R2).2.2.2
      have f6 := R2.frozen 3
      refine hK.out _ _ (KB _ R2) (fun hB => ?_)
      clear hK K hB
      try simp only [Act.put, List.setIfInBounds_toArray, List.set_cons_zero, List.set_cons_succ]
      refine wpAnyH_take (i := 12) (oi := { dst := some 14, op := Op.nilCheck (Operand.tmp 2), type := 0, pos := _, after := #[{ on := 0, ground := Ground.data }, { on := 0, ground := Ground.phase }, { on := 1, ground := Ground.phase }, { on := 2, ground := Ground.phase }, { on := 3, ground := Ground.phase }, { on := 4, ground := Ground.phase }, { on := 5, ground := Ground.phase }, { on := 6, ground := Ground.phase }, { on := 7, ground := Ground.phase }, { on := 8, ground := Ground.phase }, { on := 9, ground := Ground.phase }, { on := 10, ground := Ground.phase }, { on := 11, ground := Ground.phase }], guard := none }) (v := (.pointer (some ⟨B, 0, none⟩))) rfl (by kernel_rfl) (by kernel_rfl) (by kernel_rfl) (fun _ _ _ h => h) (Or.inl ⟨by rfl, fun w' hS => by (try dsimp only at hS); obtain ⟨hS1, hS2, hS3⟩ := hS; go_simp⟩) (KB _ R2) ?_
      simp only [Act.put, List.setIfInBounds_toArray, List.set_cons_zero, List.set_cons_succ]
      refine wpAnyH_take (i := 13) (oi := { dst := some 15, op := Op.fieldAddr 120 (Operand.tmp 14) 1, type := 0, pos := _, after := #[{ on := 12, ground := Ground.data }, { on := 0, ground := Ground.phase }, { on := 1, ground := Ground.phase }, { on := 2, ground := Ground.phase }, { on := 3, ground := Ground.phase }, { on := 4, ground := Ground.phase }, { on := 5, ground := Ground.phase }, { on := 6, ground := Ground.phase }, { on := 7, ground := Ground.phase }, { on := 8, ground := Ground.phase }, { on := 9, ground := Ground.phase }, { on := 10, ground := Ground.phase }, { on := 11, ground := Ground.phase }], guard := none }) (v := (.pointer (some ⟨B, 3, none⟩))) rfl (by kernel_rfl) (by kernel_rfl) (by kernel_rfl) (fun _ _ _ h => h) (Or.inl ⟨by rfl, fun w' hS => by (try dsimp only at hS); obtain ⟨hS1, hS2, hS3⟩ := hS; go_simp⟩) (KB _ R2) ?_
      simp only [Act.put, List.setIfInBounds_toArray, List.set_cons_zero, List.set_cons_succ]
      refine wpAnyH_ready (rs := [14]) (by kernel_rfl) (by simp) ?_
      refine AllReadyH.cons (o := { dst := none, op := Op.store 48 (Operand.tmp 15) (Operand.tmp 13), type := 0, pos := _, after := #[{ on := 13, ground := Ground.data }, { on := 11, ground := Ground.data }, { on := 11, ground := Ground.chain }, { on := 0, ground := Ground.phase }, { on := 1, ground := Ground.phase }, { on := 2, ground := Ground.phase }, { on := 3, ground := Ground.phase }, { on := 4, ground := Ground.phase }, { on := 5, ground := Ground.phase }, { on := 6, ground := Ground.phase }, { on := 7, ground := Ground.phase }, { on := 8, ground := Ground.phase }, { on := 9, ground := Ground.phase }, { on := 10, ground := Ground.phase }, { on := 11, ground := Ground.phase }], guard := none }) rfl (fun K hK => ?_) AllReadyH.nil
      go_simp
      refine hK.out _ _ ⟨(get4 R3).1, (get4 R3).2.1, (get4 R3).2.2.1⟩ (fun hB => ?_)
      clear hK K hB
      try simp only [Act.put, List.setIfInBounds_toArray, List.set_cons_zero, List.set_cons_succ]
      refine wpAnyH_done (by kernel_rfl) ?_ _
      refine NoPanic.normal ?_
      clear hw R1 R1A R2 R3 KB RB AP HA OWN p0 p1 p2 p3 p4 p5 p6 f3 f6 hrun hS0
      go_wp2
      refine bodyPost_end (results_none rfl _ _ _) rfl ?_
      exact ⟨⟨_, rfl⟩, FIN'.out⟩
    · go_simp
      refine hK.out _ _ (KB _ R1A) (fun hB => ?_)
      clear hK K hB
      try simp only [Act.put, List.setIfInBounds_toArray, List.set_cons_zero, List.set_cons_succ]
      refine wpAnyH_ready (rs := [4]) (by kernel_rfl) (by simp) ?_
      refine AllReadyH.cons (o := { dst := some 6, op := Op.load 48 (Operand.tmp 5), type := 48, pos := _, after := #[{ on := 3, ground := Ground.data }], guard := none }) rfl (fun K hK => ?_) AllReadyH.nil
      go_simp
      refine hK.out _ _ (KB _ R1A) (fun hB => ?_)
      clear hK K hB
      try simp only [Act.put, List.setIfInBounds_toArray, List.set_cons_zero, List.set_cons_succ]
      refine wpAnyH_ready (rs := [11]) (by kernel_rfl) (by simp) ?_
      refine AllReadyH.cons (o := { dst := some 13, op := Op.call { callee := Callee.builtin Builtin.append, args := #[Operand.tmp 6, Operand.tmp 12], argTypes := #[48, 48] }, type := 48, pos := _, after := #[{ on := 4, ground := Ground.data }, { on := 10, ground := Ground.data }, { on := 9, ground := Ground.chain }], guard := none }) rfl (fun K hK => ?_) AllReadyH.nil
      refine step_appIs 6 12 48 (by decide +kernel) ?_
      obtain ⟨ao', cap, w2, hrun, R2, R3, FIN⟩ := AP.out _ m2 B1 OWN.out
      have FIN' : Hid _ := FIN
      clear FIN
      refine ⟨_, _, hrun, ?_⟩
      have p6 := (get4 R2).2.2.2
      have f6 := R2.frozen 3
      refine hK.out _ _ (KB _ R2) (fun hB => ?_)
      clear hK K hB
      try simp only [Act.put, List.setIfInBounds_toArray, List.set_cons_zero, List.set_cons_succ]
      refine wpAnyH_take (i := 12) (oi := { dst := some 14, op := Op.nilCheck (Operand.tmp 2), type := 0, pos := _, after := #[{ on := 0, ground := Ground.data }, { on := 0, ground := Ground.phase }, { on := 1, ground := Ground.phase }, { on := 2, ground := Ground.phase }, { on := 3, ground := Ground.phase }, { on := 4, ground := Ground.phase }, { on := 5, ground := Ground.phase }, { on := 6, ground := Ground.phase }, { on := 7, ground := Ground.phase }, { on := 8, ground := Ground.phase }, { on := 9, ground := Ground.phase }, { on := 10, ground := Ground.phase }, { on := 11, ground := Ground.phase }], guard := none }) (v := (.pointer (some ⟨B, 0, none⟩))) rfl (by kernel_rfl) (by kernel_rfl) (by kernel_rfl) (fun _ _ _ h => h) (Or.inl ⟨by rfl, fun w' hS => by (try dsimp only at hS); obtain ⟨hS1, hS2, hS3⟩ := hS; go_simp⟩) (KB _ R2) ?_
      simp only [Act.put, List.setIfInBounds_toArray, List.set_cons_zero, List.set_cons_succ]
      refine wpAnyH_take (i := 13) (oi := { dst := some 15, op := Op.fieldAddr 120 (Operand.tmp 14) 1, type := 0, pos := _, after := #[{ on := 12, ground := Ground.data }, { on := 0, ground := Ground.phase }, { on := 1, ground := Ground.phase }, { on := 2, ground := Ground.phase }, { on := 3, ground := Ground.phase }, { on := 4, ground := Ground.phase }, { on := 5, ground := Ground.phase }, { on := 6, ground := Ground.phase }, { on := 7, ground := Ground.phase }, { on := 8, ground := Ground.phase }, { on := 9, ground := Ground.phase }, { on := 10, ground := Ground.phase }, { on := 11, ground := Ground.phase }], guard := none }) (v := (.pointer (some ⟨B, 3, none⟩))) rfl (by kernel_rfl) (by kernel_rfl) (by kernel_rfl) (fun _ _ _ h => h) (Or.inl ⟨by rfl, fun w' hS => by (try dsimp only at hS); obtain ⟨hS1, hS2, hS3⟩ := hS; go_simp⟩) (KB _ R2) ?_
      simp only [Act.put, List.setIfInBounds_toArray, List.set_cons_zero, List.set_cons_succ]
      refine wpAnyH_ready (rs := [14]) (by kernel_rfl) (by simp) ?_
      refine AllReadyH.cons (o := { dst := none, op := Op.store 48 (Operand.tmp 15) (Operand.tmp 13), type := 0, pos := _, after := #[{ on := 13, ground := Ground.data }, { on := 11, ground := Ground.data }, { on := 11, ground := Ground.chain }, { on := 0, ground := Ground.phase }, { on := 1, ground := Ground.phase }, { on := 2, ground := Ground.phase }, { on := 3, ground := Ground.phase }, { on := 4, ground := Ground.phase }, { on := 5, ground := Ground.phase }, { on := 6, ground := Ground.phase }, { on := 7, ground := Ground.phase }, { on := 8, ground := Ground.phase }, { on := 9, ground := Ground.phase }, { on := 10, ground := Ground.phase }, { on := 11, ground := Ground.phase }], guard := none }) rfl (fun K hK => ?_) AllReadyH.nil
      go_simp
      refine hK.out _ _ ⟨(get4 R3).1, (get4 R3).2.1, (get4 R3).2.2.1⟩ (fun hB => ?_)
      clear hK K hB
      try simp only [Act.put, List.setIfInBounds_toArray, List.set_cons_zero, List.set_cons_succ]
      refine wpAnyH_done (by kernel_rfl) ?_ _
      refine NoPanic.normal ?_
      clear hw R1 R1A R2 R3 KB RB AP HA OWN p0 p1 p2 p3 p4 p5 p6 f3 f6 hrun hS0
      go_wp2
      refine bodyPost_end (results_none rfl _ _ _) rfl ?_
      exact ⟨⟨_, rfl⟩, FIN'.out⟩
end Go.Proofs.Ytglllnklcnlcjaa
/- The model's flush, and its places. -/
namespace Go.Proofs.Ytglllnklcnlcjaa
open Go.RowKit
set_option linter.unusedSimpArgs false
set_option linter.unusedVariables false
set_option maxHeartbeats 3200000 in
theorem lwFlush_any {Q : Nat → Prop} (lo B : Nat) (H : HS) (n : Nat) (M M' : Nat → MD) (k : Nat) (w : World) (hk : k < 48) (hn : n ≤ 1000) (hM : ∀ i, i < n → M i = M' i) (hMn : M' n = (H.fl (k / 4)).md) (hw : lo ≤ w.heap.size) (h : LW Q lo w B H n M) :
    Calls Try.prog 96 #[.pointer (some ⟨B, 0, none⟩), .int .i64 k] w fun e w' => (∃ v, e = .returned v) ∧ LW Q lo w' B (H.fl (k / 4)) (n + 1) M' ∧ Mod (fun b => lo ≤ b) w w' := by
  obtain ⟨m, v, X, Y, r, a, b, hX, hY⟩ := h.ex
  have good := h.good
  have hlo := h.lo
  clear h
  obtain ⟨p0, p1, p2, p3⟩ := get4 r
  go_enter Try.func96, Try.ntmps96
  go_wp2_with fail
  clear p0 p1 p2 p3
  refine (l1Own_any m H.md Y _ good a).mono ?_
  rintro e w1 ⟨m2, rfl, own, hb1⟩
  have r1 := r.blw hb1
  obtain ⟨p0, p1, p2, p3⟩ := get4 r1
  have f0 := r1.frozen 0
  have f1 := r1.frozen 1
  have f2 := r1.frozen 2
  have r2 := set_now (m' := m2) r1
  have hm2 := mod_set3 w1 B (.slice m2.a1 12 m2.c1) (.slice m2.a2 12 m2.c2) (.slice m2.a3 12 m2.c3)
  have lt := r.lt
  have own2 := own.mod hm2 (fun x hx => by have := hx.1; omega)
  have HR : Hid _ := r
  have HBf : Hid _ := b
  have HX : Hid _ := hX
  have HB1 : Hid _ := hb1
  simp only [MV.val, HS.md, MD.full] at *
  clear r b hX hb1 own r1 a hY
  have HM2 : Hid _ := hm2
  have HR2 : Hid _ := r2
  have HO2 : Hid _ := own2
  obtain ⟨q0, q1, q2, q3⟩ := get4 r2
  clear hm2 r2 own2 p3 q3
  go_wp2_with fail
  clear p0 p1 p2 f0 f1 f2 q0 q1 q2
  have s1 := HB1.out.size
  have s2 := HM2.out.size
  have ek : ((k : Int) / 4) = ((k / 4 : Nat) : Int) := by omega
  rw [ek]
  clear ek
  refine (l1Flush_any m2 H.s H.c H.d _ _ (k / 4) (by omega) HO2.out (fun b hb => by have := hb.2; omega)).mono ?_
  rintro e w3 ⟨⟨v', rfl⟩, own3, hm3⟩
  have s3 := hm3.size
  have FIN : Hid _ := own_now (Q := Q) (H' := H.fl (k / 4)) HR.out HBf.out HX.out (good_fl good) hlo HB1.out HM2.out HR2.out own3 (fun x hx => by
    rcases hx with hx | hx
    · exact ⟨hx.1, by have := hx.2; omega⟩
    · exact ⟨by omega, hx.2⟩) (hm3.mono (fun x hx => hx.1))
  clear HR HBf HX HB1 HM2 HR2 HO2 own3 hm3
  go_wp2_with fail
  refine (lwNote_any lo B _ n M M' _ hn hM hMn (by omega) FIN.out.1).mono ?_
  rintro e w4 ⟨⟨v4, rfl⟩, L4, hm4⟩
  have FIN4 : Hid _ := And.intro L4 ((FIN.out.2.mono (fun x hx => by omega)).trans hm4)
  clear FIN L4 hm4
  go_wp2
  refine bodyPost_end (results_none rfl _ _ _) rfl ?_
  exact ⟨⟨_, rfl⟩, FIN4.out⟩
set_option maxHeartbeats 400000 in
theorem l4Entry_any (k : Nat) (w : World) (hk : k ≤ 3) : Calls Try.prog 77 #[.int .i64 k] w fun e w' => e = .returned (.int .i64 ((28 + 4 * k : Nat) : Int)) ∧ w' = w := by
  have e1 : (24 : Int) + 4 * ((k : Int) + 1) = ((28 + 4 * k : Nat) : Int) := by omega
  go_enter Try.func77, Try.ntmps77
  go_wp2
  go_ret
  exact ⟨ret_int (by omega), rfl⟩
set_option maxHeartbeats 400000 in
theorem entryAt_any (k : Nat) (w : World) (hk : k ≤ 3) : Calls Try.prog 103 #[.int .i64 k] w fun e w' => e = .returned (.int .i64 ((28 + 4 * k : Nat) : Int)) ∧ w' = w := by
  have e1 : (24 : Int) + 4 * ((k : Int) + 1) = ((28 + 4 * k : Nat) : Int) := by omega
  go_enter Try.func103, Try.ntmps103
  go_wp2
  go_ret
  exact ⟨ret_int (by omega), rfl⟩
/-- Nothing is pending, and the pairs are good. -/
def ready (M : MD) (n : Nat) (f g : Nat → Int) : Prop := M.Good ∧ (HS.of M).w 24 = 0 ∧ goodP n f g
set_option maxHeartbeats 1600000 in
theorem l4Ready_any (m : MV) (M : MD) (ao : Option Addr) (n c : Nat) (f g : Nat → Int) (Y Y2 : Nat → Prop) (w : World) (h : MemAt Y w m M) (hu : UndosAt Y2 w ao n f g) :
    Calls Try.prog 53 #[m.val M, .slice ao n c] w fun e w' => ∃ b, e = .returned (.bool b) ∧ (b = true ↔ ready M n f g) ∧ Blw w w' := by
  go_enter Try.func53, Try.ntmps53
  go_wp2_with fail
  have hb0 : Blw w (w.alloc (.cells #[.slice m.a1 M.n1 m.c1, .slice m.a2 M.n2 m.c2, .slice m.a3 M.n3 m.c3] 26)) := (Blw.refl _).alloc _
  refine (specPending_any m M Y _ (h.blw hb0)).mono ?_
  rintro e w1 ⟨x, b, rfl, ho, hb1⟩
  replace hb1 := hb0.trans hb1
  have HO : Hid (pnOut M x b) := ho
  have HU : Hid (UndosAt Y2 w1 ao n f g) := hu.blw hb1
  clear hb0 h ho hu
  cases b
  · go_wp2
    go_ret
    refine ⟨false, rfl, ⟨fun h => (by cases h), fun h => ?_⟩, hb1⟩
    rcases HO.out with ⟨_, _, _, h9⟩ | ⟨h9, _⟩
    · cases h9
    · exact absurd ⟨h.1, by rw [h.2.1]; omega⟩ h9
  · have HV : Hid (M.Good ∧ x = (HS.of M).w 24) := by
      rcases HO.out with ⟨g, _, hx, _⟩ | ⟨_, _, h9⟩
      · exact ⟨g, hx⟩
      · cases h9
    by_cases h0 : x = 0
    · subst h0
      go_wp2_with fail
      refine (specGoodP_any ao c n f g Y2 _ HU.out).mono ?_
      rintro e w2 ⟨b, rfl, hg, hb2⟩
      have HG : Hid (b = true ↔ goodP n f g) := hg
      replace hb2 := hb1.trans hb2
      clear hg hb1 HU
      go_wp2
      go_ret
      exact ⟨b, rfl, ⟨fun h => ⟨HV.out.1, HV.out.2.symm, HG.out.1 h⟩, fun h => HG.out.2 h.2.2⟩, hb2⟩
    · have d1 : (x == 0) = false := by simp [h0]
      clear HU
      go_wp2
      go_ret
      exact ⟨false, rfl, ⟨fun h => (by cases h), fun h => absurd (HV.out.2.trans h.2.1) h0⟩, hb1⟩
end Go.Proofs.Ytglllnklcnlcjaa
/- The model's steps of a deed. -/
namespace Go.Proofs.Ytglllnklcnlcjaa
open Go.RowKit
set_option linter.unusedSimpArgs false
set_option linter.unusedVariables false
/-- The list and its box, as the model begins. -/
theorem lw_start {Y : Nat → Prop} {w : World} {m : MV} {H : HS} (g : H.md.Good) (h : MemAt Y w m H.md) (hY : ∀ b, Y b → b < w.heap.size) (M : Nat → MD) :
    LW (fun _ => True) w.heap.size ((w.alloc (.cells #[.slice m.a1 12 m.c1, .slice m.a2 12 m.c2, .slice m.a3 12 m.c3] 26)).alloc (.cells #[.slice m.a1 12 m.c1, .slice m.a2 12 m.c2, .slice m.a3 12 m.c3, .slice none 0 0] 120)) (w.heap.size + 1) H 0 M ∧ Blw w ((w.alloc (.cells #[.slice m.a1 12 m.c1, .slice m.a2 12 m.c2, .slice m.a3 12 m.c3] 26)).alloc (.cells #[.slice m.a1 12 m.c1, .slice m.a2 12 m.c2, .slice m.a3 12 m.c3, .slice none 0 0] 120)) := by
  have hb : Blw w ((w.alloc (.cells #[.slice m.a1 12 m.c1, .slice m.a2 12 m.c2, .slice m.a3 12 m.c3] 26)).alloc (.cells #[.slice m.a1 12 m.c1, .slice m.a2 12 m.c2, .slice m.a3 12 m.c3, .slice none 0 0] 120)) := ((Blw.refl _).alloc _).alloc _
  have r : Row ((w.alloc (.cells #[.slice m.a1 12 m.c1, .slice m.a2 12 m.c2, .slice m.a3 12 m.c3] 26)).alloc (.cells #[.slice m.a1 12 m.c1, .slice m.a2 12 m.c2, .slice m.a3 12 m.c3, .slice none 0 0] 120)) (w.heap.size + 1) 4 (lcell m (.slice none 0 0)) := by
    refine ⟨_, 120, by have := heap_alloc_new (w.alloc (.cells #[.slice m.a1 12 m.c1, .slice m.a2 12 m.c2, .slice m.a3 12 m.c3] 26)) (.cells #[.slice m.a1 12 m.c1, .slice m.a2 12 m.c2, .slice m.a3 12 m.c3, .slice none 0 0] 120); rw [World.size_alloc] at this; exact this, by simp, fun i hi => ?_⟩
    match i, hi with
    | 0, _ => rfl
    | 1, _ => rfl
    | 2, _ => rfl
    | 3, _ => rfl
  exact ⟨⟨⟨m, _, fun _ => False, Y, r, h.blw hb, MBuf.nil _ _ _, fun _ h => h.elim, fun x hx => ⟨by have := hY x hx; have := hb.size; omega, id, by have := hY x hx; omega, Or.inl trivial⟩⟩, g, by omega⟩, hb⟩
theorem LW.drewn {Q : Nat → Prop} {lo : Nat} {w w' : World} {B : Nat} {H : HS} {n : Nat} {M : Nat → MD} (h : LW Q lo w B H n M) (hb : Blw w w') : LW Q lo w' B H n M := h.mod hb
theorem LW.lt {Q : Nat → Prop} {lo : Nat} {w : World} {B : Nat} {H : HS} {n : Nat} {M : Nat → MD} (h : LW Q lo w B H n M) : B < w.heap.size := by
  obtain ⟨_, _, _, _, r, -⟩ := h.ex
  exact r.lt
theorem LW.cells {Q : Nat → Prop} {lo : Nat} {w : World} {B : Nat} {H : HS} {n : Nat} {M : Nat → MD} (h : LW Q lo w B H n M) : ∃ (m : MV) (Y : Nat → Prop), (w.cell? ⟨B, 0, none⟩ = some (.slice m.a1 12 m.c1) ∧ w.cell? ⟨B, 1, none⟩ = some (.slice m.a2 12 m.c2) ∧ w.cell? ⟨B, 2, none⟩ = some (.slice m.a3 12 m.c3)) ∧ MemAt Y w m H.md := by
  obtain ⟨m, v, X, Y, r, a, -⟩ := h.ex
  obtain ⟨p0, p1, p2, -⟩ := get4 r
  exact ⟨m, Y, ⟨p0, p1, p2⟩, a⟩
theorem LW.list {Q : Nat → Prop} {lo : Nat} {w : World} {B : Nat} {H : HS} {n : Nat} {M : Nat → MD} (h : LW Q lo w B H n M) (hn : n ≤ 1000) : ∃ ao cap, w.cell? ⟨B, 3, none⟩ = some (.slice ao n cap) ∧ MemsOwn (fun x => lo ≤ x ∧ x < w.heap.size) w ao n M := by
  obtain ⟨m, v, X, Y, r, a, b, hX, hY⟩ := h.ex
  obtain ⟨ao, cap, rfl, own⟩ := b.form hn
  exact ⟨ao, cap, (get4 r).2.2.2, own.mono (fun x hx => ⟨(hX x hx).1, (hX x hx).2.1⟩)⟩
set_option maxRecDepth 20000 in
set_option maxHeartbeats 6400000 in
theorem l4Steps_any (m : MV) (M : MD) (ao : Option Addr) (n c : Nat) (f g : Nat → Int) (Y Y2 : Nat → Prop) (w : World) (gd : M.Good) (hP : goodP n f g) (h : MemAt Y w m M) (hY : ∀ b, Y b → b < w.heap.size) (hu : UndosAt Y2 w ao n f g) (hY2 : ∀ b, Y2 b → b < w.heap.size) :
    Calls Try.prog 55 #[m.val M, .slice ao n c] w fun e w' => ∃ ao' cap, e = .returned (.slice ao' (4 * n + 5) cap) ∧ MemsOwn (fun x => w.heap.size ≤ x ∧ x < w'.heap.size) w' ao' (4 * n + 5) (fun i => (DS M n f g i).md) ∧ Blw w w' := by
  rw [val_full gd]
  obtain ⟨LL, hb0⟩ := lw_start (good_of gd) (mem_full gd h) hY (fun i => (DS M n f g i).md)
  have HL : Hid (LW (fun _ => True) w.heap.size ((w.alloc (.cells #[.slice m.a1 12 m.c1, .slice m.a2 12 m.c2, .slice m.a3 12 m.c3] 26)).alloc (.cells #[.slice m.a1 12 m.c1, .slice m.a2 12 m.c2, .slice m.a3 12 m.c3, .slice none 0 0] 120)) (w.heap.size + 1) (DS M n f g 0) 0 (fun i => (DS M n f g i).md)) := LL
  have HB : Hid (Blw w ((w.alloc (.cells #[.slice m.a1 12 m.c1, .slice m.a2 12 m.c2, .slice m.a3 12 m.c3] 26)).alloc (.cells #[.slice m.a1 12 m.c1, .slice m.a2 12 m.c2, .slice m.a3 12 m.c3, .slice none 0 0] 120))) := hb0
  have hn3 := hP.1.2
  have HU : Hid (∀ w', Mod (fun b => w.heap.size ≤ b) w w' → UndosAt Y2 w' ao n f g) := fun w' hm => hu.mod hm (fun b hb e => by have := hY2 b hb; omega)
  have HP : Hid (goodP n f g) := hP
  have GD : Hid M.Good := gd
  have hz0 : w.heap.size ≤ ((w.alloc (.cells #[.slice m.a1 12 m.c1, .slice m.a2 12 m.c2, .slice m.a3 12 m.c3] 26)).alloc (.cells #[.slice m.a1 12 m.c1, .slice m.a2 12 m.c2, .slice m.a3 12 m.c3, .slice none 0 0] 120)).heap.size := hb0.size
  clear LL hb0 h hu hP gd hY hY2
  simp only [MV.val, HS.md, MD.full]
  go_enter Try.func55, Try.ntmps55
  go_wp2_with fail
  revert HL HB hz0
  generalize (w.alloc (.cells #[.slice m.a1 12 m.c1, .slice m.a2 12 m.c2, .slice m.a3 12 m.c3] 26)).alloc (.cells #[.slice m.a1 12 m.c1, .slice m.a2 12 m.c2, .slice m.a3 12 m.c3, .slice none 0 0] 120) = w1
  intro HL HB hz0
  refine (lwNote_any _ _ _ 0 (fun i => (DS M n f g i).md) (fun i => (DS M n f g i).md) _ (by omega) (fun i hi => rfl) rfl hz0 HL.out).mono ?_
  rintro e w2 ⟨⟨v2, rfl⟩, L2, hm2⟩
  have HL2 : Hid (LW (fun _ => True) w.heap.size w2 (w.heap.size + 1) (DS M n f g 0) 1 (fun i => (DS M n f g i).md)) := L2
  have HM : Hid (Mod (fun b => w.heap.size ≤ b) w w2) := (HB.out.mod _).trans hm2
  clear L2 hm2 HL HB hz0 w1
  go_wp2_with fail
  go_loopw [19] (fun i wr => ∃ k : Nat, k ≤ n ∧ i = .int .i64 k ∧ LW (fun _ => True) w.heap.size wr (w.heap.size + 1) (DS M n f g (2 * k)) (2 * k + 1) (fun i => (DS M n f g i).md) ∧ Mod (fun b => w.heap.size ≤ b) w wr) (fun i _ => n - (intOf i).toNat)
  case atStart => exact ⟨0, by omega, rfl, HL2.out, HM.out⟩
  case round =>
    obtain ⟨k, hk, rfl, L, hm⟩ := hrel
    clear HL2 HM
    have HM : Hid (Mod (fun b => w.heap.size ≤ b) w wr) := hm
    have HL : Hid (LW (fun _ => True) w.heap.size wr (w.heap.size + 1) (DS M n f g (2 * k)) (2 * k + 1) (fun i => (DS M n f g i).md)) := L
    clear L hm
    by_cases hlt : k < n
    · have hlt' : (k : Int) < n := by omega
      obtain ⟨b, o, rfl, -, g0, g1⟩ := (HU.out _ HM.out).2 k hlt
      obtain ⟨hpl, hfe⟩ := pl_place HP.out hlt
      have HE : Hid (f k = (pl f k : Nat)) := hfe
      have hok : 0 ≤ f k ∧ f k ≤ 65535 := by omega
      have HOK : Hid (0 ≤ f k ∧ f k ≤ 65535) := hok
      have HBW : Hid (w.heap.size + 1 < wr.heap.size) := HL.out.lt
      clear hfe hok
      have hwr : w.heap.size ≤ wr.heap.size := HM.out.size
      have hA : Blw wr (wr.alloc (.cells #[.int .i64 (f k), .int .i64 (g k)] 43)) := (Blw.refl _).alloc _
      have hbx := box2 wr (.int .i64 (f k)) (.int .i64 (g k)) 43
      replace HL : Hid (LW (fun _ => True) w.heap.size (wr.alloc (.cells #[.int .i64 (f k), .int .i64 (g k)] 43)) (w.heap.size + 1) (DS M n f g (2 * k)) (2 * k + 1) (fun i => (DS M n f g i).md)) := HL.out.mod hA
      replace HM : Hid (Mod (fun b => w.heap.size ≤ b) w (wr.alloc (.cells #[.int .i64 (f k), .int .i64 (g k)] 43))) := HM.out.trans (hA.mod _)
      have HBX : Hid (Row (wr.alloc (.cells #[.int .i64 (f k), .int .i64 (g k)] 43)) wr.heap.size 2 (fun i => if i = 0 then .int .i64 (f k) else .int .i64 (g k))) := hbx
      clear hA hbx
      go_upto_region 6 with fail
      clear g0 g1
      revert HL HM HBX
      generalize wr.alloc (.cells #[.int .i64 (f k), .int .i64 (g k)] 43) = w3
      intro HL HM HBX
      go_cut [] from 24 to 29 (fun wx => LW (fun _ => True) w.heap.size wx (w.heap.size + 1) ((DS M n f g (2 * k)).st (28 + 4 * k) (f k)) (2 * k + 1) (fun i => (DS M n f g i).md) ∧ Mod (fun b => b = w.heap.size + 1) w3 wx)
      case first =>
        have Q0 : ∀ w', Mod (fun b => b = w.heap.size + 1) w3 w' → w'.cell? ⟨wr.heap.size, 0, none⟩ = some (.int .i64 (f k)) := fun w' hh => (get2 (HBX.out.mod hh (by have := HBW.out; omega))).1
        clear hpl
        go_region_held3 (fun w' => Mod (fun b => b = w.heap.size + 1) w3 w') ((first | exact (Blw.refl _).drew.mod _ | assumption | exact Mod.trans (by assumption) (by assumption))) (first
          | (go_at_call 77; refine (l4Entry_any k _ (by omega)).mono ?_; rintro e w7 ⟨rfl, rfl⟩)
          | (go_at_call 95; refine (lwStore_any _ _ _ _ _ (28 + 4 * k) (f k) _ (by omega) HOK.out (HL.out.mod (Blw.refl _).drew)).mono ?_; rintro e w7 ⟨⟨v7, rfl⟩, L7, hm7⟩; have HL7 : Hid _ := L7; clear L7; have hm8 := Mod.trans ((Blw.refl w3).drew.mod (fun b => b = w.heap.size + 1)) hm7; clear hm7))
        all_goals go_wp2_with fail
        all_goals go_meet
        all_goals exact ⟨HL7.out, by assumption⟩
      case rest =>
        obtain ⟨L4, hm4⟩ := hcut
        have HL4 : Hid _ := L4
        replace HBX : Hid (Row wc wr.heap.size 2 (fun i => if i = 0 then .int .i64 (f k) else .int .i64 (g k))) := HBX.out.mod hm4 (by have := HBW.out; omega)
        replace HM : Hid (Mod (fun b => w.heap.size ≤ b) w wc) := HM.out.trans (hm4.mono (fun b hb => by omega))
        clear L4 hm4 HL
        go_upto_region 7 with fail
        go_cut [] from 30 to 41 (fun wx => LW (fun _ => True) w.heap.size wx (w.heap.size + 1) (DS M n f g (2 * k + 1)) (2 * k + 1) (fun i => (DS M n f g i).md) ∧ Mod (fun b => b = w.heap.size + 1) wc wx)
        case first =>
          obtain ⟨mm, Ym, ⟨p0, p1, p2⟩, ma⟩ := HL4.out.cells
          have HMA : Hid (MemAt Ym wc mm ((DS M n f g (2 * k)).st (28 + 4 * k) (f k)).md) := ma
          have HG : Hid (((DS M n f g (2 * k)).st (28 + 4 * k) (f k)).md.Good) := HL4.out.good
          have HV : Hid (0 ≤ ((DS M n f g (2 * k)).st (28 + 4 * k) (f k)).w (pl f k) ∧ ((DS M n f g (2 * k)).st (28 + 4 * k) (f k)).w (pl f k) ≤ 65535) := word_ok HG.out (by omega)
          have SK : ∀ w', Blw wc w' → w'.cell? ⟨wr.heap.size, 0, none⟩ = some (.int .i64 (f k)) := fun w' hh => (get2 (HBX.out.blw hh)).1
          have HC : Hid (∀ w', Blw wc w' → Calls Try.prog 70 #[mm.val ((DS M n f g (2 * k)).st (28 + 4 * k) (f k)).md, .int .i64 (f k)] w' fun e w'' => e = .returned (.int .i64 (((DS M n f g (2 * k)).st (28 + 4 * k) (f k)).w (pl f k))) ∧ Blw w' w'') := fun w' hb => by
            have h9 := l1Load_any mm ((DS M n f g (2 * k)).st (28 + 4 * k) (f k)).md Ym w' (pl f k) (by omega) HG.out (HMA.out.blw hb)
            rw [← HE.out] at h9
            exact h9
          clear ma
          refine wp_region_noPanic ?_
          refine wp_region_held_drew (S := fun w' => w'.cell? ⟨wr.heap.size, 0, none⟩ = some (.int .i64 (f k))) (by kernel_rfl) (SK _ (Blw.refl wc).drew) (fun hB => ?_)
          clear hB
          refine wpAnyH_take (i := 0) (oi := { dst := some 30, op := Op.move (Operand.tmp 5), type := 118, pos := _, after := #[], guard := none }) (v := (.pointer (some ⟨w.heap.size + 1, 0, none⟩))) rfl (by kernel_rfl) (by kernel_rfl) (by kernel_rfl) (fun _ _ _ h => h) (Or.inl ⟨by rfl, fun w' hS => by (try dsimp only at hS); go_simp⟩) (SK _ (Blw.refl wc).drew) ?_
          simp only [Act.put, List.setIfInBounds_toArray, List.set_cons_zero, List.set_cons_succ]
          refine wpAnyH_take (i := 1) (oi := { dst := some 31, op := Op.move (Operand.tmp 6), type := 3, pos := _, after := #[], guard := none }) (v := (.int .i64 (k : Int))) rfl (by kernel_rfl) (by kernel_rfl) (by kernel_rfl) (fun _ _ _ h => h) (Or.inl ⟨by rfl, fun w' hS => by (try dsimp only at hS); go_simp⟩) (SK _ (Blw.refl wc).drew) ?_
          simp only [Act.put, List.setIfInBounds_toArray, List.set_cons_zero, List.set_cons_succ]
          refine wpAnyH_take (i := 4) (oi := { dst := some 34, op := Op.move (Operand.tmp 5), type := 118, pos := _, after := #[], guard := none }) (v := (.pointer (some ⟨w.heap.size + 1, 0, none⟩))) rfl (by kernel_rfl) (by kernel_rfl) (by kernel_rfl) (fun _ _ _ h => h) (Or.inl ⟨by rfl, fun w' hS => by (try dsimp only at hS); go_simp⟩) (SK _ (Blw.refl wc).drew) ?_
          simp only [Act.put, List.setIfInBounds_toArray, List.set_cons_zero, List.set_cons_succ]
          refine wpAnyH_take (i := 5) (oi := { dst := some 35, op := Op.nilCheck (Operand.tmp 34), type := 0, pos := _, after := #[{ on := 4, ground := Ground.data }], guard := none }) (v := (.pointer (some ⟨w.heap.size + 1, 0, none⟩))) rfl (by kernel_rfl) (by kernel_rfl) (by kernel_rfl) (fun _ _ _ h => h) (Or.inl ⟨by rfl, fun w' hS => by (try dsimp only at hS); go_simp⟩) (SK _ (Blw.refl wc).drew) ?_
          simp only [Act.put, List.setIfInBounds_toArray, List.set_cons_zero, List.set_cons_succ]
          refine wpAnyH_take (i := 6) (oi := { dst := some 36, op := Op.fieldAddr 120 (Operand.tmp 35) 0, type := 0, pos := _, after := #[{ on := 5, ground := Ground.data }], guard := none }) (v := (.pointer (some ⟨w.heap.size + 1, 0, none⟩))) rfl (by kernel_rfl) (by kernel_rfl) (by kernel_rfl) (fun _ _ _ h => h) (Or.inl ⟨by rfl, fun w' hS => by (try dsimp only at hS); go_simp⟩) (SK _ (Blw.refl wc).drew) ?_
          simp only [Act.put, List.setIfInBounds_toArray, List.set_cons_zero, List.set_cons_succ]
          refine wpAnyH_take (i := 8) (oi := { dst := some 38, op := Op.fieldAddr 43 (Operand.tmp 7) 0, type := 0, pos := _, after := #[], guard := none }) (v := (.pointer (some ⟨wr.heap.size, 0, none⟩))) rfl (by kernel_rfl) (by kernel_rfl) (by kernel_rfl) (fun _ _ _ h => h) (Or.inl ⟨by rfl, fun w' hS => by (try dsimp only at hS); go_simp⟩) (SK _ (Blw.refl wc).drew) ?_
          simp only [Act.put, List.setIfInBounds_toArray, List.set_cons_zero, List.set_cons_succ]
          refine wpAnyH_take (i := 9) (oi := { dst := some 39, op := Op.load 3 (Operand.tmp 38), type := 3, pos := _, after := #[{ on := 8, ground := Ground.data }], guard := none }) (v := (.int .i64 (f k))) rfl (by kernel_rfl) (by kernel_rfl) (by kernel_rfl) (fun _ _ _ h => h) (Or.inl ⟨by rfl, fun w' hS => by (try dsimp only at hS); go_simp⟩) (SK _ (Blw.refl wc).drew) ?_
          simp only [Act.put, List.setIfInBounds_toArray, List.set_cons_zero, List.set_cons_succ]
          refine wpAnyH_ready (rs := [2, 7]) (by kernel_rfl) (by simp) ?_
          refine AllReadyH.cons (o := { dst := some 32, op := Op.call { callee := Callee.value (Operand.func 77), args := #[Operand.tmp 31], argTypes := #[3] }, type := 3, pos := _, after := #[{ on := 1, ground := Ground.data }], guard := none }) rfl (fun K hK => ?_) (AllReadyH.cons (o := { dst := some 37, op := Op.load 26 (Operand.tmp 36), type := 26, pos := _, after := #[{ on := 6, ground := Ground.data }], guard := none }) rfl (fun K hK => ?_) AllReadyH.nil)
          · go_simp
            refine (l4Entry_any k _ (by omega)).mono ?_
            rintro e w7 ⟨rfl, rfl⟩
            refine hK.out _ _ (SK _ (Blw.refl wc).drew) (fun hB => ?_)
            clear hK K hB
            try simp only [Act.put, List.setIfInBounds_toArray, List.set_cons_zero, List.set_cons_succ]
            have e28 : IntKind.i64.wrap (28 + 4 * (k : Int) + 1) = 28 + 4 * (k : Int) + 1 := by rw [IntKind.wrap_i64]; omega
            refine wpAnyH_take (i := 3) (oi := { dst := some 33, op := Op.binOp BinOp.add 3 (Operand.tmp 32) (Operand.const (Value.int IntKind.i64 1)) 3, type := 3, pos := _, after := #[{ on := 2, ground := Ground.data }], guard := none }) (v := (.int .i64 ((28 + 4 * k + 1 : Nat) : Int))) rfl (by kernel_rfl) (by kernel_rfl) (by kernel_rfl) (fun _ _ _ h => h) (Or.inl ⟨by rfl, fun w' hS => by (try dsimp only at hS); go_simp⟩) (SK _ (Blw.refl wc).drew) ?_
            simp only [Act.put, List.setIfInBounds_toArray, List.set_cons_zero, List.set_cons_succ]
            clear e28
            refine wpAnyH_ready (rs := [7]) (by kernel_rfl) (by simp) ?_
            refine AllReadyH.cons (o := { dst := some 37, op := Op.load 26 (Operand.tmp 36), type := 26, pos := _, after := #[{ on := 6, ground := Ground.data }], guard := none }) rfl (fun K hK => ?_) AllReadyH.nil
            go_simp
            refine hK.out _ _ (SK _ (Blw.refl wc).drew) (fun hB => ?_)
            clear hK K hB
            try simp only [Act.put, List.setIfInBounds_toArray, List.set_cons_zero, List.set_cons_succ]
            refine wpAnyH_ready (rs := [10]) (by kernel_rfl) (by simp) ?_
            refine AllReadyH.cons (o := { dst := some 40, op := Op.call { callee := Callee.value (Operand.func 70), args := #[Operand.tmp 37, Operand.tmp 39], argTypes := #[26, 3] }, type := 3, pos := _, after := #[{ on := 7, ground := Ground.data }, { on := 9, ground := Ground.data }, { on := 2, ground := Ground.chain }], guard := none }) rfl (fun K hK => ?_) AllReadyH.nil
            go_simp
            refine (HC.out _ (Blw.refl wc).drew).mono ?_
            rintro e w8 ⟨rfl, hb8⟩
            have B8 : Blw wc w8 := (Blw.refl wc).drew.trans hb8
            clear hb8
            refine hK.out _ _ (SK _ B8) (fun hB => ?_)
            clear hK K hB
            try simp only [Act.put, List.setIfInBounds_toArray, List.set_cons_zero, List.set_cons_succ]
            refine wpAnyH_ready (rs := [11]) (by kernel_rfl) (by simp) ?_
            refine AllReadyH.cons (o := { dst := some 41, op := Op.call { callee := Callee.value (Operand.func 95), args := #[Operand.tmp 30, Operand.tmp 33, Operand.tmp 40], argTypes := #[118, 3, 3] }, type := 0, pos := _, after := #[{ on := 0, ground := Ground.data }, { on := 3, ground := Ground.data }, { on := 10, ground := Ground.data }, { on := 10, ground := Ground.chain }], guard := none }) rfl (fun K hK => ?_) AllReadyH.nil
            go_simp
            refine (lwStore_any _ _ _ _ _ (28 + 4 * k + 1) _ _ (by omega) HV.out (HL4.out.mod B8)).mono ?_
            rintro e w9 ⟨⟨v9, rfl⟩, L9, hm9⟩
            rw [DS_a HP.out hlt] at L9
            have hS9 := (get2 ((HBX.out.blw B8).mod hm9 (by have := HBW.out; omega))).1
            have HL9 : Hid _ := And.intro L9 ((B8.mod (fun b => b = w.heap.size + 1)).trans hm9)
            clear L9 hm9
            refine hK.out _ _ hS9 (fun hB => ?_)
            clear hK K hB
            try simp only [Act.put, List.setIfInBounds_toArray, List.set_cons_zero, List.set_cons_succ]
            refine wpAnyH_done (by kernel_rfl) ?_ _
            refine NoPanic.normal ?_
            go_wp2_with fail
            go_meet
            exact HL9.out
          · go_simp
            refine hK.out _ _ (SK _ (Blw.refl wc).drew) (fun hB => ?_)
            clear hK K hB
            try simp only [Act.put, List.setIfInBounds_toArray, List.set_cons_zero, List.set_cons_succ]
            refine wpAnyH_ready (rs := [2]) (by kernel_rfl) (by simp) ?_
            refine AllReadyH.cons (o := { dst := some 32, op := Op.call { callee := Callee.value (Operand.func 77), args := #[Operand.tmp 31], argTypes := #[3] }, type := 3, pos := _, after := #[{ on := 1, ground := Ground.data }], guard := none }) rfl (fun K hK => ?_) AllReadyH.nil
            go_simp
            refine (l4Entry_any k _ (by omega)).mono ?_
            rintro e w7 ⟨rfl, rfl⟩
            refine hK.out _ _ (SK _ (Blw.refl wc).drew) (fun hB => ?_)
            clear hK K hB
            try simp only [Act.put, List.setIfInBounds_toArray, List.set_cons_zero, List.set_cons_succ]
            have e28 : IntKind.i64.wrap (28 + 4 * (k : Int) + 1) = 28 + 4 * (k : Int) + 1 := by rw [IntKind.wrap_i64]; omega
            refine wpAnyH_take (i := 3) (oi := { dst := some 33, op := Op.binOp BinOp.add 3 (Operand.tmp 32) (Operand.const (Value.int IntKind.i64 1)) 3, type := 3, pos := _, after := #[{ on := 2, ground := Ground.data }], guard := none }) (v := (.int .i64 ((28 + 4 * k + 1 : Nat) : Int))) rfl (by kernel_rfl) (by kernel_rfl) (by kernel_rfl) (fun _ _ _ h => h) (Or.inl ⟨by rfl, fun w' hS => by (try dsimp only at hS); go_simp⟩) (SK _ (Blw.refl wc).drew) ?_
            simp only [Act.put, List.setIfInBounds_toArray, List.set_cons_zero, List.set_cons_succ]
            clear e28
            refine wpAnyH_ready (rs := [10]) (by kernel_rfl) (by simp) ?_
            refine AllReadyH.cons (o := { dst := some 40, op := Op.call { callee := Callee.value (Operand.func 70), args := #[Operand.tmp 37, Operand.tmp 39], argTypes := #[26, 3] }, type := 3, pos := _, after := #[{ on := 7, ground := Ground.data }, { on := 9, ground := Ground.data }, { on := 2, ground := Ground.chain }], guard := none }) rfl (fun K hK => ?_) AllReadyH.nil
            go_simp
            refine (HC.out _ (Blw.refl wc).drew).mono ?_
            rintro e w8 ⟨rfl, hb8⟩
            have B8 : Blw wc w8 := (Blw.refl wc).drew.trans hb8
            clear hb8
            refine hK.out _ _ (SK _ B8) (fun hB => ?_)
            clear hK K hB
            try simp only [Act.put, List.setIfInBounds_toArray, List.set_cons_zero, List.set_cons_succ]
            refine wpAnyH_ready (rs := [11]) (by kernel_rfl) (by simp) ?_
            refine AllReadyH.cons (o := { dst := some 41, op := Op.call { callee := Callee.value (Operand.func 95), args := #[Operand.tmp 30, Operand.tmp 33, Operand.tmp 40], argTypes := #[118, 3, 3] }, type := 0, pos := _, after := #[{ on := 0, ground := Ground.data }, { on := 3, ground := Ground.data }, { on := 10, ground := Ground.data }, { on := 10, ground := Ground.chain }], guard := none }) rfl (fun K hK => ?_) AllReadyH.nil
            go_simp
            refine (lwStore_any _ _ _ _ _ (28 + 4 * k + 1) _ _ (by omega) HV.out (HL4.out.mod B8)).mono ?_
            rintro e w9 ⟨⟨v9, rfl⟩, L9, hm9⟩
            rw [DS_a HP.out hlt] at L9
            have hS9 := (get2 ((HBX.out.blw B8).mod hm9 (by have := HBW.out; omega))).1
            have HL9 : Hid _ := And.intro L9 ((B8.mod (fun b => b = w.heap.size + 1)).trans hm9)
            clear L9 hm9
            refine hK.out _ _ hS9 (fun hB => ?_)
            clear hK K hB
            try simp only [Act.put, List.setIfInBounds_toArray, List.set_cons_zero, List.set_cons_succ]
            refine wpAnyH_done (by kernel_rfl) ?_ _
            refine NoPanic.normal ?_
            go_wp2_with fail
            go_meet
            exact HL9.out
        case rest =>
          obtain ⟨L5, hm5⟩ := hcut
          replace HM : Hid (Mod (fun b => w.heap.size ≤ b) w wc) := HM.out.trans (hm5.mono (fun b hb => by omega))
          have HL5 : Hid _ := L5
          clear L5 hm5 HL4 HBX
          have hwc := HM.out.size
          go_wp2_with fail
          refine (lwNote_any _ _ _ (2 * k + 1) (fun i => (DS M n f g i).md) (fun i => (DS M n f g i).md) _ (by omega) (fun i hi => rfl) rfl hwc HL5.out).mono ?_
          rintro e w6 ⟨⟨v6, rfl⟩, L6, hm6⟩
          have HL6 : Hid _ := L6
          replace HM : Hid (Mod (fun b => w.heap.size ≤ b) w w6) := HM.out.trans hm6
          clear L6 hm6 HL5 hwc
          have hwc := HM.out.size
          go_wp2_with fail
          refine (l4Entry_any k _ (by omega)).mono ?_
          rintro e w7 ⟨rfl, rfl⟩
          go_wp2_with fail
          refine (lwFlush_any _ _ _ (2 * k + 1 + 1) (fun i => (DS M n f g i).md) (fun i => (DS M n f g i).md) (28 + 4 * k) _ (by omega) (by omega) (fun i hi => rfl) (by rw [DS_b hlt]) hwc HL6.out).mono ?_
          rintro e w8 ⟨⟨v8, rfl⟩, L8, hm8⟩
          rw [DS_b hlt] at L8
          have HF : Hid _ := And.intro L8 (HM.out.trans hm8)
          clear L8 hm8 HL6 HM hwc
          go_wp2
          go_roundw
          case rel => exact ⟨k + 1, by omega, by go_num, HF.out.1, HF.out.2⟩
          case measure => simp [intOf]; omega
    · obtain rfl : k = n := by omega
      have hz := HM.out.size
      go_wp2_with fail
      refine (lwStore_any _ _ _ _ _ 24 (k : Int) _ (by omega) ⟨by omega, by omega⟩ HL.out).mono ?_
      rintro e w3 ⟨⟨v3, rfl⟩, L3, hm3⟩
      rw [DS_c] at L3
      have HL3 : Hid _ := L3
      replace HM : Hid (Mod (fun b => w.heap.size ≤ b) w w3) := HM.out.trans (hm3.mono (fun b hb => by omega))
      clear L3 hm3 HL hz
      have hz := HM.out.size
      go_wp2_with fail
      refine (lwNote_any _ _ _ (2 * k + 1) (fun i => (DS M k f g i).md) (fun i => (DS M k f g i).md) _ (by omega) (fun i hi => rfl) rfl hz HL3.out).mono ?_
      rintro e w4 ⟨⟨v4, rfl⟩, L4, hm4⟩
      have HL4 : Hid _ := L4
      replace HM : Hid (Mod (fun b => w.heap.size ≤ b) w w4) := HM.out.trans hm4
      clear L4 hm4 HL3 hz
      have hz := HM.out.size
      go_wp2_with fail
      refine (lwFlush_any _ _ _ (2 * k + 1 + 1) (fun i => (DS M k f g i).md) (fun i => (DS M k f g i).md) 24 _ (by omega) (by omega) (fun i hi => rfl) (by rw [DS_d]) hz HL4.out).mono ?_
      rintro e w5 ⟨⟨v5, rfl⟩, L5, hm5⟩
      rw [DS_d] at L5
      have HL5 : Hid (LW (fun _ => True) w.heap.size w5 (w.heap.size + 1) (DS M k f g (2 * k + 2 + 0)) (2 * k + 3 + 0) (fun i => (DS M k f g i).md)) := L5
      replace HM : Hid (Mod (fun b => w.heap.size ≤ b) w w5) := HM.out.trans hm5
      clear L5 hm5 HL4 hz
      go_wp2_with fail
      go_loopw [59] (fun i wr => ∃ t : Nat, t ≤ k ∧ i = .int .i64 t ∧ LW (fun _ => True) w.heap.size wr (w.heap.size + 1) (DS M k f g (2 * k + 2 + t)) (2 * k + 3 + t) (fun i => (DS M k f g i).md) ∧ Mod (fun b => w.heap.size ≤ b) w wr) (fun i _ => k - (intOf i).toNat)
      case atStart => exact ⟨0, by omega, rfl, HL5.out, HM.out⟩
      case round =>
        obtain ⟨t, ht, rfl, L, hm⟩ := hrel
        clear HL5 HM
        have HM : Hid (Mod (fun b => w.heap.size ≤ b) w wr) := hm
        have HL : Hid (LW (fun _ => True) w.heap.size wr (w.heap.size + 1) (DS M k f g (2 * k + 2 + t)) (2 * k + 3 + t) (fun i => (DS M k f g i).md)) := L
        clear L hm
        by_cases hlt : t < k
        · have hlt' : (t : Int) < k := by omega
          obtain ⟨b, o, rfl, -, g0, g1⟩ := (HU.out _ HM.out).2 t hlt
          obtain ⟨hpl, hfe⟩ := pl_place HP.out hlt
          have HE : Hid (f t = (pl f t : Nat)) := hfe
          clear hfe
          have hwd := (HP.out.2 t hlt).2.1
          have hA : Blw wr (wr.alloc (.cells #[.int .i64 (f t), .int .i64 (g t)] 43)) := (Blw.refl _).alloc _
          replace HL : Hid (LW (fun _ => True) w.heap.size (wr.alloc (.cells #[.int .i64 (f t), .int .i64 (g t)] 43)) (w.heap.size + 1) (DS M k f g (2 * k + 2 + t)) (2 * k + 3 + t) (fun i => (DS M k f g i).md)) := HL.out.mod hA
          replace HM : Hid (Mod (fun b => w.heap.size ≤ b) w (wr.alloc (.cells #[.int .i64 (f t), .int .i64 (g t)] 43))) := HM.out.trans (hA.mod _)
          clear hA
          go_wp2_with fail
          clear g0 g1
          revert HL HM
          generalize wr.alloc (.cells #[.int .i64 (f t), .int .i64 (g t)] 43) = w6
          intro HL HM
          rw [HE.out]
          refine (lwStore_any _ _ _ _ _ (pl f t) (g t) _ (by omega) hwd HL.out).mono ?_
          rintro e w7 ⟨⟨v7, rfl⟩, L7, hm7⟩
          rw [DS_e hlt] at L7
          have HL7 : Hid _ := L7
          replace HM : Hid (Mod (fun b => w.heap.size ≤ b) w w7) := HM.out.trans (hm7.mono (fun b hb => by omega))
          clear L7 hm7 HL
          have hz := HM.out.size
          go_wp2_with fail
          refine (lwNote_any _ _ _ (2 * k + 3 + t) (fun i => (DS M k f g i).md) (fun i => (DS M k f g i).md) _ (by omega) (fun i hi => rfl) (by rw [show 2 * k + 3 + t = 2 * k + 2 + t + 1 by omega]) hz HL7.out).mono ?_
          rintro e w8 ⟨⟨v8, rfl⟩, L8, hm8⟩
          have HF : Hid (LW (fun _ => True) w.heap.size w8 (w.heap.size + 1) (DS M k f g (2 * k + 2 + (t + 1))) (2 * k + 3 + (t + 1)) (fun i => (DS M k f g i).md) ∧ Mod (fun b => w.heap.size ≤ b) w w8) := And.intro L8 (HM.out.trans hm8)
          clear L8 hm8 HL7 HM hz hpl hwd
          go_wp2
          go_roundw
          case rel => exact ⟨t + 1, by omega, by go_num, HF.out.1, HF.out.2⟩
          case measure => simp [intOf]; omega
        · obtain rfl : t = k := by omega
          have HL5 : Hid (LW (fun _ => True) w.heap.size wr (w.heap.size + 1) (DS M t f g (3 * t + 2 + 0)) (3 * t + 3 + 0) (fun i => (DS M t f g i).md)) := by
            have h9 := HL.out
            rw [show 2 * t + 2 + t = 3 * t + 2 + 0 by omega, show 2 * t + 3 + t = 3 * t + 3 + 0 by omega] at h9
            exact h9
          clear HL
          go_wp2_with fail
          go_loopw [74] (fun i wr => ∃ j : Nat, j ≤ t ∧ i = .int .i64 j ∧ LW (fun _ => True) w.heap.size wr (w.heap.size + 1) (DS M t f g (3 * t + 2 + j)) (3 * t + 3 + j) (fun i => (DS M t f g i).md) ∧ Mod (fun b => w.heap.size ≤ b) w wr) (fun i _ => t - (intOf i).toNat)
          case atStart => exact ⟨0, by omega, rfl, HL5.out, HM.out⟩
          case round =>
            obtain ⟨j, hj, rfl, L, hm⟩ := hrel
            clear HL5 HM
            have HM : Hid (Mod (fun b => w.heap.size ≤ b) w wr) := hm
            have HL : Hid (LW (fun _ => True) w.heap.size wr (w.heap.size + 1) (DS M t f g (3 * t + 2 + j)) (3 * t + 3 + j) (fun i => (DS M t f g i).md)) := L
            clear L hm
            by_cases hlt : j < t
            · have hlt' : (j : Int) < t := by omega
              obtain ⟨b, o, rfl, -, g0, g1⟩ := (HU.out _ HM.out).2 j hlt
              obtain ⟨hpl, hfe⟩ := pl_place HP.out hlt
              have HE : Hid (f j = (pl f j : Nat)) := hfe
              clear hfe
              have hA : Blw wr (wr.alloc (.cells #[.int .i64 (f j), .int .i64 (g j)] 43)) := (Blw.refl _).alloc _
              replace HL : Hid (LW (fun _ => True) w.heap.size (wr.alloc (.cells #[.int .i64 (f j), .int .i64 (g j)] 43)) (w.heap.size + 1) (DS M t f g (3 * t + 2 + j)) (3 * t + 3 + j) (fun i => (DS M t f g i).md)) := HL.out.mod hA
              replace HM : Hid (Mod (fun b => w.heap.size ≤ b) w (wr.alloc (.cells #[.int .i64 (f j), .int .i64 (g j)] 43))) := HM.out.trans (hA.mod _)
              clear hA
              go_wp2_with fail
              clear g0 g1
              revert HL HM
              generalize wr.alloc (.cells #[.int .i64 (f j), .int .i64 (g j)] 43) = w6
              intro HL HM
              have hz := HM.out.size
              rw [HE.out]
              refine (lwFlush_any _ _ _ (3 * t + 3 + j) (fun i => (DS M t f g i).md) (fun i => (DS M t f g i).md) (pl f j) _ (by omega) (by omega) (fun i hi => rfl) (by rw [DS_f hlt, show 3 * t + 3 + j = 3 * t + 2 + j + 1 by omega]) hz HL.out).mono ?_
              rintro e w7 ⟨⟨v7, rfl⟩, L7, hm7⟩
              rw [DS_f hlt] at L7
              have HF : Hid (LW (fun _ => True) w.heap.size w7 (w.heap.size + 1) (DS M t f g (3 * t + 2 + (j + 1))) (3 * t + 3 + (j + 1)) (fun i => (DS M t f g i).md) ∧ Mod (fun b => w.heap.size ≤ b) w w7) := And.intro L7 (HM.out.trans hm7)
              clear L7 hm7 HL HM hz hpl
              go_wp2
              go_roundw
              case rel => exact ⟨j + 1, by omega, by go_num, HF.out.1, HF.out.2⟩
              case measure => simp [intOf]; omega
            · obtain rfl : j = t := by omega
              have HL6 : Hid (LW (fun _ => True) w.heap.size wr (w.heap.size + 1) (DS M j f g (4 * j + 2)) (4 * j + 2 + 1) (fun i => (DS M j f g i).md)) := by
                have h9 := HL.out
                rw [show 3 * j + 2 + j = 4 * j + 2 by omega, show 3 * j + 3 + j = 4 * j + 2 + 1 by omega] at h9
                exact h9
              clear HL
              go_wp2_with fail
              refine (lwStore_any _ _ _ _ _ 24 0 _ (by omega) ⟨by omega, by omega⟩ HL6.out).mono ?_
              rintro e w7 ⟨⟨v7, rfl⟩, L7, hm7⟩
              rw [DS_g] at L7
              have HL7 : Hid _ := L7
              replace HM : Hid (Mod (fun b => w.heap.size ≤ b) w w7) := HM.out.trans (hm7.mono (fun b hb => by omega))
              clear L7 hm7 HL6
              have hz := HM.out.size
              go_wp2_with fail
              refine (lwNote_any _ _ _ (4 * j + 2 + 1) (fun i => (DS M j f g i).md) (fun i => (DS M j f g i).md) _ (by omega) (fun i hi => rfl) rfl hz HL7.out).mono ?_
              rintro e w8 ⟨⟨v8, rfl⟩, L8, hm8⟩
              have HL8 : Hid _ := L8
              replace HM : Hid (Mod (fun b => w.heap.size ≤ b) w w8) := HM.out.trans hm8
              clear L8 hm8 HL7 hz
              have hz := HM.out.size
              go_wp2_with fail
              refine (lwFlush_any _ _ _ (4 * j + 2 + 1 + 1) (fun i => (DS M j f g i).md) (fun i => (DS M j f g i).md) 24 _ (by omega) (by omega) (fun i hi => rfl) (by rw [DS_h]) hz HL8.out).mono ?_
              rintro e w9 ⟨⟨v9, rfl⟩, L9, hm9⟩
              have HL9 : Hid _ := L9
              replace HM : Hid (Mod (fun b => w.heap.size ≤ b) w w9) := HM.out.trans hm9
              clear L9 hm9 HL8 hz
              obtain ⟨a9, c9, p9, own9⟩ := HL9.out.list (by omega)
              have HO : Hid (MemsOwn (fun x => w.heap.size ≤ x ∧ x < w9.heap.size) w9 a9 (4 * j + 5) (fun i => (DS M j f g i).md)) := own9
              have e5 : 4 * j + 2 + 1 + 1 + 1 = 4 * j + 5 := by omega
              rw [e5] at p9
              clear own9 HL9 e5
              go_wp2
              go_ret
              exact ⟨a9, c9, rfl, HO.out, Mod.blw (Blw.refl _) HM.out (fun i hi => hi)⟩
end Go.Proofs.Ytglllnklcnlcjaa
/- The model's undoing of a deed. -/
namespace Go.Proofs.Ytglllnklcnlcjaa
open Go.RowKit
set_option linter.unusedSimpArgs false
set_option linter.unusedVariables false
/-- What answers a memory and a bool; the memory may be read. -/
def GivesA (out : MD → Bool → Prop) (w : World) (e : Ending) (w' : World) : Prop :=
  ∃ (m : MV) (M : MD) (b : Bool), e = .returned (.tuple #[m.val M, .bool b]) ∧ out M b ∧ MemAt (fun x => w.heap.size ≤ x ∧ x < w'.heap.size) w' m M ∧ Blw w w'
/-- What the memory holds behind i steps of its undoing. -/
def RS (H : HS) (i : Nat) : HS := runs (settle H.many H.ep H.ex) H i
theorem RS_succ {H : HS} {i : Nat} {sp : Sp} (h : settle H.many H.ep H.ex i = sp) : RS H (i + 1) = sp.run (RS H i) := by subst h; rfl
theorem RS_a {H : HS} {k : Nat} (hk : k < H.many) : (RS H k).st (H.ep k) (H.ex k) = RS H (k + 1) := by
  rw [RS_succ (sp := .st (H.ep k) (H.ex k)) (by unfold settle; rw [if_pos hk])]; rfl
theorem RS_b {H : HS} {k : Nat} (hk : k < H.many) : (RS H (H.many + k)).fl (H.ep k / 4) = RS H (H.many + k + 1) := by
  rw [RS_succ (sp := .fl (H.ep k)) (by unfold settle; rw [if_neg (by omega), if_pos (by omega), show H.many + k - H.many = k by omega])]; rfl
theorem RS_c {H : HS} : (RS H (2 * H.many)).st 24 0 = RS H (2 * H.many + 1) := by
  rw [RS_succ (sp := .st 24 0) (by unfold settle; rw [if_neg (by omega), if_neg (by omega), if_pos rfl])]; rfl
theorem RS_d {H : HS} : (RS H (2 * H.many + 1)).fl (24 / 4) = H.back := by
  show _ = RS H (2 * H.many + 1 + 1)
  rw [RS_succ (i := 2 * H.many + 1) (sp := .fl 24) (by unfold settle; rw [if_neg (by omega), if_neg (by omega), if_neg (by omega)])]; rfl
/-- An entry of a log. -/
theorem log_entry {H : HS} (g : H.md.Good) (h : H.log) {k : Nat} (hk : k < H.many) : H.many ≤ 3 ∧ (H.ep k < 24 ∧ 8 ≤ H.ep k) ∧ H.w (28 + 4 * k) = (H.ep k : Nat) ∧ (0 ≤ H.ex k ∧ H.ex k ≤ 65535) := by
  have h3 : H.many ≤ 3 := by have := h.1; unfold HS.many; omega
  have h1 := log_places h k hk
  have h2 := h.2 k (by unfold HS.many at hk; omega)
  refine ⟨h3, ⟨h1.2, h1.1⟩, ?_, word_ok g (by omega)⟩
  unfold HS.ep
  omega
theorem LW.any {Q : Nat → Prop} {lo : Nat} {w : World} {B : Nat} {H : HS} {n : Nat} {M : Nat → MD} (h : LW Q lo w B H n M) (hn : n ≤ 1000) : ∃ m, (w.cell? ⟨B, 0, none⟩ = some (.slice m.a1 12 m.c1) ∧ w.cell? ⟨B, 1, none⟩ = some (.slice m.a2 12 m.c2) ∧ w.cell? ⟨B, 2, none⟩ = some (.slice m.a3 12 m.c3)) ∧ MemAt (fun x => x < w.heap.size ∧ (Q x ∨ lo ≤ x)) w m H.md := by
  obtain ⟨m, v, X, Y, r, a, b, hX, hY⟩ := h.ex
  obtain ⟨p0, p1, p2, -⟩ := get4 r
  exact ⟨m, ⟨p0, p1, p2⟩, a.mono (fun x hx => ⟨(hY x hx).1, (hY x hx).2.2.2⟩)⟩
/-- A flush whose note is not looked at. -/
theorem lwFlush_ex {Q : Nat → Prop} (lo B : Nat) (H : HS) (n : Nat) (k : Nat) (w : World) (hk : k < 48) (hn : n ≤ 1000) (hw : lo ≤ w.heap.size) (h : ∃ M, LW Q lo w B H n M) :
    Calls Try.prog 96 #[.pointer (some ⟨B, 0, none⟩), .int .i64 k] w fun e w' => (∃ v, e = .returned v) ∧ (∃ M, LW Q lo w' B (H.fl (k / 4)) (n + 1) M) ∧ Mod (fun b => lo ≤ b) w w' := by
  obtain ⟨M, h⟩ := h
  exact (lwFlush_any lo B H n M (fun i => if i < n then M i else (H.fl (k / 4)).md) k w hk hn (fun i hi => by rw [if_pos hi]) (by rw [if_neg (Nat.lt_irrefl n)]) hw h).mono fun e w' ⟨h1, h2, h3⟩ => ⟨h1, ⟨_, h2⟩, h3⟩
set_option maxRecDepth 20000 in
set_option maxHeartbeats 6400000 in
theorem l4Recover_any (m : MV) (H : HS) (Y : Nat → Prop) (w : World) (gd : H.md.Good) (hl : H.log) (h : MemAt Y w m H.md) (hY : ∀ b, Y b → b < w.heap.size) :
    Calls Try.prog 78 #[m.val H.md, .int .i64 H.many] w fun e w' => ∃ m', e = .returned (m'.val H.back.md) ∧ MemAt (fun x => w.heap.size + 1 + 1 ≤ x ∧ x < w'.heap.size) w' m' H.back.md ∧ Blw w w' := by
  have hb0 : Blw w ((w.alloc (.cells #[.slice m.a1 12 m.c1, .slice m.a2 12 m.c2, .slice m.a3 12 m.c3] 26)).alloc (.cells #[.slice none 0 0, .slice none 0 0, .slice none 0 0] 26)) := ((Blw.refl _).alloc _).alloc _
  obtain ⟨LL, hb1⟩ := (show LW (fun x => x < w.heap.size) (w.heap.size + 1 + 1) (((w.alloc (.cells #[.slice m.a1 12 m.c1, .slice m.a2 12 m.c2, .slice m.a3 12 m.c3] 26)).alloc (.cells #[.slice none 0 0, .slice none 0 0, .slice none 0 0] 26)).alloc (.cells #[.slice m.a1 12 m.c1, .slice m.a2 12 m.c2, .slice m.a3 12 m.c3, .slice none 0 0] 120)) (w.heap.size + 1 + 1) H 0 (fun _ => MZ) ∧ Blw ((w.alloc (.cells #[.slice m.a1 12 m.c1, .slice m.a2 12 m.c2, .slice m.a3 12 m.c3] 26)).alloc (.cells #[.slice none 0 0, .slice none 0 0, .slice none 0 0] 26)) (((w.alloc (.cells #[.slice m.a1 12 m.c1, .slice m.a2 12 m.c2, .slice m.a3 12 m.c3] 26)).alloc (.cells #[.slice none 0 0, .slice none 0 0, .slice none 0 0] 26)).alloc (.cells #[.slice m.a1 12 m.c1, .slice m.a2 12 m.c2, .slice m.a3 12 m.c3, .slice none 0 0] 120)) from by
    have hb2 : Blw ((w.alloc (.cells #[.slice m.a1 12 m.c1, .slice m.a2 12 m.c2, .slice m.a3 12 m.c3] 26)).alloc (.cells #[.slice none 0 0, .slice none 0 0, .slice none 0 0] 26)) (((w.alloc (.cells #[.slice m.a1 12 m.c1, .slice m.a2 12 m.c2, .slice m.a3 12 m.c3] 26)).alloc (.cells #[.slice none 0 0, .slice none 0 0, .slice none 0 0] 26)).alloc (.cells #[.slice m.a1 12 m.c1, .slice m.a2 12 m.c2, .slice m.a3 12 m.c3, .slice none 0 0] 120)) := (Blw.refl _).alloc _
    have r : Row (((w.alloc (.cells #[.slice m.a1 12 m.c1, .slice m.a2 12 m.c2, .slice m.a3 12 m.c3] 26)).alloc (.cells #[.slice none 0 0, .slice none 0 0, .slice none 0 0] 26)).alloc (.cells #[.slice m.a1 12 m.c1, .slice m.a2 12 m.c2, .slice m.a3 12 m.c3, .slice none 0 0] 120)) (w.heap.size + 1 + 1) 4 (lcell m (.slice none 0 0)) := by
      refine ⟨_, 120, by have := heap_alloc_new ((w.alloc (.cells #[.slice m.a1 12 m.c1, .slice m.a2 12 m.c2, .slice m.a3 12 m.c3] 26)).alloc (.cells #[.slice none 0 0, .slice none 0 0, .slice none 0 0] 26)) (.cells #[.slice m.a1 12 m.c1, .slice m.a2 12 m.c2, .slice m.a3 12 m.c3, .slice none 0 0] 120); rw [World.size_alloc, World.size_alloc] at this; exact this, by simp, fun i hi => ?_⟩
      match i, hi with
      | 0, _ => rfl
      | 1, _ => rfl
      | 2, _ => rfl
      | 3, _ => rfl
    exact ⟨⟨⟨m, _, fun _ => False, Y, r, (h.blw hb0).blw hb2, MBuf.nil _ _ _, fun _ h => h.elim, fun x hx => ⟨by have := hY x hx; have := (hb0.trans hb2).size; omega, id, by have := hY x hx; omega, Or.inl (hY x hx)⟩⟩, gd, by omega⟩, hb2⟩)
  have rA := ((box3 w (.slice m.a1 12 m.c1) (.slice m.a2 12 m.c2) (.slice m.a3 12 m.c3) 26).blw ((Blw.refl _).alloc (.cells #[.slice none 0 0, .slice none 0 0, .slice none 0 0] 26))).blw hb1
  have rR := (row_box (w.alloc (.cells #[.slice m.a1 12 m.c1, .slice m.a2 12 m.c2, .slice m.a3 12 m.c3] 26)) 26).blw hb1
  rw [World.size_alloc] at rR
  have hz0 : w.heap.size + 1 + 1 ≤ (((w.alloc (.cells #[.slice m.a1 12 m.c1, .slice m.a2 12 m.c2, .slice m.a3 12 m.c3] 26)).alloc (.cells #[.slice none 0 0, .slice none 0 0, .slice none 0 0] 26)).alloc (.cells #[.slice m.a1 12 m.c1, .slice m.a2 12 m.c2, .slice m.a3 12 m.c3, .slice none 0 0] 120)).heap.size := by simp
  have HL : Hid (∃ M, LW (fun x => x < w.heap.size) (w.heap.size + 1 + 1) (((w.alloc (.cells #[.slice m.a1 12 m.c1, .slice m.a2 12 m.c2, .slice m.a3 12 m.c3] 26)).alloc (.cells #[.slice none 0 0, .slice none 0 0, .slice none 0 0] 26)).alloc (.cells #[.slice m.a1 12 m.c1, .slice m.a2 12 m.c2, .slice m.a3 12 m.c3, .slice none 0 0] 120)) (w.heap.size + 1 + 1) (RS H 0) 0 M) := ⟨_, LL⟩
  have HB : Hid (Mod (fun b => w.heap.size + 1 + 1 ≤ b) ((w.alloc (.cells #[.slice m.a1 12 m.c1, .slice m.a2 12 m.c2, .slice m.a3 12 m.c3] 26)).alloc (.cells #[.slice none 0 0, .slice none 0 0, .slice none 0 0] 26)) (((w.alloc (.cells #[.slice m.a1 12 m.c1, .slice m.a2 12 m.c2, .slice m.a3 12 m.c3] 26)).alloc (.cells #[.slice none 0 0, .slice none 0 0, .slice none 0 0] 26)).alloc (.cells #[.slice m.a1 12 m.c1, .slice m.a2 12 m.c2, .slice m.a3 12 m.c3, .slice none 0 0] 120)) ∧ Blw w ((w.alloc (.cells #[.slice m.a1 12 m.c1, .slice m.a2 12 m.c2, .slice m.a3 12 m.c3] 26)).alloc (.cells #[.slice none 0 0, .slice none 0 0, .slice none 0 0] 26))) := ⟨hb1.mod _, hb0⟩
  have HA : Hid (Row (((w.alloc (.cells #[.slice m.a1 12 m.c1, .slice m.a2 12 m.c2, .slice m.a3 12 m.c3] 26)).alloc (.cells #[.slice none 0 0, .slice none 0 0, .slice none 0 0] 26)).alloc (.cells #[.slice m.a1 12 m.c1, .slice m.a2 12 m.c2, .slice m.a3 12 m.c3, .slice none 0 0] 120)) w.heap.size 3 (fun i => if i = 0 then .slice m.a1 12 m.c1 else if i = 1 then .slice m.a2 12 m.c2 else .slice m.a3 12 m.c3)) := rA
  have HR : Hid (Row (((w.alloc (.cells #[.slice m.a1 12 m.c1, .slice m.a2 12 m.c2, .slice m.a3 12 m.c3] 26)).alloc (.cells #[.slice none 0 0, .slice none 0 0, .slice none 0 0] 26)).alloc (.cells #[.slice m.a1 12 m.c1, .slice m.a2 12 m.c2, .slice m.a3 12 m.c3, .slice none 0 0] 120)) (w.heap.size + 1) 3 (fun _ => .slice none 0 0)) := rR
  have HMA : Hid (MemAt Y (((w.alloc (.cells #[.slice m.a1 12 m.c1, .slice m.a2 12 m.c2, .slice m.a3 12 m.c3] 26)).alloc (.cells #[.slice none 0 0, .slice none 0 0, .slice none 0 0] 26)).alloc (.cells #[.slice m.a1 12 m.c1, .slice m.a2 12 m.c2, .slice m.a3 12 m.c3, .slice none 0 0] 120)) m H.md) := (h.blw hb0).blw hb1
  have HW : Hid (Blw w (((w.alloc (.cells #[.slice m.a1 12 m.c1, .slice m.a2 12 m.c2, .slice m.a3 12 m.c3] 26)).alloc (.cells #[.slice none 0 0, .slice none 0 0, .slice none 0 0] 26)).alloc (.cells #[.slice m.a1 12 m.c1, .slice m.a2 12 m.c2, .slice m.a3 12 m.c3, .slice none 0 0] 120))) := hb0.trans hb1
  have HY : Hid (∀ b, Y b → b < w.heap.size) := hY
  have GD : Hid H.md.Good := gd
  have HLg : Hid H.log := hl
  have hm3 : H.many ≤ 3 := by have := hl.1; unfold HS.many; omega
  clear LL hb0 hb1 rA rR h gd hl hY HB
  simp only [MV.val, HS.md, MD.full]
  go_enter Try.func78, Try.ntmps78
  go_wp2_with fail
  revert hz0 HL HA HR HMA HW
  generalize ((w.alloc (.cells #[.slice m.a1 12 m.c1, .slice m.a2 12 m.c2, .slice m.a3 12 m.c3] 26)).alloc (.cells #[.slice none 0 0, .slice none 0 0, .slice none 0 0] 26)).alloc (.cells #[.slice m.a1 12 m.c1, .slice m.a2 12 m.c2, .slice m.a3 12 m.c3, .slice none 0 0] 120) = w1
  intro hz0 HL HA HR HMA HW
  have KEEP : Hid (∀ w', Mod (fun b => w.heap.size + 1 + 1 ≤ b) w1 w' → Row w' w.heap.size 3 (fun i => if i = 0 then .slice m.a1 12 m.c1 else if i = 1 then .slice m.a2 12 m.c2 else .slice m.a3 12 m.c3) ∧ Row w' (w.heap.size + 1) 3 (fun _ => .slice none 0 0) ∧ MemAt Y w' m H.md ∧ Blw w w' ∧ w.heap.size + 1 + 1 ≤ w'.heap.size) := fun w' hm => ⟨HA.out.mod hm (by omega), HR.out.mod hm (by omega), HMA.out.mod hm (fun b hb e => by have := HY.out b hb; omega), Mod.blw HW.out hm (fun i hi => by omega), by have := hm.size; omega⟩
  clear HA HR HMA HW
  generalize hmm : H.many = mm at *
  go_loopw [6] (fun i wr => ∃ k : Nat, k ≤ mm ∧ i = .int .i64 k ∧ (∃ M, LW (fun x => x < w.heap.size) (w.heap.size + 1 + 1) wr (w.heap.size + 1 + 1) (RS H k) 0 M) ∧ Mod (fun b => w.heap.size + 1 + 1 ≤ b) w1 wr) (fun i _ => mm - (intOf i).toNat)
  case atStart => exact ⟨0, by omega, rfl, HL.out, Mod.refl _ _⟩
  case round =>
    obtain ⟨k, hk, rfl, L, hm⟩ := hrel
    clear HL
    have HM : Hid (Mod (fun b => w.heap.size + 1 + 1 ≤ b) w1 wr) := hm
    have HL : Hid (∃ M, LW (fun x => x < w.heap.size) (w.heap.size + 1 + 1) wr (w.heap.size + 1 + 1) (RS H k) 0 M) := L
    clear L hm
    by_cases hlt : k < mm
    · have hlt' : (k : Int) < mm := by omega
      have HE : Hid _ := log_entry GD.out HLg.out (k := k) (by omega)
      go_upto_region 5 with fail
      have KS : ∀ w', Mod (fun b => b = w.heap.size + 1 + 1) wr w' → Mod (fun b => w.heap.size + 1 + 1 ≤ b) w1 w' := fun w' hh => HM.out.trans (hh.mono (fun b hb => by omega))
      have A0 : ∀ w', Mod (fun b => b = w.heap.size + 1 + 1) wr w' → w'.cell? ⟨w.heap.size, 0, none⟩ = some (.slice m.a1 12 m.c1) := fun w' hh => (get3 (KEEP.out w' (KS w' hh)).1).1
      have A1 : ∀ w', Mod (fun b => b = w.heap.size + 1 + 1) wr w' → w'.cell? ⟨w.heap.size, 1, none⟩ = some (.slice m.a2 12 m.c2) := fun w' hh => (get3 (KEEP.out w' (KS w' hh)).1).2.1
      have A2 : ∀ w', Mod (fun b => b = w.heap.size + 1 + 1) wr w' → w'.cell? ⟨w.heap.size, 2, none⟩ = some (.slice m.a3 12 m.c3) := fun w' hh => (get3 (KEEP.out w' (KS w' hh)).1).2.2
      have H70 : Hid (∀ (q : Nat) (x : Int) w', x = q → q < 48 → Mod (fun b => b = w.heap.size + 1 + 1) wr w' → Calls Try.prog 70 #[.agg #[.slice m.a1 12 m.c1, .slice m.a2 12 m.c2, .slice m.a3 12 m.c3], .int .i64 x] w' fun e w'' => e = .returned (.int .i64 (H.w q)) ∧ Blw w' w'') := fun q x w' e hq hh => by
        subst e
        exact l1Load_any m H.md Y w' q hq GD.out (KEEP.out w' (KS w' hh)).2.2.1
      have H95 : Hid (∀ (x y : Int) w', x = H.w (28 + 4 * k) → y = H.w (29 + 4 * k) → Blw wr w' → Calls Try.prog 95 #[.pointer (some ⟨w.heap.size + 1 + 1, 0, none⟩), .int .i64 x, .int .i64 y] w' fun e w'' => (∃ v, e = .returned v) ∧ ((∃ M, LW (fun x => x < w.heap.size) (w.heap.size + 1 + 1) w'' (w.heap.size + 1 + 1) (RS H (k + 1)) 0 M) ∧ Mod (fun b => w.heap.size + 1 + 1 ≤ b) w1 w'') ∧ Mod (fun b => b = w.heap.size + 1 + 1) w' w'') := fun x y w' ex ey hh => by
        obtain ⟨M, L⟩ := HL.out
        obtain ⟨-, hp, hw, hx⟩ := HE.out
        rw [ex, ey, hw]
        refine (lwStore_any _ _ _ _ M (H.ep k) (H.w (29 + 4 * k)) w' (by omega) hx (L.mod hh)).mono ?_
        rintro e w'' ⟨h1, h2, h3⟩
        have h2' := h2
        rw [show H.w (29 + 4 * k) = H.ex k from rfl, RS_a (by omega)] at h2'
        exact ⟨h1, ⟨⟨M, h2'⟩, HM.out.trans ((hh.mod _).trans (h3.mono (fun b hb => by omega)))⟩, h3⟩
      clear KS
      have e28 : IntKind.i64.wrap (28 + 4 * (k : Int) + 1) = 28 + 4 * (k : Int) + 1 := by rw [IntKind.wrap_i64]; omega
      go_region_held3 (fun w' => Mod (fun b => b = w.heap.size + 1 + 1) wr w') ((first | exact (Blw.refl _).drew.mod _ | assumption | exact Mod.trans (by assumption) (by assumption) | exact Blw.mod (by assumption) _)) (first
        | (go_at_call 77; refine (l4Entry_any k _ (by omega)).mono ?_; rintro e w7 ⟨rfl, rfl⟩)
        | (go_at_call 70; refine (H70.out (28 + 4 * k) _ _ (by omega) (by omega) ((Blw.refl _).drew.mod _)).mono ?_; rintro e w8 ⟨rfl, hb8⟩; have B8 : Blw wr w8 := (Blw.refl wr).drew.trans hb8; clear hb8)
        | (go_at_call 70; refine (H70.out (29 + 4 * k) _ _ (by omega) (by omega) (B8.mod _)).mono ?_; rintro e w9 ⟨rfl, hb9⟩; have B9 : Blw wr w9 := B8.trans hb9; clear hb9)
        | (go_at_call 95; refine (H95.out _ _ _ rfl rfl B9).mono ?_; rintro e w10 ⟨⟨v10, rfl⟩, L10, hm10⟩; have HL10 : Hid _ := L10; have M10 := Mod.trans (B9.mod (fun b => b = w.heap.size + 1 + 1)) hm10; clear L10 hm10))
      all_goals clear HL HM A0 A1 A2 M10 B8 B9
      all_goals go_wp2
      all_goals go_roundw
      all_goals first | exact ⟨k + 1, by omega, by go_num, HL10.out.1, HL10.out.2⟩ | (simp [intOf]; omega)
    · obtain rfl : k = mm := by omega
      have hlt' : ¬ (k : Int) < k := by omega
      go_wp2_with fail
      go_loopw [7] (fun i wr => ∃ t : Nat, t ≤ k ∧ i = .int .i64 t ∧ (∃ M, LW (fun x => x < w.heap.size) (w.heap.size + 1 + 1) wr (w.heap.size + 1 + 1) (RS H (k + t)) t M) ∧ Mod (fun b => w.heap.size + 1 + 1 ≤ b) w1 wr) (fun i _ => k - (intOf i).toNat)
      case atStart => exact ⟨0, by omega, rfl, HL.out, HM.out⟩
      case round =>
        obtain ⟨t, ht, rfl, L, hm⟩ := hrel
        clear HL HM
        have HM : Hid (Mod (fun b => w.heap.size + 1 + 1 ≤ b) w1 wr) := hm
        have HL : Hid (∃ M, LW (fun x => x < w.heap.size) (w.heap.size + 1 + 1) wr (w.heap.size + 1 + 1) (RS H (k + t)) t M) := L
        clear L hm
        by_cases hlt : t < k
        · have hlt' : (t : Int) < k := by omega
          have HE : Hid _ := log_entry GD.out HLg.out (k := t) (by omega)
          go_upto_region 9 with fail
          have A0 : ∀ w', Mod (fun b => w.heap.size + 1 + 1 ≤ b) wr w' → w'.cell? ⟨w.heap.size, 0, none⟩ = some (.slice m.a1 12 m.c1) := fun w' hh => (get3 (KEEP.out w' (HM.out.trans hh)).1).1
          have A1 : ∀ w', Mod (fun b => w.heap.size + 1 + 1 ≤ b) wr w' → w'.cell? ⟨w.heap.size, 1, none⟩ = some (.slice m.a2 12 m.c2) := fun w' hh => (get3 (KEEP.out w' (HM.out.trans hh)).1).2.1
          have A2 : ∀ w', Mod (fun b => w.heap.size + 1 + 1 ≤ b) wr w' → w'.cell? ⟨w.heap.size, 2, none⟩ = some (.slice m.a3 12 m.c3) := fun w' hh => (get3 (KEEP.out w' (HM.out.trans hh)).1).2.2
          have H70 : Hid (∀ (q : Nat) (x : Int) w', x = q → q < 48 → Mod (fun b => w.heap.size + 1 + 1 ≤ b) wr w' → Calls Try.prog 70 #[.agg #[.slice m.a1 12 m.c1, .slice m.a2 12 m.c2, .slice m.a3 12 m.c3], .int .i64 x] w' fun e w'' => e = .returned (.int .i64 (H.w q)) ∧ Blw w' w'') := fun q x w' e hq hh => by
            subst e
            exact l1Load_any m H.md Y w' q hq GD.out (KEEP.out w' (HM.out.trans hh)).2.2.1
          have H96 : Hid (∀ (x : Int) w', x = H.w (28 + 4 * t) → Blw wr w' → Calls Try.prog 96 #[.pointer (some ⟨w.heap.size + 1 + 1, 0, none⟩), .int .i64 x] w' fun e w'' => (∃ v, e = .returned v) ∧ ((∃ M, LW (fun x => x < w.heap.size) (w.heap.size + 1 + 1) w'' (w.heap.size + 1 + 1) (RS H (k + (t + 1))) (t + 1) M) ∧ Mod (fun b => w.heap.size + 1 + 1 ≤ b) w1 w'') ∧ Mod (fun b => w.heap.size + 1 + 1 ≤ b) w' w'') := fun x w' ex hh => by
            obtain ⟨-, hp, hw, hx⟩ := HE.out
            obtain ⟨M, L⟩ := HL.out
            rw [ex, hw]
            refine (lwFlush_ex _ _ _ t (H.ep t) w' (by omega) (by omega) (by have := (KEEP.out _ (HM.out.trans (hh.mod _))).2.2.2.2; omega) ⟨M, L.mod hh⟩).mono ?_
            rintro e w'' ⟨h1, ⟨M', h2⟩, h3⟩
            have h2' := h2
            rw [← hmm, RS_b (by omega), hmm] at h2'
            exact ⟨h1, ⟨⟨M', h2'⟩, HM.out.trans ((hh.mod _).trans h3)⟩, h3⟩
          go_region_held3 (fun w' => Mod (fun b => w.heap.size + 1 + 1 ≤ b) wr w') ((first | exact (Blw.refl _).drew.mod _ | assumption | exact Mod.trans (by assumption) (by assumption) | exact Blw.mod (by assumption) _)) (first
            | (go_at_call 77; refine (l4Entry_any t _ (by omega)).mono ?_; rintro e w7 ⟨rfl, rfl⟩)
            | (go_at_call 70; refine (H70.out (28 + 4 * t) _ _ (by omega) (by omega) ((Blw.refl _).drew.mod _)).mono ?_; rintro e w8 ⟨rfl, hb8⟩; have B8 : Blw wr w8 := (Blw.refl wr).drew.trans hb8; clear hb8)
            | (go_at_call 96; refine (H96.out _ _ rfl B8).mono ?_; rintro e w10 ⟨⟨v10, rfl⟩, L10, hm10⟩; have HL10 : Hid _ := L10; have M10 := Mod.trans (B8.mod (fun b => w.heap.size + 1 + 1 ≤ b)) hm10; clear L10 hm10))
          all_goals clear HL HM A0 A1 A2 M10 B8
          all_goals go_wp2
          all_goals go_roundw
          all_goals first | exact ⟨t + 1, by omega, by go_num, HL10.out.1, HL10.out.2⟩ | (simp [intOf]; omega)
        · obtain rfl : t = k := by omega
          have hlt' : ¬ (t : Int) < t := by omega
          obtain ⟨M, L⟩ := HL.out
          have HL2 : Hid (LW (fun x => x < w.heap.size) (w.heap.size + 1 + 1) wr (w.heap.size + 1 + 1) (RS H (2 * H.many)) t M) := by rw [show t + t = 2 * H.many by omega] at L; exact L
          clear L HL
          go_wp2_with fail
          refine (lwStoreA_any _ _ _ _ _ 24 0 _ (by omega) ⟨by omega, by omega⟩ HL2.out).mono ?_
          rintro e w3 ⟨⟨v3, rfl⟩, L3⟩
          obtain ⟨L3, hm3'⟩ := L3 (fun _ => False)
          rw [RS_c] at L3
          have HL3 : Hid _ := L3
          replace HM : Hid (Mod (fun b => w.heap.size + 1 + 1 ≤ b) w1 w3) := HM.out.trans (hm3'.mono (fun b hb => by omega))
          clear L3 hm3' HL2
          go_wp2_with fail
          refine (lwFlush_ex _ _ _ t 24 _ (by omega) (by omega) (KEEP.out _ HM.out).2.2.2.2 ⟨M, HL3.out⟩).mono ?_
          rintro e w4 ⟨⟨v4, rfl⟩, ⟨M', L4⟩, hm4⟩
          rw [RS_d] at L4
          replace HM : Hid (Mod (fun b => w.heap.size + 1 + 1 ≤ b) w1 w4) := HM.out.trans hm4
          obtain ⟨m4, ⟨p0, p1, p2⟩, a4⟩ := L4.any (by omega)
          have HA4 : Hid _ := a4
          obtain ⟨-, rR, -, hbw, -⟩ := KEEP.out _ HM.out
          obtain ⟨⟨x0, x1, x2⟩, f0, f1, f2⟩ := res6 rR
          have HBW : Hid _ := hbw
          have ms := mod_set3 w4 (w.heap.size + 1) (.slice m4.a1 12 m4.c1) (.slice m4.a2 12 m4.c2) (.slice m4.a3 12 m4.c3)
          have hz4 := ms.size
          have FIN : Hid (MemAt (fun x => w.heap.size + 1 + 1 ≤ x ∧ x < (((w4.setCell ⟨w.heap.size + 1, 0, none⟩ (.slice m4.a1 12 m4.c1)).setCell ⟨w.heap.size + 1, 1, none⟩ (.slice m4.a2 12 m4.c2)).setCell ⟨w.heap.size + 1, 2, none⟩ (.slice m4.a3 12 m4.c3)).heap.size) _ m4 H.back.md ∧ Blw w _) := And.intro ((a4.mod ms (fun b hb e => by have h9 := hb.2.resolve_left id; omega)).mono (fun b hb => ⟨hb.2.resolve_left id, Nat.lt_of_lt_of_le hb.1 hz4⟩)) (Mod.blw hbw ms (fun i hi => by omega))
          clear L4 hm4 a4 rR hbw ms hz4 HM KEEP HL3
          go_wp2
          refine bodyPost_ret (v := .agg #[.slice m4.a1 12 m4.c1, .slice m4.a2 12 m4.c2, .slice m4.a3 12 m4.c3]) (by simp [results, Try.results78, go_sem, x0, x1, x2]) rfl ?_
          exact ⟨m4, rfl, FIN.out⟩
end Go.Proofs.Ytglllnklcnlcjaa
/- The model's RecoverDeed, DeedSteps, DoDeed, FailDeed. -/
namespace Go.Proofs.Ytglllnklcnlcjaa
open Go.RowKit
set_option linter.unusedSimpArgs false
set_option linter.unusedVariables false
theorem zero_givesA {out : MD → Bool → Prop} {w w1 : World} {R : Nat} (ho : out MZ false) (hb : Blw w w1) (hR : w.heap.size ≤ R) :
    GivesA out w (.returned (.tuple #[.agg #[.slice none 0 0, .slice none 0 0, .slice none 0 0], .bool false])) (((w1.setCell ⟨R, 0, none⟩ (.slice none 0 0)).setCell ⟨R, 1, none⟩ (.slice none 0 0)).setCell ⟨R, 2, none⟩ (.slice none 0 0)) :=
  ⟨mz, MZ, false, rfl, ho, (own_zero _ _).at, Mod.blw hb (mod_set3 w1 _ _ _ _) (fun i hi => by omega)⟩
theorem some_givesA {out : MD → Bool → Prop} {w w1 : World} {R : Nat} {X : Nat → Prop} {m : MV} {M : MD} {r : Bool} (ho : out M r) (hb : Blw w w1) (at_ : MemAt X w1 m M) (hx : ∀ b, X b → (w.heap.size ≤ b ∧ b < w1.heap.size) ∧ b ≠ R) (hR : w.heap.size ≤ R) {a b c : Value} (ha : Value.agg #[a, b, c] = m.val M) :
    GivesA out w (.returned (.tuple #[.agg #[a, b, c], .bool r])) (((w1.setCell ⟨R, 0, none⟩ a).setCell ⟨R, 1, none⟩ b).setCell ⟨R, 2, none⟩ c) :=
  have hm := mod_set3 w1 R a b c
  ⟨m, M, r, by rw [ha], ho, (at_.mod hm (fun x h => (hx x h).2)).mono (fun x h => ⟨(hx x h).1.1, Nat.lt_of_lt_of_le (hx x h).1.2 hm.size⟩), Mod.blw hb hm (fun i hi => by omega)⟩
set_option maxRecDepth 20000 in
set_option maxHeartbeats 6400000 in
theorem specRecover_any (m : MV) (M : MD) (Y : Nat → Prop) (w : World) (h : MemAt Y w m M) (hY : ∀ b, Y b → b < w.heap.size) :
    Calls Try.prog 31 #[m.val M] w (GivesA (rdOut M) w) := by
  go_enter Try.func31, Try.ntmps31
  go_wp2_with fail
  have hb0 : Blw w ((w.alloc (.cells #[.slice m.a1 M.n1 m.c1, .slice m.a2 M.n2 m.c2, .slice m.a3 M.n3 m.c3] 26)).alloc (.cells #[.slice none 0 0, .slice none 0 0, .slice none 0 0] 26)) := ((Blw.refl _).alloc _).alloc _
  have rA := (box3 w (.slice m.a1 M.n1 m.c1) (.slice m.a2 M.n2 m.c2) (.slice m.a3 M.n3 m.c3) 26).blw ((Blw.refl _).alloc (.cells #[.slice none 0 0, .slice none 0 0, .slice none 0 0] 26))
  have rR := res_row w (.slice m.a1 M.n1 m.c1) (.slice m.a2 M.n2 m.c2) (.slice m.a3 M.n3 m.c3)
  refine (specPending_any m M Y _ (h.blw hb0)).mono ?_
  rintro e w1 ⟨x, b, rfl, ho, hb1⟩
  have HO : Hid (pnOut M x b) := ho
  replace rA := rA.blw hb1
  replace rR := rR.blw hb1
  replace hb1 := hb0.trans hb1
  replace h := h.blw hb1
  clear hb0 ho
  cases b
  · obtain ⟨⟨x0, x1, x2⟩, f0, f1, f2⟩ := res6 rR
    clear rA rR h
    have NG : Hid (¬ (M.Good ∧ (HS.of M).log)) := fun g => by
      rcases HO.out with ⟨_, _, _, h9⟩ | ⟨h9, _⟩
      · cases h9
      · exact h9 ⟨g.1, g.2.1⟩
    go_wp2
    exact bodyPost_ret (v := .tuple #[.agg #[.slice none 0 0, .slice none 0 0, .slice none 0 0], .bool false]) (by simp [results, Try.results31, go_sem, x0, x1, x2]) rfl (zero_givesA (Or.inr ⟨NG.out, rfl, rfl⟩) hb1 (by omega))
  · have HV : Hid (M.Good ∧ (HS.of M).w 24 ≤ 3 ∧ x = (HS.of M).w 24) := by
      rcases HO.out with ⟨g, l, hx, _⟩ | ⟨_, _, h9⟩
      · exact ⟨g, l, hx⟩
      · cases h9
    have hx : x = ((HS.of M).many : Int) := by
      have h1 := HV.out.2.2
      have h2 := (word_ok (good_of HV.out.1) (q := 24) (by omega)).1
      unfold HS.many
      omega
    subst hx
    have hm3 : (HS.of M).many ≤ 3 := by have := HV.out.2; omega
    have KA : Hid (Row w1 w.heap.size 3 (fun i => if i = 0 then .slice m.a1 M.n1 m.c1 else if i = 1 then .slice m.a2 M.n2 m.c2 else .slice m.a3 M.n3 m.c3) ∧ Row w1 (w.heap.size + 1) 3 (fun _ => .slice none 0 0) ∧ MemAt Y w1 m M ∧ Blw w w1) := ⟨rA, rR, h, hb1⟩
    have HY : Hid (∀ b, Y b → b < w.heap.size) := hY
    have H70 : Hid (∀ (q : Nat) (x : Int) w', x = q → q < 48 → MemAt Y w' m M → Calls Try.prog 70 #[m.val M, .int .i64 x] w' fun e w'' => e = .returned (.int .i64 ((HS.of M).w q)) ∧ Blw w' w'') := fun q x w' e hq hh => by
      subst e
      exact l1Load_any m M Y w' q hq HV.out.1 hh
    clear rA rR h hb1 HO hY
    generalize hmm : (HS.of M).many = mm at *
    go_wp2_with fail
    go_loopw [6] (fun i wr => ∃ k : Nat, k ≤ mm ∧ i = .int .i64 k ∧ (∀ t, t < k → placeOK ((HS.of M).w (28 + 4 * t))) ∧ Blw w1 wr) (fun i _ => mm - (intOf i).toNat)
    case atStart => exact ⟨0, by omega, rfl, fun t ht => absurd ht (Nat.not_lt_zero _), Blw.refl _⟩
    case round =>
      obtain ⟨k, hk, rfl, hok, hb⟩ := hrel
      have HP : Hid (∀ t, t < k → placeOK ((HS.of M).w (28 + 4 * t))) := hok
      have HK : Hid (Row wr w.heap.size 3 (fun i => if i = 0 then .slice m.a1 M.n1 m.c1 else if i = 1 then .slice m.a2 M.n2 m.c2 else .slice m.a3 M.n3 m.c3) ∧ Row wr (w.heap.size + 1) 3 (fun _ => .slice none 0 0) ∧ MemAt Y wr m M ∧ Blw w wr) := ⟨KA.out.1.blw hb, KA.out.2.1.blw hb, KA.out.2.2.1.blw hb, KA.out.2.2.2.trans hb⟩
      have HB : Hid (Blw w1 wr) := hb
      clear hok hb
      by_cases hlt : k < mm
      · have hlt' : (k : Int) < mm := by omega
        obtain ⟨A0, A1, A2⟩ := box3_all HK.out.1
        by_cases ok : placeOK ((HS.of M).w (28 + 4 * k))
        · have OK : Hid (placeOK ((HS.of M).w (28 + 4 * k))) := ok
          clear ok
          go_upto_region 7 with fail
          go_region_held3 (fun w' => Blw wr w') ((first | exact (Blw.refl _).drew | assumption | exact Blw.trans (by assumption) (by assumption))) (first
            | (go_at_call 77; refine (l4Entry_any k _ (by omega)).mono ?_; rintro e w7 ⟨rfl, rfl⟩)
            | (go_at_call 70; refine (H70.out (28 + 4 * k) _ _ (by omega) (by omega) (HK.out.2.2.1.blw (Blw.refl _).drew)).mono ?_; rintro e w8 ⟨rfl, hb8⟩; have B8 : Blw wr w8 := (Blw.refl wr).drew.trans hb8; clear hb8)
            | (go_at_call 61; refine (l4Place_yes _ _ OK.out).mono ?_; rintro e w9 ⟨rfl, rfl⟩))
          all_goals clear A0 A1 A2 HK
          all_goals go_wp2
          all_goals go_roundw
          all_goals first | exact ⟨k + 1, by omega, by go_num, fun t ht => by
              by_cases e : t = k
              · subst e; exact OK.out
              · exact HP.out t (by omega), HB.out.trans (by assumption)⟩ | (simp [intOf]; omega)
        · have OK : Hid (¬ placeOK ((HS.of M).w (28 + 4 * k))) := ok
          clear ok
          go_upto_region 7 with fail
          go_region_held3 (fun w' => Blw wr w') ((first | exact (Blw.refl _).drew | assumption | exact Blw.trans (by assumption) (by assumption))) (first
            | (go_at_call 77; refine (l4Entry_any k _ (by omega)).mono ?_; rintro e w7 ⟨rfl, rfl⟩)
            | (go_at_call 70; refine (H70.out (28 + 4 * k) _ _ (by omega) (by omega) (HK.out.2.2.1.blw (Blw.refl _).drew)).mono ?_; rintro e w8 ⟨rfl, hb8⟩; have B8 : Blw wr w8 := (Blw.refl wr).drew.trans hb8; have K8 := HK.out.2.1.blw B8; have HB8 : Hid (Blw w w8) := HK.out.2.2.2.trans B8; clear hb8)
            | (go_at_call 61; refine (l4Place_no _ _ OK.out).mono ?_; rintro e w9 ⟨rfl, rfl⟩))
          all_goals obtain ⟨⟨x0, x1, x2⟩, f0, f1, f2⟩ := res6 K8
          all_goals clear A0 A1 A2 HK K8
          all_goals have NG : Hid (¬ (M.Good ∧ (HS.of M).log)) := fun g => OK.out (g.2.2 k (by have := HV.out.2.2; have h2 := (word_ok (good_of HV.out.1) (q := 24) (by omega)).1; have h3 : (HS.of M).many = ((HS.of M).w 24).toNat := rfl; omega))
          all_goals go_wp2
          all_goals exact bodyPost_ret (v := .tuple #[.agg #[.slice none 0 0, .slice none 0 0, .slice none 0 0], .bool false]) (by simp [results, Try.results31, go_sem, x0, x1, x2]) rfl (zero_givesA (Or.inr ⟨NG.out, rfl, rfl⟩) HB8.out (by omega))
      · obtain rfl : k = mm := by omega
        have hlt' : ¬ (k : Int) < k := by omega
        have HLg : Hid ((HS.of M).log) := ⟨HV.out.2.1, fun t ht => HP.out t (by have h2 := (word_ok (good_of HV.out.1) (q := 24) (by omega)).1; have h3 : (HS.of M).many = ((HS.of M).w 24).toNat := rfl; omega)⟩
        obtain ⟨q0, q1, q2⟩ := get3 HK.out.1
        have hv := val_full (m := m) HV.out.1
        have HVF : Hid (m.val M = m.val (HS.of M).md) := hv
        clear hv
        go_wp2_with fail
        clear q0 q1 q2
        have h78 := l4Recover_any m (HS.of M) Y wr (good_of HV.out.1) HLg.out (mem_full HV.out.1 HK.out.2.2.1) (fun b hb => by have := HY.out b hb; have := HK.out.2.2.2.size; omega)
        rw [← HVF.out, hmm] at h78
        refine h78.mono ?_
        clear h78
        rintro e w2 ⟨m2, rfl, a2, hb2⟩
        simp only [MV.val, HS.md, MD.full]
        have rlt := HK.out.2.1.lt
        have zw := HK.out.2.2.2.size
        have r2 := HK.out.2.1.blw hb2
        have HB2 : Hid (Blw w w2) := HK.out.2.2.2.trans hb2
        obtain ⟨⟨x0, x1, x2⟩, f0, f1, f2⟩ := res6 r2
        have HA2 : Hid (MemAt _ w2 m2 (HS.of M).back.md) := a2
        clear r2 a2 hb2 HK
        go_wp2
        exact bodyPost_ret (v := .tuple #[.agg #[.slice m2.a1 12 m2.c1, .slice m2.a2 12 m2.c2, .slice m2.a3 12 m2.c3], .bool true]) (by simp [results, Try.results31, go_sem, x0, x1, x2]) rfl (some_givesA (Or.inl ⟨⟨HV.out.1, HLg.out⟩, rfl, rfl⟩) HB2.out HA2.out (fun b hb => ⟨⟨by have := hb.1; omega, hb.2⟩, by have := hb.1; omega⟩) (by omega) rfl)
set_option maxHeartbeats 1600000 in
theorem specSteps_any (m : MV) (M : MD) (ao : Option Addr) (n c : Nat) (f g : Nat → Int) (Y Y2 : Nat → Prop) (w : World) (h : MemAt Y w m M) (hY : ∀ b, Y b → b < w.heap.size) (hu : UndosAt Y2 w ao n f g) (hY2 : ∀ b, Y2 b → b < w.heap.size) :
    Calls Try.prog 28 #[m.val M, .slice ao n c] w (GivesS (dsOut M n f g) w) := by
  go_enter Try.func28, Try.ntmps28
  go_wp2_with fail
  have hb0 : Blw w (w.alloc (.cells #[.slice m.a1 M.n1 m.c1, .slice m.a2 M.n2 m.c2, .slice m.a3 M.n3 m.c3] 26)) := (Blw.refl _).alloc _
  have rA := box3 w (.slice m.a1 M.n1 m.c1) (.slice m.a2 M.n2 m.c2) (.slice m.a3 M.n3 m.c3) 26
  refine (l4Ready_any m M ao n c f g Y Y2 _ (h.blw hb0) (hu.blw hb0)).mono ?_
  rintro e w1 ⟨b, rfl, hr, hb1⟩
  have HR : Hid (b = true ↔ ready M n f g) := hr
  replace rA := rA.blw hb1
  replace hb1 := hb0.trans hb1
  replace h := h.blw hb1
  replace hu := hu.blw hb1
  clear hb0 hr
  cases b
  · clear rA h hu
    go_wp2
    go_ret2
    exact ⟨none, 0, 0, fun _ => MZ, false, rfl, Or.inr ⟨fun g => absurd (HR.out.2 g) (by decide), rfl, rfl⟩, MemsOwn.nil _ _ _ _, hb1⟩
  · have HD : Hid (ready M n f g) := HR.out.1 rfl
    obtain ⟨q0, q1, q2⟩ := get3 rA
    have hz := hb1.size
    go_wp2_with fail
    clear q0 q1 q2
    refine (l4Steps_any m M ao n c f g Y Y2 _ HD.out.1 HD.out.2.2 h (fun b hb => by have := hY b hb; omega) hu (fun b hb => by have := hY2 b hb; omega)).mono ?_
    rintro e w2 ⟨a2, c2, rfl, own, hb2⟩
    replace own := own.mono (Y := fun x => w.heap.size ≤ x ∧ x < w2.heap.size) (fun x hx => ⟨by omega, hx.2⟩)
    have HO : Hid _ := own
    replace hb2 := hb1.trans hb2
    clear hb1 rA h hu own
    go_wp2
    go_ret2
    exact ⟨a2, 4 * n + 5, c2, _, true, rfl, Or.inl ⟨HD.out, rfl, fun i hi => rfl, rfl⟩, HO.out, hb2⟩
set_option maxHeartbeats 1600000 in
theorem specDo_any (m : MV) (M : MD) (ao : Option Addr) (n c : Nat) (f g : Nat → Int) (Y Y2 : Nat → Prop) (w : World) (h : MemAt Y w m M) (hY : ∀ b, Y b → b < w.heap.size) (hu : UndosAt Y2 w ao n f g) (hY2 : ∀ b, Y2 b → b < w.heap.size) :
    Calls Try.prog 16 #[m.val M, .slice ao n c] w (GivesA (ddOut M n f g) w) := by
  go_enter Try.func16, Try.ntmps16
  go_wp2_with fail
  have hb0 : Blw w ((w.alloc (.cells #[.slice m.a1 M.n1 m.c1, .slice m.a2 M.n2 m.c2, .slice m.a3 M.n3 m.c3] 26)).alloc (.cells #[.slice none 0 0, .slice none 0 0, .slice none 0 0] 26)) := ((Blw.refl _).alloc _).alloc _
  have rA := (box3 w (.slice m.a1 M.n1 m.c1) (.slice m.a2 M.n2 m.c2) (.slice m.a3 M.n3 m.c3) 26).blw ((Blw.refl _).alloc (.cells #[.slice none 0 0, .slice none 0 0, .slice none 0 0] 26))
  have rR := res_row w (.slice m.a1 M.n1 m.c1) (.slice m.a2 M.n2 m.c2) (.slice m.a3 M.n3 m.c3)
  refine (l4Ready_any m M ao n c f g Y Y2 _ (h.blw hb0) (hu.blw hb0)).mono ?_
  rintro e w1 ⟨b, rfl, hr, hb1⟩
  have HR : Hid (b = true ↔ ready M n f g) := hr
  replace rA := rA.blw hb1
  replace rR := rR.blw hb1
  replace hb1 := hb0.trans hb1
  replace h := h.blw hb1
  replace hu := hu.blw hb1
  clear hb0 hr
  cases b
  · obtain ⟨⟨x0, x1, x2⟩, f0, f1, f2⟩ := res6 rR
    clear rA rR h hu
    go_wp2
    exact bodyPost_ret (v := .tuple #[.agg #[.slice none 0 0, .slice none 0 0, .slice none 0 0], .bool false]) (by simp [results, Try.results16, go_sem, x0, x1, x2]) rfl (zero_givesA (Or.inr ⟨fun g => absurd (HR.out.2 g) (by decide), rfl, rfl⟩) hb1 (by omega))
  · have HD : Hid (ready M n f g) := HR.out.1 rfl
    obtain ⟨q0, q1, q2⟩ := get3 rA
    have hz := hb1.size
    have rlt := rR.lt
    go_wp2_with fail
    clear q0 q1 q2
    refine (l4Steps_any m M ao n c f g Y Y2 _ HD.out.1 HD.out.2.2 h (fun b hb => by have := hY b hb; omega) hu (fun b hb => by have := hY2 b hb; omega)).mono ?_
    rintro e w2 ⟨a2, c2, rfl, own, hb2⟩
    replace rR := rR.blw hb2
    replace hb2 := hb1.trans hb2
    obtain ⟨b2, mv, Z, xb, rfl, r2, hI⟩ := own.2 (by omega)
    have e5 : 4 * n + 5 = (4 * n + 4) + 1 := by omega
    have hn3 := HD.out.2.2.1.2
    have hj16 : 4 * n + 4 ≤ 16 := by omega
    rw [e5] at r2 hI ⊢
    generalize hj : 4 * n + 4 = j at *
    obtain ⟨q0, q1, q2⟩ := mems_get r2 (i := j) (by omega)
    change _ = some (Value.slice (mv j).a1 12 (mv j).c1) at q0
    change _ = some (Value.slice (mv j).a2 12 (mv j).c2) at q1
    change _ = some (Value.slice (mv j).a3 12 (mv j).c3) at q2
    obtain ⟨⟨x0, x1, x2⟩, f0, f1, f2⟩ := res6 rR
    have HA : Hid (MemAt _ w2 (mv j) (DS M n f g j).md) := (hI.own j (by omega)).at
    have HS2 : Hid (∀ x, Z j x → (w1.heap.size ≤ x ∧ x < w2.heap.size) ∧ x ≠ b2) := hI.sub j (by omega)
    have hj3 : (j : Int) < (j : Int) + 1 := by omega
    clear hb1 rA h hu own r2 hI rR e5 xb
    go_wp2
    exact bodyPost_ret (v := .tuple #[.agg #[.slice (mv j).a1 12 (mv j).c1, .slice (mv j).a2 12 (mv j).c2, .slice (mv j).a3 12 (mv j).c3], .bool true]) (by simp [results, Try.results16, go_sem, x0, x1, x2]) rfl (some_givesA (Or.inl ⟨HD.out, by rw [hj], rfl⟩) hb2 HA.out (fun b hb => ⟨⟨by have := (HS2.out b hb).1.1; omega, (HS2.out b hb).1.2⟩, by have := (HS2.out b hb).1.1; omega⟩) (by omega) rfl)
set_option maxRecDepth 10000 in
set_option maxHeartbeats 3200000 in
theorem specFailDeed_any (m : MV) (M : MD) (ao : Option Addr) (n c : Nat) (f g : Nat → Int) (k : Int) (az : Option Addr) (ns cs : Nat) (fs : Nat → Int) (Y Y2 Y3 : Nat → Prop) (w : World) (h : MemAt Y w m M) (hY : ∀ b, Y b → b < w.heap.size) (hu : UndosAt Y2 w ao n f g) (hY2 : ∀ b, Y2 b → b < w.heap.size) (hs : IntsAt Y3 w az ns fs) (hY3 : ∀ b, Y3 b → b < w.heap.size) :
    Calls Try.prog 14 #[m.val M, .slice ao n c, .int .i64 k, .slice az ns cs] w (GivesA (fdOut M n f g k ns fs) w) := by
  go_enter Try.func14, Try.ntmps14
  go_wp2_with fail
  have hb0 : Blw w ((w.alloc (.cells #[.slice m.a1 M.n1 m.c1, .slice m.a2 M.n2 m.c2, .slice m.a3 M.n3 m.c3] 26)).alloc (.cells #[.slice none 0 0, .slice none 0 0, .slice none 0 0] 26)) := ((Blw.refl _).alloc _).alloc _
  have rA := (box3 w (.slice m.a1 M.n1 m.c1) (.slice m.a2 M.n2 m.c2) (.slice m.a3 M.n3 m.c3) 26).blw ((Blw.refl _).alloc (.cells #[.slice none 0 0, .slice none 0 0, .slice none 0 0] 26))
  have rR := res_row w (.slice m.a1 M.n1 m.c1) (.slice m.a2 M.n2 m.c2) (.slice m.a3 M.n3 m.c3)
  refine (l4Ready_any m M ao n c f g Y Y2 _ (h.blw hb0) (hu.blw hb0)).mono ?_
  rintro e w1 ⟨b, rfl, hr, hb1⟩
  have HR : Hid (b = true ↔ ready M n f g) := hr
  replace rA := rA.blw hb1
  replace rR := rR.blw hb1
  replace hb1 := hb0.trans hb1
  replace h := h.blw hb1
  replace hu := hu.blw hb1
  replace hs := hs.blw hb1
  clear hb0 hr
  cases b
  · obtain ⟨⟨x0, x1, x2⟩, f0, f1, f2⟩ := res6 rR
    clear rA rR h hu hs
    go_wp2
    exact bodyPost_ret (v := .tuple #[.agg #[.slice none 0 0, .slice none 0 0, .slice none 0 0], .bool false]) (by simp [results, Try.results14, go_sem, x0, x1, x2]) rfl (zero_givesA (Or.inr ⟨fun g => absurd (HR.out.2 g.1) (by decide), rfl, rfl⟩) hb1 (by omega))
  · have HD : Hid (ready M n f g) := HR.out.1 rfl
    have HS : Hid (IntsAt Y3 w1 az ns fs) := hs
    clear hs
    go_wp2_with fail
    refine (l1Rising_any az cs ns fs Y3 _ HS.out).mono ?_
    rintro e w1 ⟨b, rfl, hr, rfl⟩
    have HG : Hid (b = true ↔ rising ns fs) := hr
    clear hr
    cases b
    · obtain ⟨⟨x0, x1, x2⟩, f0, f1, f2⟩ := res6 rR
      clear rA rR h hu
      go_wp2
      exact bodyPost_ret (v := .tuple #[.agg #[.slice none 0 0, .slice none 0 0, .slice none 0 0], .bool false]) (by simp [results, Try.results14, go_sem, x0, x1, x2]) rfl (zero_givesA (Or.inr ⟨fun g => absurd (HG.out.2 g.2.1) (by decide), rfl, rfl⟩) hb1 (by omega))
    · have HRi : Hid (rising ns fs) := HG.out.1 rfl
      obtain ⟨q0, q1, q2⟩ := get3 rA
      have hz := hb1.size
      have rlt := rR.lt
      go_wp2_with fail
      clear q0 q1 q2
      refine (l4Steps_any m M ao n c f g Y Y2 _ HD.out.1 HD.out.2.2 h (fun b hb => by have := hY b hb; omega) hu (fun b hb => by have := hY2 b hb; omega)).mono ?_
      rintro e w2 ⟨a2, c2, rfl, own, hb2⟩
      replace rR := rR.blw hb2
      replace HS : Hid (IntsAt Y3 w2 az ns fs) := HS.out.blw hb2
      replace hb2 := hb1.trans hb2
      have hz2 := hb2.size
      clear hb1 rA h hu
      by_cases hk : 0 ≤ k ∧ k < 4 * n + 5
      · obtain ⟨i, rfl⟩ := Int.eq_ofNat_of_zero_le hk.1
        have hi : i < 4 * n + 5 := by omega
        have hn3 := HD.out.2.2.1.2
        have hi16 : i ≤ 16 := by omega
        obtain ⟨b2, mv, Z, xb, rfl, r2, hI⟩ := own.2 (by omega)
        generalize hj : 4 * n + 5 = j at *
        obtain ⟨q0, q1, q2⟩ := mems_get r2 (i := i) hi
        change _ = some (Value.slice (mv i).a1 12 (mv i).c1) at q0
        change _ = some (Value.slice (mv i).a2 12 (mv i).c2) at q1
        change _ = some (Value.slice (mv i).a3 12 (mv i).c3) at q2
        have HA : Hid (MemAt _ w2 (mv i) (DS M n f g i).md) := (hI.own i hi).at
        have hi2 : (i : Int) < j := by omega
        have d0 : decide ((i : Int) < 0) = false := by simp
        have d1 : decide ((i : Int) ≥ (j : Int)) = false := by simp only [decide_eq_false_iff_not]; omega
        have HGd : Hid ((DS M n f g i).md.Good) := DS_good HD.out.1 HD.out.2.2 (by omega)
        have HRR : Hid (Row w2 (w.heap.size + 1) 3 (fun _ => .slice none 0 0)) := rR
        clear own r2 hI xb rR hk
        go_wp2_with fail
        clear q0 q1 q2
        refine (l1Fail_any (mv i) (DS M n f g i).md _ Y3 _ az ns cs fs HGd.out HA.out HS.out).mono ?_
        rintro e w3 ⟨m3, rfl, own3, hb3⟩
        replace HRR : Hid (Row w3 (w.heap.size + 1) 3 (fun _ => .slice none 0 0)) := HRR.out.blw hb3
        replace hb3 := hb2.trans hb3
        have HO3 : Hid (MemOwn _ w3 m3 (fdM M n f g i ns fs)) := own3
        clear hb2 own3 HA d0 d1
        go_wp2_with fail
        refine (specRecover_any m3 (fdM M n f g i ns fs) _ _ HO3.out.at (fun b hb => hb.2)).mono ?_
        rintro e w4 ⟨m4, R4, b4, rfl, ho4, a4, hb4⟩
        have HO : Hid (fdOut M n f g i ns fs R4 b4) := Or.inl ⟨HD.out, HRi.out, i, rfl, by omega, ho4⟩
        have r4 := HRR.out.blw hb4
        obtain ⟨⟨x0, x1, x2⟩, f0, f1, f2⟩ := res6 r4
        have HA4 : Hid (MemAt (fun x => (w.heap.size ≤ x ∧ x < w4.heap.size) ∧ x ≠ w.heap.size + 1) w4 m4 R4) := a4.mono (fun x hx => ⟨⟨by have := hx.1; have := hb3.size; omega, hx.2⟩, by have := hx.1; have := HRR.out.lt; omega⟩)
        replace hb4 := hb3.trans hb4
        clear r4 hb3 HO3 HRR ho4 a4
        go_wp2
        exact bodyPost_ret (v := .tuple #[.agg #[.slice m4.a1 R4.n1 m4.c1, .slice m4.a2 R4.n2 m4.c2, .slice m4.a3 R4.n3 m4.c3], .bool b4]) (by simp [results, Try.results14, go_sem, x0, x1, x2]) rfl (some_givesA HO.out hb4 HA4.out (fun b hb => hb) (by omega) rfl)
      · obtain ⟨⟨x0, x1, x2⟩, f0, f1, f2⟩ := res6 rR
        have NK : Hid (¬ (0 ≤ k ∧ k < 4 * n + 5)) := hk
        clear rR own
        by_cases h0 : k < 0
        · clear hk
          go_wp2
          exact bodyPost_ret (v := .tuple #[.agg #[.slice none 0 0, .slice none 0 0, .slice none 0 0], .bool false]) (by simp [results, Try.results14, go_sem, x0, x1, x2]) rfl (zero_givesA (Or.inr ⟨fun g => NK.out g.2.2, rfl, rfl⟩) hb2 (by omega))
        · have h5 : ((4 * n + 5 : Nat) : Int) ≤ k := by omega
          generalize hj : 4 * n + 5 = j at *
          have d0 : decide (k < 0) = false := by simp only [decide_eq_false_iff_not]; omega
          have d1 : decide (k ≥ (j : Int)) = true := by simp only [decide_eq_true_eq]; omega
          clear hk
          go_wp2
          exact bodyPost_ret (v := .tuple #[.agg #[.slice none 0 0, .slice none 0 0, .slice none 0 0], .bool false]) (by simp [results, Try.results14, go_sem, x0, x1, x2]) rfl (zero_givesA (Or.inr ⟨fun g => by have := g.2.2; omega, rfl, rfl⟩) hb2 (by omega))
end Go.Proofs.Ytglllnklcnlcjaa
