/- Lists of memories: what they read as, what is owned, what append leaves. -/
import Derived.Test.YtglllnklcnlcjaaBuf
import Derived.Test.YtglllnklcnlcjaaDeed
namespace Go.Proofs.Ytglllnklcnlcjaa
open Go.RowKit
set_option linter.unusedSimpArgs false
set_option linter.unusedVariables false
/-- The cells of a row of memories. -/
def mcell (mv : Nat → MV) (M : Nat → MD) : Nat → Value := fun j =>
  if j % 3 = 0 then .slice (mv (j / 3)).a1 (M (j / 3)).n1 (mv (j / 3)).c1 else if j % 3 = 1 then .slice (mv (j / 3)).a2 (M (j / 3)).n2 (mv (j / 3)).c2 else .slice (mv (j / 3)).a3 (M (j / 3)).n3 (mv (j / 3)).c3
theorem mcell_at (mv : Nat → MV) (M : Nat → MD) (i : Nat) : mcell mv M (i * 3) = .slice (mv i).a1 (M i).n1 (mv i).c1 ∧ mcell mv M (i * 3 + 1) = .slice (mv i).a2 (M i).n2 (mv i).c2 ∧ mcell mv M (i * 3 + 2) = .slice (mv i).a3 (M i).n3 (mv i).c3 := by
  have a0 : i * 3 % 3 = 0 := by omega
  have a1 : (i * 3 + 1) % 3 = 1 := by omega
  have a2 : (i * 3 + 2) % 3 = 2 := by omega
  have b0 : i * 3 / 3 = i := by omega
  have b1 : (i * 3 + 1) / 3 = i := by omega
  have b2 : (i * 3 + 2) / 3 = i := by omega
  simp [mcell, a0, a1, a2, b0, b1, b2]
theorem mcell_congr {mv mv' : Nat → MV} {M M' : Nat → MD} {n : Nat} (h : ∀ i, i < n → mv i = mv' i ∧ M i = M' i) : ∀ j, j < n * 3 → mcell mv M j = mcell mv' M' j := fun j hj => by
  obtain ⟨e1, e2⟩ := h (j / 3) (by omega)
  simp only [mcell, e1, e2]
theorem mcell_one (mv : Nat → MV) (M : Nat → MD) (j : Nat) : (mcell mv M j).oneCell' = true := by
  unfold mcell
  split
  · rfl
  · split <;> rfl
/-- The slice at 'ao' reads as the n memories M, their slices being mv, all in blocks of Y. -/
def MemsAt (Y : Nat → Prop) (w : World) (ao : Option Addr) (n : Nat) (mv : Nat → MV) (M : Nat → MD) : Prop :=
  n ≤ 9223372036854775807 ∧ ∀ i, i < n → (∃ b o, ao = some ⟨b, o, none⟩ ∧ Y b ∧ w.cell? ⟨b, o + i * 3, none⟩ = some (.slice (mv i).a1 (M i).n1 (mv i).c1) ∧ w.cell? ⟨b, o + i * 3 + 1, none⟩ = some (.slice (mv i).a2 (M i).n2 (mv i).c2) ∧ w.cell? ⟨b, o + i * 3 + 2, none⟩ = some (.slice (mv i).a3 (M i).n3 (mv i).c3)) ∧ MemAt Y w (mv i) (M i)
theorem MemAt.mono {X Y : Nat → Prop} {w : World} {m : MV} {M : MD} (h : MemAt X w m M) (hxy : ∀ b, X b → Y b) : MemAt Y w m M := ⟨h.s.mono hxy, h.c.mono hxy, h.d.mono hxy⟩
theorem MemsAt.mod {X Y : Nat → Prop} {w w' : World} {ao : Option Addr} {n : Nat} {mv : Nat → MV} {M : Nat → MD} (h : MemsAt Y w ao n mv M) (hb : Mod X w w') (hxy : ∀ k, Y k → ¬ X k) : MemsAt Y w' ao n mv M :=
  ⟨h.1, fun i hi => let ⟨⟨b, o, e, hY, h0, h1, h2⟩, hm⟩ := h.2 i hi; ⟨⟨b, o, e, hY, hb.cell h0 (hxy _ hY), hb.cell h1 (hxy _ hY), hb.cell h2 (hxy _ hY)⟩, hm.mod hb hxy⟩⟩
theorem MemsAt.blw {Y : Nat → Prop} {w w' : World} {ao : Option Addr} {n : Nat} {mv : Nat → MV} {M : Nat → MD} (h : MemsAt Y w ao n mv M) (hb : Blw w w') : MemsAt Y w' ao n mv M := h.mod (hb.mod (fun _ => False)) (fun _ _ => id)
theorem MemsAt.mono {X Y : Nat → Prop} {w : World} {ao : Option Addr} {n : Nat} {mv : Nat → MV} {M : Nat → MD} (h : MemsAt X w ao n mv M) (hxy : ∀ b, X b → Y b) : MemsAt Y w ao n mv M :=
  ⟨h.1, fun i hi => let ⟨⟨b, o, e, hY, h0⟩, hm⟩ := h.2 i hi; ⟨⟨b, o, e, hxy _ hY, h0⟩, hm.mono hxy⟩⟩
/-- Memories that are owned apart from each other. -/
structure MemsIn (X : Nat → Prop) (w : World) (n : Nat) (mv : Nat → MV) (M : Nat → MD) (Z : Nat → Nat → Prop) : Prop where
  own : ∀ i, i < n → MemOwn (Z i) w (mv i) (M i)
  sub : ∀ i, i < n → ∀ x, Z i x → X x
  dis : ∀ i j, i < n → j < n → i ≠ j → ∀ x, Z i x → ¬ Z j x
theorem MemsIn.mod {X Z : Nat → Prop} {w w' : World} {n : Nat} {mv : Nat → MV} {M : Nat → MD} {Q : Nat → Nat → Prop} (h : MemsIn X w n mv M Q) (hm : Mod Z w w') (hx : ∀ b, X b → ¬ Z b) : MemsIn X w' n mv M Q :=
  ⟨fun i hi => (h.own i hi).mod hm (fun b hb => hx b (h.sub i hi b hb)), h.sub, h.dis⟩
theorem MemsIn.mono {X Y : Nat → Prop} {w : World} {n : Nat} {mv : Nat → MV} {M : Nat → MD} {Q : Nat → Nat → Prop} (h : MemsIn X w n mv M Q) (hxy : ∀ b, X b → Y b) : MemsIn Y w n mv M Q :=
  ⟨h.own, fun i hi x hx => hxy _ (h.sub i hi x hx), h.dis⟩
def MemsOwn (X : Nat → Prop) (w : World) (ao : Option Addr) (n : Nat) (M : Nat → MD) : Prop :=
  n ≤ 9223372036854775807 ∧ (0 < n → ∃ b mv Z, X b ∧ ao = some ⟨b, 0, none⟩ ∧ Row w b (n * 3) (mcell mv M) ∧ MemsIn (fun x => X x ∧ x ≠ b) w n mv M Z)
theorem MemsOwn.mod {X Z : Nat → Prop} {w w' : World} {ao : Option Addr} {n : Nat} {M : Nat → MD} (h : MemsOwn X w ao n M) (hm : Mod Z w w') (hx : ∀ b, X b → ¬ Z b) : MemsOwn X w' ao n M :=
  ⟨h.1, fun hn => let ⟨b, mv, Q, xb, e, r, hi⟩ := h.2 hn; ⟨b, mv, Q, xb, e, r.mod hm (hx b xb), hi.mod hm (fun x h => hx x h.1)⟩⟩
theorem MemsOwn.blw {X : Nat → Prop} {w w' : World} {ao : Option Addr} {n : Nat} {M : Nat → MD} (h : MemsOwn X w ao n M) (hb : Blw w w') : MemsOwn X w' ao n M := h.mod (hb.mod (fun _ => False)) (fun _ _ => id)
theorem MemsOwn.mono {X Y : Nat → Prop} {w : World} {ao : Option Addr} {n : Nat} {M : Nat → MD} (h : MemsOwn X w ao n M) (hxy : ∀ b, X b → Y b) : MemsOwn Y w ao n M :=
  ⟨h.1, fun hn => let ⟨b, mv, Q, xb, e, r, hi⟩ := h.2 hn; ⟨b, mv, Q, hxy _ xb, e, r, hi.mono (fun x h => ⟨hxy _ h.1, h.2⟩)⟩⟩
theorem MemsOwn.nil (X : Nat → Prop) (w : World) (ao : Option Addr) (M : Nat → MD) : MemsOwn X w ao 0 M := ⟨by omega, fun h => absurd h (by omega)⟩
theorem mems_get {w : World} {b n : Nat} {mv : Nat → MV} {M : Nat → MD} (r : Row w b (n * 3) (mcell mv M)) {i : Nat} (hi : i < n) : w.cell? ⟨b, i * 3, none⟩ = some (.slice (mv i).a1 (M i).n1 (mv i).c1) ∧ w.cell? ⟨b, i * 3 + 1, none⟩ = some (.slice (mv i).a2 (M i).n2 (mv i).c2) ∧ w.cell? ⟨b, i * 3 + 2, none⟩ = some (.slice (mv i).a3 (M i).n3 (mv i).c3) := by
  obtain ⟨h0, h1, h2⟩ := mcell_at mv M i
  exact ⟨by rw [r.cell (by omega), h0], by rw [r.cell (by omega), h1], by rw [r.cell (by omega), h2]⟩
theorem MemsOwn.at {X : Nat → Prop} {w : World} {ao : Option Addr} {n : Nat} {M : Nat → MD} (h : MemsOwn X w ao n M) : ∃ mv, MemsAt X w ao n mv M := by
  rcases Nat.eq_zero_or_pos n with h0 | h0
  · exact ⟨fun _ => mz, h.1, fun i hi => by omega⟩
  · obtain ⟨b, mv, Z, xb, e, r, hI⟩ := h.2 h0
    refine ⟨mv, h.1, fun i hi => ⟨⟨b, 0, e, xb, ?_⟩, (hI.own i hi).at.mono (fun x hx => (hI.sub i hi x hx).1)⟩⟩
    rw [Nat.zero_add]
    exact mems_get r hi
/-- A list of memories that is appended to. -/
def MBuf (X : Nat → Prop) (w : World) (v : Value) (n : Nat) (M : Nat → MD) : Prop :=
  ∃ (mv : Nat → MV) (Z : Nat → Nat → Prop) (Xb Xm : Nat → Prop), (∀ x, Xb x → X x ∧ ¬ Xm x) ∧ (∀ x, Xm x → X x) ∧ Buf 26 3 Xb w v n (mcell mv M) ∧ MemsIn Xm w n mv M Z
theorem MBuf.nil (X : Nat → Prop) (w : World) (M : Nat → MD) : MBuf X w (.slice none 0 0) 0 M :=
  ⟨fun _ => mz, fun _ _ => False, fun _ => False, fun _ => False, fun _ h => h.elim, fun _ h => h.elim, Buf.nil _ _ _ _ _, fun i hi => by omega, fun i hi => by omega, fun i j hi => by omega⟩
theorem MBuf.mod {X Z : Nat → Prop} {w w' : World} {v : Value} {n : Nat} {M : Nat → MD} (h : MBuf X w v n M) (hm : Mod Z w w') (hx : ∀ b, X b → ¬ Z b) : MBuf X w' v n M :=
  let ⟨mv, Q, Xb, Xm, h1, h2, hb, hi⟩ := h
  ⟨mv, Q, Xb, Xm, h1, h2, hb.mod hm (fun b hb => hx b (h1 b hb).1), hi.mod hm (fun b hb => hx b (h2 b hb))⟩
theorem MBuf.blw {X : Nat → Prop} {w w' : World} {v : Value} {n : Nat} {M : Nat → MD} (h : MBuf X w v n M) (hb : Blw w w') : MBuf X w' v n M := h.mod (hb.mod (fun _ => False)) (fun _ _ => id)
theorem MBuf.mono {X Y : Nat → Prop} {w : World} {v : Value} {n : Nat} {M : Nat → MD} (h : MBuf X w v n M) (hxy : ∀ b, X b → Y b) : MBuf Y w v n M :=
  let ⟨mv, Q, Xb, Xm, h1, h2, hb, hi⟩ := h
  ⟨mv, Q, Xb, Xm, fun x hx => ⟨hxy _ (h1 x hx).1, (h1 x hx).2⟩, fun x hx => hxy _ (h2 x hx), hb, hi⟩
theorem MBuf.form {X : Nat → Prop} {w : World} {v : Value} {n : Nat} {M : Nat → MD} (h : MBuf X w v n M) (hn : n ≤ 1000) : ∃ ao cap, v = .slice ao n cap ∧ MemsOwn X w ao n M := by
  obtain ⟨mv, Q, Xb, Xm, h1, h2, hb, hi⟩ := h
  obtain ⟨ao, cap, e, hf⟩ := hb.form
  refine ⟨ao, cap, e, by omega, fun h0 => ?_⟩
  obtain ⟨g, hg, ea, r⟩ := hf h0
  exact ⟨g, mv, Q, (h1 g hg).1, ea, r, hi.mono (fun x hx => ⟨h2 x hx, fun e => (h1 g hg).2 (e ▸ hx)⟩)⟩
theorem minfo26 : (Try.prog.info? 26).map (fun i => (i.zero, i.size, i.bytes)) = some (some (.agg #[.slice none 0 0, .slice none 0 0, .slice none 0 0]), 3, 72) := by kernel_rfl
/-- append of one memory, which stands in a block of its own. -/
theorem MBuf.append {X Zn : Nat → Prop} {w : World} {v : Value} {n : Nat} {M M' : Nat → MD} (h : MBuf X w v n M) {g : Nat} (c : Nat) {m : MV} (r : Row w g 3 (fun i => if i = 0 then .slice m.a1 (M' n).n1 m.c1 else if i = 1 then .slice m.a2 (M' n).n2 m.c2 else .slice m.a3 (M' n).n3 m.c3))
    (own : MemOwn Zn w m (M' n)) (hz : ∀ b, Zn b → ¬ X b ∧ b < w.heap.size) (hX : ∀ b, X b → b < w.heap.size) (hM : ∀ i, i < n → M i = M' i) (hn : n ≤ 1000) (ty : TypeId) :
    ∃ ao' cap w', (Builtin.append_ #[48, 48] ty #[v, .slice (some ⟨g, 0, none⟩) 1 c]).run Try.prog w = .ok (.slice ao' (n + 1) cap) w' ∧ MBuf (fun b => (X b ∨ Zn b ∨ b = w.heap.size) ∧ b < w'.heap.size) w' (.slice ao' (n + 1) cap) (n + 1) M' ∧ Mod X w w' ∧ MemOwn Zn w' m (M' n) := by
  obtain ⟨i0, hi0, hz0, hz1, hz2⟩ := info_parts minfo26
  obtain ⟨mv, Q, Xb, Xm, h1, h2, hb, hi⟩ := h
  obtain ⟨a, cap, w', e1, e2, e3⟩ := Buf.append Try.underlying48 hi0 hz0 hz1 hz2 rfl (by decide) hb (ao := some ⟨g, 0, none⟩) (m := 1) c (G := mcell (fun _ => m) (fun _ => M' n)) (fun e => by cases e) (fun ad e j hj => by
      cases e
      rw [Addr.add_mid, Nat.zero_add, r.cell (by omega)]
      obtain ⟨x0, x1, x2⟩ := mcell_at (fun _ => m) (fun _ => M' n) 0
      match j, hj with
      | 0, _ => rw [show (0 : Nat) = 0 * 3 from rfl, x0]; rfl
      | 1, _ => rw [show (1 : Nat) = 0 * 3 + 1 from rfl, x1]; rfl
      | 2, _ => rw [show (2 : Nat) = 0 * 3 + 2 from rfl, x2]; rfl) (mcell_one _ _) (by omega) (by decide) ty
  have hmX : Mod Xb w w' := e3.mono (fun b hb' => hb.2 b hb')
  have own' : MemOwn Zn w' m (M' n) := own.mod hmX (fun b hb' hx => (hz b hb').1 (h1 b hx).1)
  have hsz := hmX.size
  refine ⟨a, cap, w', e1, ⟨fun i => if i < n then mv i else m, fun i => if i < n then Q i else Zn, fun b => (Xb b ∨ b = w.heap.size) ∧ b < w'.heap.size, fun b => Xm b ∨ Zn b, fun x hx => ?_, fun x hx => ?_, e2.congr (fun j hj => ?_), fun i hi' => ?_, fun i hi' x hx => ?_, fun i j hi' hj' hij x hx => ?_⟩, hmX.mono (fun b hb' => (h1 b hb').1), own'⟩
  · refine ⟨⟨?_, hx.2⟩, ?_⟩
    · rcases hx.1 with h | h
      · exact Or.inl (h1 x h).1
      · exact Or.inr (Or.inr h)
    · rintro (h | h)
      · rcases hx.1 with h' | h'
        · exact (h1 x h').2 h
        · have := hX x (h2 x h); omega
      · rcases hx.1 with h' | h'
        · exact (hz x h).1 (h1 x h').1
        · have := (hz x h).2; omega
  · rcases hx with h | h
    · exact ⟨Or.inl (h2 x h), by have := hX x (h2 x h); omega⟩
    · exact ⟨Or.inr (Or.inl h), by have := (hz x h).2; omega⟩
  · simp only [cat]
    by_cases hj' : j < n * 3
    · rw [if_pos hj']
      have hq : j / 3 < n := by omega
      simp only [mcell, if_pos hq, hM _ hq]
    · rw [if_neg hj']
      have hq : ¬ j / 3 < n := by omega
      have hq2 : j / 3 = n := by omega
      have hq3 : (j - n * 3) % 3 = j % 3 := by omega
      simp only [mcell, hq2, hq3, if_neg (Nat.lt_irrefl n)]
  · by_cases hlt : i < n
    · simp only [if_pos hlt]
      rw [← hM i hlt]
      exact ((hi.own i hlt).mod hmX (fun b hb' hx => (h1 b hx).2 (hi.sub i hlt b hb')))
    · obtain rfl : i = n := by omega
      simp only [if_neg (Nat.lt_irrefl i)]
      exact own'
  · by_cases hlt : i < n
    · simp only [if_pos hlt] at hx
      exact Or.inl (hi.sub i hlt x hx)
    · simp only [if_neg hlt] at hx
      exact Or.inr hx
  · by_cases hlt : i < n
    · simp only [if_pos hlt] at hx
      by_cases hlt' : j < n
      · simp only [if_pos hlt']
        exact hi.dis i j hlt hlt' hij x hx
      · simp only [if_neg hlt']
        exact fun h => (hz x h).1 (h2 x (hi.sub i hlt x hx))
    · simp only [if_neg hlt] at hx
      have hlt' : j < n := by omega
      simp only [if_pos hlt']
      exact fun h => (hz x hx).1 (h2 x (hi.sub j hlt' x h))
end Go.Proofs.Ytglllnklcnlcjaa
