/- Merged by program, in this order: ImplC, ImplS, ImplD, ImplE, ImplF, ImplH0, ImplH. -/
import Derived.Test.YtglllnklcnlcjaaJspec
import Derived.Laws.EntriesVeiled
/- The program's steps: functions in a struct's field. -/
namespace Go.Proofs.Ytglllnklcnlcjaa
open Go.RowKit
set_option linter.unusedSimpArgs false
set_option linter.unusedVariables false
/-- The closures that 'storing' and 'flushing' make. -/
abbrev stF (bw ba : Nat) : Value := .func (.func 120) #[] #[.pointer (some ⟨bw, 0, none⟩), .pointer (some ⟨ba, 0, none⟩)]
abbrev flF (ba : Nat) : Value := .func (.func 122) #[] #[.pointer (some ⟨ba, 0, none⟩)]
/-- The value v is the step sp; what it captured lies in blocks of Y. -/
def StepAt (Y : Nat → Prop) (w : World) (v : Value) : Sp → Prop
  | .st n x => ∃ bw ba a c, v = stF bw ba ∧ Y bw ∧ Y ba ∧ w.cell? ⟨bw, 0, none⟩ = some (.slice a 1 c) ∧ w.cell? ⟨ba, 0, none⟩ = some (.int .i64 n) ∧ IntsAt Y w a 1 (fun _ => x)
  | .st2 n x y => ∃ bw ba a c, v = stF bw ba ∧ Y bw ∧ Y ba ∧ w.cell? ⟨bw, 0, none⟩ = some (.slice a 2 c) ∧ w.cell? ⟨ba, 0, none⟩ = some (.int .i64 n) ∧ IntsAt Y w a 2 (fun i => if i = 0 then x else y)
  | .fl n => ∃ ba, v = flF ba ∧ Y ba ∧ w.cell? ⟨ba, 0, none⟩ = some (.int .i64 n)
theorem StepAt.mod {X Y : Nat → Prop} {w w' : World} {v : Value} {sp : Sp} (h : StepAt Y w v sp) (hm : Mod X w w') (hx : ∀ b, Y b → ¬ X b) : StepAt Y w' v sp := by
  cases sp with
  | st n x => obtain ⟨bw, ba, a, c, e, y1, y2, c1, c2, hi⟩ := h; exact ⟨bw, ba, a, c, e, y1, y2, hm.cell c1 (hx _ y1), hm.cell c2 (hx _ y2), hi.mod hm hx⟩
  | st2 n x y => obtain ⟨bw, ba, a, c, e, y1, y2, c1, c2, hi⟩ := h; exact ⟨bw, ba, a, c, e, y1, y2, hm.cell c1 (hx _ y1), hm.cell c2 (hx _ y2), hi.mod hm hx⟩
  | fl n => obtain ⟨ba, e, y2, c2⟩ := h; exact ⟨ba, e, y2, hm.cell c2 (hx _ y2)⟩
theorem StepAt.mono {X Y : Nat → Prop} {w : World} {v : Value} {sp : Sp} (h : StepAt X w v sp) (hxy : ∀ b, X b → Y b) : StepAt Y w v sp := by
  cases sp with
  | st n x => obtain ⟨bw, ba, a, c, e, y1, y2, c1, c2, hi⟩ := h; exact ⟨bw, ba, a, c, e, hxy _ y1, hxy _ y2, c1, c2, hi.mono hxy⟩
  | st2 n x y => obtain ⟨bw, ba, a, c, e, y1, y2, c1, c2, hi⟩ := h; exact ⟨bw, ba, a, c, e, hxy _ y1, hxy _ y2, c1, c2, hi.mono hxy⟩
  | fl n => obtain ⟨ba, e, y2, c2⟩ := h; exact ⟨ba, e, hxy _ y2, c2⟩
theorem StepAt.one {Y : Nat → Prop} {w : World} {v : Value} {sp : Sp} (h : StepAt Y w v sp) : v.oneCell' = true := by
  cases sp with
  | st n x => obtain ⟨bw, ba, a, c, rfl, -⟩ := h; rfl
  | st2 n x y => obtain ⟨bw, ba, a, c, rfl, -⟩ := h; rfl
  | fl n => obtain ⟨ba, rfl, -⟩ := h; rfl
/-- Words stored one behind the other. -/
def stN (H : HS) (n : Nat) (f : Nat → Int) : Nat → HS
  | 0 => H
  | k + 1 => (stN H n f k).st (n + k) (f k)
set_option maxHeartbeats 1600000 in
theorem doStore_any (B bw ba : Nat) (a : Option Addr) (m c n : Nat) (f : Nat → Int) (H : HS) (Y : Nat → Prop) (w : World) (hm : m ≤ 2) (hn : n + m ≤ 48) (hB : ∀ b, Y b → b ≠ B) (hw : Y bw) (ha : Y ba) (c1 : w.cell? ⟨bw, 0, none⟩ = some (.slice a m c)) (c2 : w.cell? ⟨ba, 0, none⟩ = some (.int .i64 n)) (hi : IntsAt Y w a m f) (r : Row w B 108 (hcell H.s H.c H.d)) :
    Calls Try.prog 120 #[.pointer (some ⟨B, 0, none⟩), .pointer (some ⟨bw, 0, none⟩), .pointer (some ⟨ba, 0, none⟩)] w fun e w' => (∃ v, e = .returned v) ∧ Row w' B 108 (hcell (stN H n f m).s (stN H n f m).c (stN H n f m).d) ∧ Mod (fun b => b = B) w w' := by
  have HI : Hid (IntsAt Y w a m f) := hi
  have HC2 : Hid (∀ w', Mod (fun b => b = B) w w' → w'.cell? ⟨ba, 0, none⟩ = some (.int .i64 n)) := fun w' hh => hh.cell c2 (hB _ ha)
  have HR : Hid (Row w B 108 (hcell H.s H.c H.d)) := r
  have HBB : Hid (∀ b, Y b → b ≠ B) := hB
  clear hi r hB c2
  go_enter Try.func120, Try.ntmps120
  go_wp2_with fail
  clear c1
  go_loopw [8] (fun i wr => ∃ k : Nat, k ≤ m ∧ i = .int .i64 k ∧ Row wr B 108 (hcell (stN H n f k).s (stN H n f k).c (stN H n f k).d) ∧ Mod (fun b => b = B) w wr) (fun i _ => m - (intOf i).toNat)
  case atStart => exact ⟨0, by omega, rfl, HR.out, Mod.refl _ _⟩
  case round =>
    obtain ⟨k, hk, rfl, r, hmm⟩ := hrel
    clear HR
    by_cases hlt : k < m
    · have hlt' : (k : Int) < m := by omega
      obtain ⟨b, o, rfl, -, g0⟩ := (HI.out.mod hmm HBB.out).2 k hlt
      have c2 := HC2.out _ hmm
      have HR : Hid (Row wr B 108 (hcell (stN H n f k).s (stN H n f k).c (stN H n f k).d)) := r
      have HM : Hid (Mod (fun b => b = B) w wr) := hmm
      clear r hmm
      go_wp2_with fail
      clear g0 c2
      have ek : ((n : Int) + (k : Int)) = ((n + k : Nat) : Int) := by omega
      rw [ek]
      clear ek
      refine (storeWord_any B _ _ _ (n + k) (f k) _ (by omega) HR.out).mono ?_
      rintro e w2 ⟨⟨v, rfl⟩, r2, hm2⟩
      have HF : Hid (Row w2 B 108 (hcell (stN H n f (k + 1)).s (stN H n f (k + 1)).c (stN H n f (k + 1)).d) ∧ Mod (fun b => b = B) w w2) := ⟨r2, HM.out.trans hm2⟩
      clear r2 hm2 HR HM
      go_wp2
      go_roundw
      case rel => exact ⟨k + 1, by omega, by go_num, HF.out.1, HF.out.2⟩
      case measure => simp [intOf]; omega
    · obtain rfl : k = m := by omega
      have hlt' : ¬ (k : Int) < k := by omega
      have HF : Hid _ := And.intro r hmm
      clear r hmm
      go_wp2
      refine bodyPost_end (results_none rfl _ _ _) rfl ?_
      exact ⟨⟨_, rfl⟩, HF.out⟩
set_option maxHeartbeats 800000 in
theorem doFlush_any (B ba n : Nat) (H : HS) (w : World) (hn : n < 48) (c2 : w.cell? ⟨ba, 0, none⟩ = some (.int .i64 n)) (r : Row w B 108 (hcell H.s H.c H.d)) :
    Calls Try.prog 122 #[.pointer (some ⟨B, 0, none⟩), .pointer (some ⟨ba, 0, none⟩)] w fun e w' => (∃ v, e = .returned v) ∧ Row w' B 108 (hcell (H.fl (n / 4)).s (H.fl (n / 4)).c (H.fl (n / 4)).d) ∧ Mod (fun b => b = B) w w' := by
  have HR : Hid (Row w B 108 (hcell H.s H.c H.d)) := r
  clear r
  go_enter Try.func122, Try.ntmps122
  go_wp2_with fail
  clear c2
  have ek : ((n : Int) / 4) = ((n / 4 : Nat) : Int) := by omega
  rw [ek]
  clear ek
  refine (flushLine_any B H.s H.c H.d (n / 4) _ (by omega) HR.out).mono ?_
  rintro e w2 ⟨⟨v, rfl⟩, r2, hm2⟩
  have HF : Hid _ := And.intro r2 hm2
  clear r2 hm2 HR
  go_wp2
  refine bodyPost_end (results_none rfl _ _ _) rfl ?_
  exact ⟨⟨_, rfl⟩, HF.out⟩
theorem box1 (w : World) (a : Value) (t : TypeId) : Row (w.alloc (.cells #[a] t)) w.heap.size 1 (fun _ => a) :=
  ⟨_, t, heap_alloc_new _ _, by simp, fun i hi => by obtain rfl : i = 0 := by omega
                                                     rfl⟩
set_option maxHeartbeats 800000 in
theorem storing_any (n : Nat) (ao : Option Addr) (m c : Nat) (w : World) :
    Calls Try.prog 104 #[.int .i64 n, .slice ao m c] w fun e w' => e = .returned (.agg #[stF (w.heap.size + 1) w.heap.size]) ∧ w'.cell? ⟨w.heap.size, 0, none⟩ = some (.int .i64 n) ∧ w'.cell? ⟨w.heap.size + 1, 0, none⟩ = some (.slice ao m c) ∧ w'.heap.size = w.heap.size + 1 + 1 + 1 ∧ Blw w w' := by
  go_enter Try.func104, Try.ntmps104
  go_wp2
  refine bodyPost_ret (v := .agg #[stF (w.heap.size + 1) w.heap.size]) (by simp [results, Try.results104, go_sem]) rfl ?_
  have h1 := box1 w (.int .i64 n) 3
  have h2 := box1 (w.alloc (.cells #[.int .i64 n] 3)) (.slice ao m c) 28
  rw [World.size_alloc] at h2
  have hb : Blw w (((w.alloc (.cells #[.int .i64 n] 3)).alloc (.cells #[.slice ao m c] 28)).alloc (.cells #[stF (w.heap.size + 1) w.heap.size] 102)) := (((Blw.refl _).alloc _).alloc _).alloc _
  exact ⟨rfl, ((h1.blw ((Blw.refl _).alloc _)).blw ((Blw.refl _).alloc _)).cell (i := 0) (by omega), (h2.blw ((Blw.refl _).alloc _)).cell (i := 0) (by omega), by simp, hb⟩
set_option maxHeartbeats 800000 in
theorem flushing_any (n : Nat) (w : World) :
    Calls Try.prog 105 #[.int .i64 n] w fun e w' => e = .returned (.agg #[flF w.heap.size]) ∧ w'.cell? ⟨w.heap.size, 0, none⟩ = some (.int .i64 n) ∧ w'.heap.size = w.heap.size + 1 + 1 ∧ Blw w w' := by
  go_enter Try.func105, Try.ntmps105
  go_wp2
  refine bodyPost_ret (v := .agg #[flF w.heap.size]) (by simp [results, Try.results105, go_sem]) rfl ?_
  have h1 := box1 w (.int .i64 n) 3
  have hb : Blw w ((w.alloc (.cells #[.int .i64 n] 3)).alloc (.cells #[flF w.heap.size] 102)) := ((Blw.refl _).alloc _).alloc _
  exact ⟨rfl, (h1.blw ((Blw.refl _).alloc _)).cell (i := 0) (by omega), by simp, hb⟩
end Go.Proofs.Ytglllnklcnlcjaa
/- The program's lists of steps. -/
namespace Go.Proofs.Ytglllnklcnlcjaa
open Go.RowKit
set_option linter.unusedSimpArgs false
set_option linter.unusedVariables false
/-- A list of steps that is appended to: all in blocks of X. -/
def SBuf (X : Nat → Prop) (w : World) (v : Value) (n : Nat) (sp : Nat → Sp) : Prop :=
  ∃ (F : Nat → Value) (Xb Y : Nat → Prop), (∀ x, Xb x → X x ∧ ¬ Y x) ∧ (∀ x, Y x → X x) ∧ Buf 102 1 Xb w v n F ∧ ∀ i, i < n → StepAt Y w (F i) (sp i)
theorem SBuf.nil (X : Nat → Prop) (w : World) (sp : Nat → Sp) : SBuf X w (.slice none 0 0) 0 sp :=
  ⟨fun _ => .bool false, fun _ => False, fun _ => False, fun _ h => h.elim, fun _ h => h.elim, Buf.nil _ _ _ _ _, fun i hi => by omega⟩
theorem SBuf.mod {X Z : Nat → Prop} {w w' : World} {v : Value} {n : Nat} {sp : Nat → Sp} (h : SBuf X w v n sp) (hm : Mod Z w w') (hx : ∀ b, X b → ¬ Z b) : SBuf X w' v n sp :=
  let ⟨F, Xb, Y, h1, h2, hb, hs⟩ := h
  ⟨F, Xb, Y, h1, h2, hb.mod hm (fun b hb => hx b (h1 b hb).1), fun i hi => (hs i hi).mod hm (fun b hb => hx b (h2 b hb))⟩
theorem SBuf.blw {X : Nat → Prop} {w w' : World} {v : Value} {n : Nat} {sp : Nat → Sp} (h : SBuf X w v n sp) (hb : Blw w w') : SBuf X w' v n sp := h.mod (hb.mod (fun _ => False)) (fun _ _ => id)
theorem SBuf.mono {X Y : Nat → Prop} {w : World} {v : Value} {n : Nat} {sp : Nat → Sp} (h : SBuf X w v n sp) (hxy : ∀ b, X b → Y b) : SBuf Y w v n sp :=
  let ⟨F, Xb, Z, h1, h2, hb, hs⟩ := h
  ⟨F, Xb, Z, fun x hx => ⟨hxy _ (h1 x hx).1, (h1 x hx).2⟩, fun x hx => hxy _ (h2 x hx), hb, hs⟩
theorem SBuf.congr {X : Nat → Prop} {w : World} {v : Value} {n : Nat} {sp sq : Nat → Sp} (h : SBuf X w v n sp) (e : ∀ i, i < n → sp i = sq i) : SBuf X w v n sq :=
  let ⟨F, Xb, Z, h1, h2, hb, hs⟩ := h
  ⟨F, Xb, Z, h1, h2, hb, fun i hi => by rw [← e i hi]; exact hs i hi⟩
theorem SBuf.form {X : Nat → Prop} {w : World} {v : Value} {n : Nat} {sp : Nat → Sp} (h : SBuf X w v n sp) :
    ∃ ao cap, v = .slice ao n cap ∧ ∃ (F : Nat → Value) (Y : Nat → Prop), (∀ x, Y x → X x) ∧ (∀ ad, ao = some ad → ∀ j, j < n → w.cell? (ad.add j) = some (F j)) ∧ (ao = none → n = 0) ∧ (∀ i, i < n → StepAt Y w (F i) (sp i)) ∧ (0 < n → ∃ b, X b ∧ ao = some ⟨b, 0, none⟩) := by
  obtain ⟨F, Xb, Y, h1, h2, hb, hs⟩ := h
  obtain ⟨ao, cap, e, hf⟩ := hb.form
  refine ⟨ao, cap, e, F, Y, h2, fun ad ea j hj => ?_, fun ea => ?_, hs, fun h0 => ?_⟩
  · obtain ⟨g, hg, e2, r⟩ := hf (by omega)
    rw [ea] at e2
    cases e2
    rw [Addr.add_mid, Nat.zero_add]
    exact r.cell (by omega)
  · rcases Nat.eq_zero_or_pos n with h0 | h0
    · exact h0
    · obtain ⟨g, hg, e2, r⟩ := hf h0
      rw [ea] at e2; cases e2
  · obtain ⟨g, hg, e2, r⟩ := hf h0
    exact ⟨g, (h1 g hg).1, e2⟩
theorem sinfo102 : (Try.prog.info? 102).map (fun i => (i.zero, i.size, i.bytes)) = some (some (.agg #[.nilFunc]), 1, 8) := by kernel_rfl
theorem SBuf.append {X Z : Nat → Prop} {w : World} {v : Value} {n : Nat} {sp : Nat → Sp} (h : SBuf X w v n sp) {ao : Option Addr} {m : Nat} (c : Nat) {G : Nat → Value} {sq : Nat → Sp} (hs : ao = none → m = 0) (hG : ∀ ad, ao = some ad → ∀ j, j < m → w.cell? (ad.add j) = some (G j)) (hst : ∀ j, j < m → StepAt Z w (G j) (sq j))
    (hz : ∀ b, Z b → ¬ X b ∧ b < w.heap.size) (hX : ∀ b, X b → b < w.heap.size) (hb : n + m ≤ 100) (ty : TypeId) :
    ∃ ao' cap w', (Builtin.append_ #[98, 98] ty #[v, .slice ao m c]).run Try.prog w = .ok (.slice ao' (n + m) cap) w' ∧ SBuf (fun b => (X b ∨ Z b ∨ b = w.heap.size) ∧ b < w'.heap.size) w' (.slice ao' (n + m) cap) (n + m) (fun i => if i < n then sp i else sq (i - n)) ∧ Mod X w w' := by
  obtain ⟨i0, hi0, hz0, hz1, hz2⟩ := info_parts sinfo102
  obtain ⟨F, Xb, Y, h1, h2, hbf, hsp⟩ := h
  obtain ⟨a, cap, w', e1, e2, e3⟩ := Buf.append Try.underlying98 hi0 hz0 hz1 hz2 rfl (by decide) hbf (ao := ao) (m := m) c (G := fun j => if j < m then G j else .bool false) hs (fun ad e j hj => by
      have hj' : j < m := by omega
      rw [if_pos hj']; exact hG ad e j hj') (fun j => by
      by_cases hj : j < m
      · simp only [if_pos hj]; exact (hst j hj).one
      · simp only [if_neg hj]; rfl) (by omega) (by decide) ty
  have hm : Mod Xb w w' := e3.mono (fun b hb' => hbf.2 b hb')
  have hsz := hm.size
  refine ⟨a, cap, w', e1, ⟨fun i => if i < n then F i else G (i - n), fun b => (Xb b ∨ b = w.heap.size) ∧ b < w'.heap.size, fun b => Y b ∨ Z b, fun x hx => ?_, fun x hx => ?_, e2.congr (fun i hi => ?_), fun i hi => ?_⟩, hm.mono (fun b hb' => (h1 b hb').1)⟩
  · refine ⟨⟨?_, hx.2⟩, ?_⟩
    · rcases hx.1 with h | h
      · exact Or.inl (h1 x h).1
      · exact Or.inr (Or.inr h)
    · rintro (h | h)
      · rcases hx.1 with h' | h'
        · exact (h1 x h').2 h
        · have := hX x (h2 x h); omega
      · rcases hx.1 with h' | h'
        · exact (hz x h).1 (h1 x h').1
        · have := (hz x h).2; omega
  · rcases hx with h | h
    · exact ⟨Or.inl (h2 x h), by have := hX x (h2 x h); omega⟩
    · exact ⟨Or.inr (Or.inl h), by have := (hz x h).2; omega⟩
  · simp only [cat, Nat.mul_one]
    by_cases hi' : i < n
    · rw [if_pos hi', if_pos hi']
    · rw [if_neg hi', if_neg hi', if_pos (by omega)]
  · by_cases hi' : i < n
    · simp only [if_pos hi']
      exact ((hsp i hi').mod hm (fun b hb' hx => (h1 b hx).2 hb')).mono (fun b => Or.inl)
    · simp only [if_neg hi']
      exact ((hst (i - n) (by omega)).mod hm (fun b hb' hx => (hz b hb').1 (h1 b hx).1)).mono (fun b => Or.inr)
/-- What 'storing' made of one word. -/
theorem step_one {W w5 : World} {lo n : Nat} {x : Int} (hlo : lo ≤ W.heap.size) (c1 : w5.cell? ⟨(W.alloc (.cells #[.int .i64 x] 3)).heap.size, 0, none⟩ = some (.int .i64 n)) (c2 : w5.cell? ⟨(W.alloc (.cells #[.int .i64 x] 3)).heap.size + 1, 0, none⟩ = some (.slice (some ⟨W.heap.size, 0, none⟩) 1 1)) (hb : Blw (W.alloc (.cells #[.int .i64 x] 3)) w5) (hz : w5.heap.size = (W.alloc (.cells #[.int .i64 x] 3)).heap.size + 1 + 1 + 1) :
    StepAt (fun b => lo ≤ b ∧ b < w5.heap.size) w5 (stF ((W.alloc (.cells #[.int .i64 x] 3)).heap.size + 1) (W.alloc (.cells #[.int .i64 x] 3)).heap.size) (.st n x) := by
  have hs : (W.alloc (.cells #[.int .i64 x] 3)).heap.size = W.heap.size + 1 := by simp
  exact ⟨_, _, _, _, rfl, ⟨by omega, by omega⟩, ⟨by omega, by omega⟩, c2, c1, ((one_ints W x).blw hb).mono (fun b hb => ⟨by omega, by omega⟩)⟩
theorem step_flush {W w5 : World} {lo n : Nat} (hlo : lo ≤ W.heap.size) (c1 : w5.cell? ⟨W.heap.size, 0, none⟩ = some (.int .i64 n)) (hz : w5.heap.size = W.heap.size + 1 + 1) :
    StepAt (fun b => lo ≤ b ∧ b < w5.heap.size) w5 (flF W.heap.size) (.fl n) := ⟨_, rfl, ⟨by omega, by omega⟩, c1⟩
/-- One step is appended. -/
theorem SBuf.push {w wr W : World} {v : Value} {k : Nat} {sp : Nat → Sp} {u : Value} (h : SBuf (fun x => w.heap.size ≤ x ∧ x < wr.heap.size) wr v k sp) (hb : Blw wr W) (hbw : Blw w wr) (hst : StepAt (fun b => wr.heap.size ≤ b ∧ b < W.heap.size) W u (sp k)) (hk : k ≤ 90) :
    ∃ ao' cap w', (Builtin.append_ #[98, 98] 98 #[v, .slice (some ⟨W.heap.size, 0, none⟩) 1 1]).run Try.prog (W.alloc (.cells #[u] 102)) = .ok (.slice ao' (k + 1) cap) w' ∧ SBuf (fun x => w.heap.size ≤ x ∧ x < w'.heap.size) w' (.slice ao' (k + 1) cap) (k + 1) sp ∧ Blw w w' := by
  have hA : Blw W (W.alloc (.cells #[u] 102)) := (Blw.refl _).alloc _
  have hs : (W.alloc (.cells #[u] 102)).heap.size = W.heap.size + 1 := by simp
  have h1 := hb.size
  have h0 := hbw.size
  obtain ⟨ao', cap, w', e1, e2, e3⟩ := SBuf.append (h.blw (hb.trans hA)) (ao := some ⟨W.heap.size, 0, none⟩) (m := 1) 1 (G := fun _ => u) (sq := fun _ => sp k) (fun e => by cases e) (fun ad e j hj => by
      cases e
      obtain rfl : j = 0 := by omega
      rw [Addr.add_mid]
      exact (box1 W u 102).cell (i := 0) (by omega)) (fun j _ => hst.mod (hA.mod (fun _ => False)) (fun _ _ => id)) (fun b hb => ⟨fun h => by omega, by omega⟩) (fun b hb => by omega) (by omega) 98
  have hx' : ∀ x, (((w.heap.size ≤ x ∧ x < wr.heap.size) ∨ (wr.heap.size ≤ x ∧ x < W.heap.size) ∨ x = (W.alloc (.cells #[u] 102)).heap.size) ∧ x < w'.heap.size) → w.heap.size ≤ x ∧ x < w'.heap.size := fun x hx => by omega
  refine ⟨ao', cap, w', e1, (e2.mono hx').congr (fun i hi => ?_), Mod.blw ((hbw.trans hb).trans hA) e3 (fun i hi => hi.1)⟩
  by_cases hi' : i < k
  · rw [if_pos hi']
  · rw [if_neg hi']
    obtain rfl : i = k := by omega
    rfl
/-- Two steps are appended. -/
theorem SBuf.push2 {w wr W : World} {v : Value} {k : Nat} {sp : Nat → Sp} {u1 u2 : Value} (h : SBuf (fun x => w.heap.size ≤ x ∧ x < wr.heap.size) wr v k sp) (hb : Blw wr W) (hbw : Blw w wr) (hs1 : StepAt (fun b => wr.heap.size ≤ b ∧ b < W.heap.size) W u1 (sp k)) (hs2 : StepAt (fun b => wr.heap.size ≤ b ∧ b < W.heap.size) W u2 (sp (k + 1))) (hk : k ≤ 90) :
    ∃ ao' cap w', (Builtin.append_ #[98, 98] 98 #[v, .slice (some ⟨W.heap.size, 0, none⟩) 2 2]).run Try.prog (W.alloc (.cells #[u1, u2] 102)) = .ok (.slice ao' (k + 2) cap) w' ∧ SBuf (fun x => w.heap.size ≤ x ∧ x < w'.heap.size) w' (.slice ao' (k + 2) cap) (k + 2) sp ∧ Mod (fun x => w.heap.size ≤ x ∧ x < wr.heap.size) (W.alloc (.cells #[u1, u2] 102)) w' ∧ Blw w w' := by
  have hA : Blw W (W.alloc (.cells #[u1, u2] 102)) := (Blw.refl _).alloc _
  have hs : (W.alloc (.cells #[u1, u2] 102)).heap.size = W.heap.size + 1 := by simp
  have h1 := hb.size
  have h0 := hbw.size
  obtain ⟨ao', cap, w', e1, e2, e3⟩ := SBuf.append (h.blw (hb.trans hA)) (ao := some ⟨W.heap.size, 0, none⟩) (m := 2) 2 (G := fun j => if j = 0 then u1 else u2) (sq := fun j => sp (k + j)) (fun e => by cases e) (fun ad e j hj => by
      cases e
      rw [Addr.add_mid, Nat.zero_add]
      exact (box2 W u1 u2 102).cell (i := j) hj) (fun j hj => by
      match j, hj with
      | 0, _ => exact hs1.mod (hA.mod (fun _ => False)) (fun _ _ => id)
      | 1, _ => exact hs2.mod (hA.mod (fun _ => False)) (fun _ _ => id)) (fun b hb => ⟨fun h => by omega, by omega⟩) (fun b hb => by omega) (by omega) 98
  have hx' : ∀ x, (((w.heap.size ≤ x ∧ x < wr.heap.size) ∨ (wr.heap.size ≤ x ∧ x < W.heap.size) ∨ x = (W.alloc (.cells #[u1, u2] 102)).heap.size) ∧ x < w'.heap.size) → w.heap.size ≤ x ∧ x < w'.heap.size := fun x hx => by omega
  refine ⟨ao', cap, w', e1, (e2.mono hx').congr (fun i hi => ?_), e3, Mod.blw ((hbw.trans hb).trans hA) e3 (fun i hi => hi.1)⟩
  by_cases hi' : i < k
  · rw [if_pos hi']
  · rw [if_neg hi', show k + (i - k) = i by omega]
theorem settle_at {n : Nat} {p : Nat → Nat} {x : Nat → Int} : (∀ k, k < n → settle n p x k = .st (p k) (x k)) ∧ (∀ k, k < n → settle n p x (n + k) = .fl (p k)) ∧ settle n p x (2 * n) = .st 24 0 ∧ settle n p x (2 * n + 1) = .fl 24 := by
  refine ⟨fun k hk => ?_, fun k hk => ?_, ?_, ?_⟩
  · unfold settle; rw [if_pos hk]
  · unfold settle; rw [if_neg (by omega), if_pos (by omega), show n + k - n = k by omega]
  · unfold settle; rw [if_neg (by omega), if_neg (by omega), if_pos rfl]
  · unfold settle; rw [if_neg (by omega), if_neg (by omega), if_neg (by omega)]
set_option maxRecDepth 20000 in
set_option maxHeartbeats 6400000 in
theorem settling_any (ao : Option Addr) (n c : Nat) (f g : Nat → Int) (Y : Nat → Prop) (w : World) (hn : n ≤ 3) (hf : ∀ k, k < n → f k = (pl f k : Nat)) (hu : UndosAt Y w ao n f g) :
    Calls Try.prog 67 #[.slice ao n c] w fun e w' => ∃ ao' cap, e = .returned (.slice ao' (2 * n + 2) cap) ∧ SBuf (fun x => w.heap.size ≤ x ∧ x < w'.heap.size) w' (.slice ao' (2 * n + 2) cap) (2 * n + 2) (settle n (pl f) g) ∧ Blw w w' := by
  have HU : Hid (UndosAt Y w ao n f g) := hu
  have HF : Hid (∀ k, k < n → f k = (pl f k : Nat)) := hf
  have ST : Hid _ := settle_at (n := n) (p := pl f) (x := g)
  clear hu hf
  go_enter Try.func67, Try.ntmps67
  go_wp2_with fail
  go_loopw [3, 10] (fun v i wr => ∃ k : Nat, k ≤ n ∧ i = .int .i64 k ∧ SBuf (fun x => w.heap.size ≤ x ∧ x < wr.heap.size) wr v k (settle n (pl f) g) ∧ Blw w wr) (fun _ i _ => n - (intOf i).toNat)
  case atStart => exact ⟨0, by omega, rfl, SBuf.nil _ _ _, Blw.refl _⟩
  case round =>
    obtain ⟨k, hk, rfl, B, hb⟩ := hrel
    have HB : Hid (SBuf _ wr _ k (settle n (pl f) g)) := B
    have HW : Hid (Blw w wr) := hb
    clear B hb
    by_cases hlt : k < n
    · have hlt' : (k : Int) < n := by omega
      obtain ⟨b, o, rfl, -, g0, g1⟩ := (HU.out.blw HW.out).2 k hlt
      have hA : Blw wr (wr.alloc (.cells #[.int .i64 (f k), .int .i64 (g k)] 43)) := (Blw.refl _).alloc _
      have HA : Hid (Blw wr (wr.alloc (.cells #[.int .i64 (f k), .int .i64 (g k)] 43))) := hA
      clear hA
      go_wp2_with fail
      clear g0 g1
      revert HA
      have hsz : (wr.alloc (.cells #[.int .i64 (f k), .int .i64 (g k)] 43)).heap.size = wr.heap.size + 1 := by simp
      have hsz2 : ((wr.alloc (.cells #[.int .i64 (f k), .int .i64 (g k)] 43)).alloc (.cells #[.int .i64 (g k)] 3)).heap.size = wr.heap.size + 1 + 1 := by simp
      revert hsz hsz2
      generalize wr.alloc (.cells #[.int .i64 (f k), .int .i64 (g k)] 43) = w1
      intro hsz hsz2 HA
      have h104 := storing_any (pl f k) (some ⟨wr.heap.size + 1, 0, none⟩) 1 1 (w1.alloc (.cells #[.int .i64 (g k)] 3))
      rw [← HF.out k hlt] at h104
      refine h104.mono ?_
      clear h104
      rintro e w5 ⟨rfl, c1, c2, hz5, hb5⟩
      rw [HF.out k hlt] at c1
      rw [← hsz] at c2
      have hst := step_one (lo := wr.heap.size) (by omega) c1 c2 hb5 hz5
      rw [← ST.out.1 k hlt] at hst
      obtain ⟨ao', cap', w2, hrun, hB, hbw⟩ := SBuf.push HB.out ((HA.out.trans ((Blw.refl _).alloc _)).trans hb5) HW.out hst (by omega)
      have HN : Hid _ := And.intro hB hbw
      rw [hsz2] at hrun
      have HRN : Hid _ := hrun
      clear hst hB hbw hrun c1 c2 hb5 hz5 HB HA
      rw [hsz2]
      go_wp2_with (first | (at_builtin; refine wpList_append_run rfl (.tmp 14) (.tmp 21) 98 rfl _ _ rfl rfl HRN.out ?_) | go_in)
      go_roundw
      case rel => exact ⟨k + 1, by omega, by go_num, HN.out.1, HN.out.2⟩
      case measure => simp [intOf]; omega
    · obtain rfl : k = n := by omega
      have hlt' : ¬ (k : Int) < k := by omega
      go_wp2_with fail
      go_loopw [3, 26] (fun v i wr => ∃ t : Nat, t ≤ k ∧ i = .int .i64 t ∧ SBuf (fun x => w.heap.size ≤ x ∧ x < wr.heap.size) wr v (k + t) (settle k (pl f) g) ∧ Blw w wr) (fun _ i _ => k - (intOf i).toNat)
      case atStart => exact ⟨0, by omega, rfl, HB.out, HW.out⟩
      case round =>
        obtain ⟨t, ht, rfl, B, hb⟩ := hrel
        clear HB HW
        have HB : Hid (SBuf _ wr _ (k + t) (settle k (pl f) g)) := B
        have HW : Hid (Blw w wr) := hb
        clear B hb
        by_cases hlt : t < k
        · have hlt' : (t : Int) < k := by omega
          obtain ⟨b, o, rfl, -, g0, g1⟩ := (HU.out.blw HW.out).2 t hlt
          have HA : Hid (Blw wr (wr.alloc (.cells #[.int .i64 (f t), .int .i64 (g t)] 43))) := (Blw.refl _).alloc _
          go_wp2_with fail
          clear g0 g1
          have hsz : (wr.alloc (.cells #[.int .i64 (f t), .int .i64 (g t)] 43)).heap.size = wr.heap.size + 1 := by simp
          revert hsz HA
          generalize wr.alloc (.cells #[.int .i64 (f t), .int .i64 (g t)] 43) = w1
          intro HA hsz
          have h105 := flushing_any (pl f t) w1
          rw [← HF.out t hlt] at h105
          refine h105.mono ?_
          clear h105
          rintro e w5 ⟨rfl, c1, hz5, hb5⟩
          rw [HF.out t hlt] at c1
          have hst := step_flush (lo := wr.heap.size) (by omega) c1 hz5
          rw [← ST.out.2.1 t hlt] at hst
          obtain ⟨ao', cap', w2, hrun, hB, hbw⟩ := SBuf.push HB.out (HA.out.trans hb5) HW.out hst (by omega)
          have HN : Hid _ := And.intro hB hbw
          rw [hsz] at hrun
          have HRN : Hid _ := hrun
          clear hst hB hbw hrun c1 hb5 hz5 HB HA
          rw [hsz]
          go_wp2_with (first | (at_builtin; refine wpList_append_run rfl (.tmp 30) (.tmp 34) 98 rfl _ _ rfl rfl HRN.out ?_) | go_in)
          go_roundw
          case rel => exact ⟨t + 1, by omega, by go_num, HN.out.1, HN.out.2⟩
          case measure => simp [intOf]; omega
        · obtain rfl : t = k := by omega
          have hlt' : ¬ (t : Int) < t := by omega
          go_wp2_with fail
          have hsz : (wr.alloc (.cells #[.int .i64 0] 3)).heap.size = wr.heap.size + 1 := by simp
          refine (storing_any 24 _ 1 1 _).mono ?_
          rintro e w5 ⟨rfl, c1, c2, hz5, hb5⟩
          have hst := step_one (W := wr) (lo := wr.heap.size) (x := 0) (by omega) c1 c2 hb5 hz5
          have HS1 : Hid (StepAt (fun b => wr.heap.size ≤ b ∧ b < w5.heap.size) w5 _ (.st 24 0)) := hst
          have HB5 : Hid (Blw wr w5) := ((Blw.refl _).alloc _).trans hb5
          have HZ5 : Hid (wr.heap.size ≤ w5.heap.size) := HB5.out.size
          clear c1 c2 hst hb5 hz5 hsz
          go_wp2_with fail
          refine (flushing_any 24 _).mono ?_
          rintro e w6 ⟨rfl, c1, hz6, hb6⟩
          have hst2 := step_flush (lo := wr.heap.size) HZ5.out c1 hz6
          rw [← ST.out.2.2.2] at hst2
          have hst1 := StepAt.mono (StepAt.mod HS1.out (hb6.mod (fun _ => False)) (fun _ _ => id)) (Y := fun b => wr.heap.size ≤ b ∧ b < w6.heap.size) (fun b hb => ⟨hb.1, by have := hb.2; omega⟩)
          rw [show (Sp.st 24 0) = settle t (pl f) g (2 * t) from ST.out.2.2.1.symm] at hst1
          have hB0 := HB.out
          rw [show t + t = 2 * t by omega] at hB0
          obtain ⟨ao', cap', w2, hrun, hB, -, hbw⟩ := SBuf.push2 hB0 (HB5.out.trans hb6) HW.out hst1 hst2 (by omega)
          simp only [World.size_alloc] at hrun
          have HN : Hid _ := And.intro hB hbw
          have HRN : Hid _ := hrun
          clear hst1 hst2 hB hbw hrun c1 hb6 hB0 HS1 HB5 HB hz6 HZ5
          go_wp2_with (first | (at_builtin; refine wpList_append_run rfl (.tmp 37) (.tmp 41) 98 rfl _ _ rfl rfl HRN.out ?_) | go_in)
          go_ret
          exact ⟨ao', cap', rfl, HN.out.1, HN.out.2⟩
end Go.Proofs.Ytglllnklcnlcjaa
/- The program's deedOf and entriesIn. -/
namespace Go.Proofs.Ytglllnklcnlcjaa
open Go.RowKit
set_option linter.unusedSimpArgs false
set_option linter.unusedVariables false
theorem ints_two (w : World) (x y : Int) : IntsAt (fun b => b = w.heap.size) (w.alloc (.cells #[.int .i64 x, .int .i64 y] 3)) (some ⟨w.heap.size, 0, none⟩) 2 (fun i => if i = 0 then x else y) := by
  refine ⟨by omega, fun i hi => ⟨w.heap.size, 0, rfl, rfl, ?_⟩⟩
  rw [Nat.zero_add, (box2 w (.int .i64 x) (.int .i64 y) 3).cell hi]
  by_cases e : i = 0 <;> simp [e]
theorem step_two {w5 : World} {lo n b1 b3 : Nat} {x y : Int} (c1 : w5.cell? ⟨b1, 0, none⟩ = some (.int .i64 n)) (c2 : w5.cell? ⟨b1 + 1, 0, none⟩ = some (.slice (some ⟨b3, 0, none⟩) 2 2)) (hI : IntsAt (fun b => b = b3) w5 (some ⟨b3, 0, none⟩) 2 (fun i => if i = 0 then x else y)) (h1 : lo ≤ b1) (h3 : lo ≤ b3) (hz : b1 + 1 < w5.heap.size ∧ b3 < w5.heap.size) :
    StepAt (fun b => lo ≤ b ∧ b < w5.heap.size) w5 (stF (b1 + 1) b1) (.st2 n x y) :=
  ⟨_, _, _, _, rfl, ⟨by omega, by omega⟩, ⟨by omega, by omega⟩, c2, c1, hI.mono (fun b hb => ⟨by omega, by omega⟩)⟩
theorem deed_at {n : Nat} {p : Nat → Nat} {x v : Nat → Int} : (∀ k, k < n → deedSp n p x v (2 * k) = .st2 (28 + 4 * k) (p k) (v k)) ∧ (∀ k, k < n → deedSp n p x v (2 * k + 1) = .fl (28 + 4 * k)) ∧ deedSp n p x v (2 * n) = .st 24 n ∧ deedSp n p x v (2 * n + 1) = .fl 24 ∧ ∀ j, deedSp n p x v (2 * n + 2 + j) = settle n p x j := by
  refine ⟨fun k hk => ?_, fun k hk => ?_, ?_, ?_, fun j => ?_⟩
  · have h1 : 2 * k % 2 = 0 := by omega
    have h2 : 2 * k / 2 = k := by omega
    unfold deedSp entrySp
    rw [if_pos (by omega), if_pos h1, h2]
  · have h1 : ¬ (2 * k + 1) % 2 = 0 := by omega
    have h2 : (2 * k + 1) / 2 = k := by omega
    unfold deedSp entrySp
    rw [if_pos (by omega), if_neg h1, h2]
  · unfold deedSp; rw [if_neg (by omega), if_pos rfl]
  · unfold deedSp; rw [if_neg (by omega), if_neg (by omega), if_pos rfl]
  · unfold deedSp
    rw [if_neg (by omega), if_neg (by omega), if_neg (by omega), show 2 * n + 2 + j - (2 * n + 2) = j by omega]
set_option maxRecDepth 20000 in
set_option maxHeartbeats 6400000 in
theorem deedOf_any (B : Nat) (H : HS) (ao : Option Addr) (n c : Nat) (f g : Nat → Int) (Y : Nat → Prop) (w : World) (hn : n ≤ 3) (hf : ∀ k, k < n → (8 ≤ pl f k ∧ pl f k < 24) ∧ f k = (pl f k : Nat)) (r : Row w B 108 (hcell H.s H.c H.d)) (hu : UndosAt Y w ao n f g) :
    Calls Try.prog 73 #[.pointer (some ⟨B, 0, none⟩), .slice ao n c] w fun e w' => ∃ ao' cap, e = .returned (.slice ao' (4 * n + 4) cap) ∧ SBuf (fun x => w.heap.size ≤ x ∧ x < w'.heap.size) w' (.slice ao' (4 * n + 4) cap) (4 * n + 4) (deedSp n (pl f) g (fun k => H.w (pl f k))) ∧ Blw w w' := by
  have HU : Hid (UndosAt Y w ao n f g) := hu
  have HF : Hid (∀ k, k < n → (8 ≤ pl f k ∧ pl f k < 24) ∧ f k = (pl f k : Nat)) := hf
  have HR : Hid (Row w B 108 (hcell H.s H.c H.d)) := r
  have ST : Hid _ := deed_at (n := n) (p := pl f) (x := g) (v := fun k => H.w (pl f k))
  have hBlt := r.lt
  clear hu hf r
  go_enter Try.func73, Try.ntmps73
  go_wp2_with fail
  go_loopw [5, 10] (fun v i wr => ∃ k : Nat, k ≤ n ∧ i = .int .i64 k ∧ SBuf (fun x => w.heap.size ≤ x ∧ x < wr.heap.size) wr v (2 * k) (deedSp n (pl f) g (fun k => H.w (pl f k))) ∧ Blw w wr) (fun _ i _ => n - (intOf i).toNat)
  case atStart => exact ⟨0, by omega, rfl, SBuf.nil _ _ _, Blw.refl _⟩
  case round =>
    obtain ⟨k, hk, rfl, SB, hb⟩ := hrel
    have HB : Hid (SBuf _ wr _ (2 * k) (deedSp n (pl f) g (fun k => H.w (pl f k)))) := SB
    have HW : Hid (Blw w wr) := hb
    clear SB hb
    by_cases hlt : k < n
    · have hlt' : (k : Int) < n := by omega
      obtain ⟨b, o, rfl, -, g0, g1⟩ := (HU.out.blw HW.out).2 k hlt
      have HA : Hid (Blw wr (wr.alloc (.cells #[.int .i64 (f k), .int .i64 (g k)] 43))) := (Blw.refl _).alloc _
      have HBX : Hid (Row (wr.alloc (.cells #[.int .i64 (f k), .int .i64 (g k)] 43)) wr.heap.size 2 (fun i => if i = 0 then .int .i64 (f k) else .int .i64 (g k))) := box2 wr _ _ 43
      go_upto_region 5 with fail
      clear g0 g1
      have hsz : (wr.alloc (.cells #[.int .i64 (f k), .int .i64 (g k)] 43)).heap.size = wr.heap.size + 1 := by simp
      revert HA HBX hsz
      generalize wr.alloc (.cells #[.int .i64 (f k), .int .i64 (g k)] 43) = w1
      intro HA HBX hsz
      have hw1 : w.heap.size ≤ wr.heap.size := HW.out.size
      have Q0 : ∀ w', Mod (fun x => w.heap.size ≤ x ∧ x < wr.heap.size) w1 w' → w'.cell? ⟨wr.heap.size, 0, none⟩ = some (.int .i64 (f k)) := fun w' hh => (get2 (HBX.out.mod hh (by omega))).1
      have H64 : Hid (∀ w', Blw w1 w' → Calls Try.prog 64 #[.pointer (some ⟨B, 0, none⟩), .int .i64 (f k)] w' fun e w'' => e = .returned (.int .i64 (H.w (pl f k))) ∧ w'' = w') := fun w' hb => by
        have h9 := wordAt_any B H.s H.c H.d (pl f k) w' (by have := (HF.out k hlt).1; omega) (HR.out.blw ((HW.out.trans HA.out).trans hb))
        rw [← (HF.out k hlt).2] at h9
        exact h9
      have HE : Hid (f k = (pl f k : Nat)) := (HF.out k hlt).2
      have hq : (w1.alloc (.cells #[.int .i64 (f k), .int .i64 (H.w (pl f k))] 3)).drew.heap.size = wr.heap.size + 1 + 1 := by show (w1.alloc _).heap.size = _; rw [World.size_alloc, hsz]
      go_region_held3 (fun w' => Mod (fun x => w.heap.size ≤ x ∧ x < wr.heap.size) w1 w')
        ((first
          | exact (Blw.refl _).drew.mod _
          | assumption
          | exact Blw.mod (by assumption) _
          | exact Blw.mod (Blw.alloc (by assumption) _) _
          | exact Blw.mod (Blw.alloc (Blw.refl _).drew _) _))
        ((first
          | (go_at_call 103; refine (entryAt_any k _ (by omega)).mono ?_; rintro e w7 ⟨rfl, rfl⟩)
          | (go_at_call 64; refine (H64.out _ (Blw.refl _).drew).mono ?_; rintro e w8 ⟨rfl, rfl⟩)
          | (go_at_call 104; refine (storing_any (28 + 4 * k) _ 2 2 _).mono ?_; rintro e w9 ⟨rfl, c1, c2, hz9, hb9⟩; have B9 : Blw w1 w9 := ((Blw.refl w1).alloc _).trans ((Blw.refl _).drew.trans hb9); have I9 := (ints_two w1 (f k) (H.w (pl f k))).blw ((Blw.refl _).drew.trans hb9); rw [hsz] at I9; rw [hq] at c1 c2 hz9; have S9 : Hid (StepAt (fun b => wr.heap.size ≤ b ∧ b < w9.heap.size) w9 _ (.st2 (28 + 4 * k) (f k) (H.w (pl f k)))) := step_two c1 c2 I9 (by omega) (by omega) (by omega); clear c1 c2 hb9 hz9 I9)
          | (go_at_call 105; refine (flushing_any (28 + 4 * k) _).mono ?_; rintro e w10 ⟨rfl, c1, hz10, hb10⟩; have B10 : Blw w1 w10 := B9.trans hb10; have S10 := step_flush (lo := wr.heap.size) (by have := B9.size; omega) c1 hz10; have S9' := StepAt.mono (StepAt.mod S9.out (hb10.mod (fun _ => False)) (fun _ _ => id)) (Y := fun b => wr.heap.size ≤ b ∧ b < w10.heap.size) (fun b hb => ⟨hb.1, by have := hb.2; have := hb10.size; omega⟩); rw [HE.out, ← ST.out.1 k hlt] at S9'; rw [← ST.out.2.1 k hlt] at S10; have PU : Hid _ := SBuf.push2 HB.out (HA.out.trans B10) HW.out S9' S10 (by omega); clear c1 hz10 S9' S10 S9)
          | (refine step_appIs 15 29 98 (by decide +kernel) ?_; obtain ⟨ao', cap', w2, hrun, hB2, hm2, hbw2⟩ := PU.out; refine ⟨_, _, hrun, ?_⟩; have M2 := Mod.trans ((B10.alloc _).mod (fun x => w.heap.size ≤ x ∧ x < wr.heap.size)) hm2; have HN : Hid _ := And.intro hB2 hbw2; clear hB2 hbw2 hm2 hrun)))
      all_goals clear Q0 M2 B9 B10 PU
      all_goals go_wp2
      all_goals go_roundw
      all_goals first | exact ⟨k + 1, by omega, by go_num, HN.out.1, HN.out.2⟩ | (simp [intOf]; omega)
    · obtain rfl : k = n := by omega
      have hlt' : ¬ (k : Int) < k := by omega
      go_wp2_with fail
      refine (storing_any 24 _ 1 1 _).mono ?_
      rintro e w5 ⟨rfl, c1, c2, hz5, hb5⟩
      have HS1 : Hid (StepAt (fun b => wr.heap.size ≤ b ∧ b < w5.heap.size) w5 _ (.st 24 k)) := step_one (W := wr) (lo := wr.heap.size) (x := (k : Int)) (by omega) c1 c2 hb5 hz5
      have HB5 : Hid (Blw wr w5) := ((Blw.refl _).alloc _).trans hb5
      have HZ5 : Hid (wr.heap.size ≤ w5.heap.size) := HB5.out.size
      clear c1 c2 hb5 hz5
      go_wp2_with fail
      refine (flushing_any 24 _).mono ?_
      rintro e w6 ⟨rfl, c1, hz6, hb6⟩
      have hst2 := step_flush (lo := wr.heap.size) HZ5.out c1 hz6
      rw [← ST.out.2.2.2.1] at hst2
      have hst1 := StepAt.mono (StepAt.mod HS1.out (hb6.mod (fun _ => False)) (fun _ _ => id)) (Y := fun b => wr.heap.size ≤ b ∧ b < w6.heap.size) (fun b hb => ⟨hb.1, by have := hb.2; omega⟩)
      rw [← ST.out.2.2.1] at hst1
      obtain ⟨ao', cap', w2, hrun, hB, -, hbw⟩ := SBuf.push2 HB.out (HB5.out.trans hb6) HW.out hst1 hst2 (by omega)
      simp only [World.size_alloc] at hrun
      have HRN : Hid _ := hrun
      have HB2 : Hid (SBuf (fun x => w.heap.size ≤ x ∧ x < w2.heap.size) w2 (.slice ao' (2 * k + 2) cap') (2 * k + 2) (deedSp k (pl f) g (fun k => H.w (pl f k)))) := hB
      have HW2 : Hid (Blw w w2) := hbw
      clear hst1 hst2 hB hbw hrun c1 hb6 HS1 HB5 HB hz6 HZ5 HW
      go_wp2_with (first | (at_builtin; refine wpList_append_run rfl (.tmp 32) (.tmp 38) 98 rfl _ _ rfl rfl HRN.out ?_) | fail)
      clear HRN
      refine (settling_any ao k c f g Y _ hn (fun t ht => (HF.out t ht).2) (HU.out.blw HW2.out)).mono ?_
      rintro e w3 ⟨a3, c3, rfl, SB3, hb3⟩
      obtain ⟨a3', c3', e3, F3, Y3, hy3, hG, hnone, hst, -⟩ := SB3.form
      cases e3
      have hz3 := hb3.size
      have hz2 := HW2.out.size
      obtain ⟨a4, cap4, w4, hrun, hB4, hm4⟩ := SBuf.append (HB2.out.blw hb3) (ao := a3) (m := 2 * k + 2) c3 (G := F3) (sq := settle k (pl f) g) hnone hG hst (fun b hb => by have := hy3 b hb; exact ⟨fun h => by omega, by omega⟩) (fun b hb => by omega) (by omega) 98
      have hx' : ∀ x, (((w.heap.size ≤ x ∧ x < w2.heap.size) ∨ Y3 x ∨ x = w3.heap.size) ∧ x < w4.heap.size) → w.heap.size ≤ x ∧ x < w4.heap.size := fun x hx => by
        rcases hx.1 with h | h | h
        · omega
        · have := hy3 x h; omega
        · omega
      have hB5 := (hB4.mono hx').congr (sq := deedSp k (pl f) g (fun k => H.w (pl f k))) (fun i hi => by
        by_cases hi' : i < 2 * k + 2
        · rw [if_pos hi']
        · rw [if_neg hi', ← ST.out.2.2.2.2 (i - (2 * k + 2)), show 2 * k + 2 + (i - (2 * k + 2)) = i by omega])
      have e4 : 2 * k + 2 + (2 * k + 2) = 4 * k + 4 := by omega
      rw [e4] at hB5 hrun
      have HN : Hid _ := And.intro hB5 (Mod.blw (HW2.out.trans hb3) hm4 (fun i hi => hi.1))
      have HRN : Hid _ := hrun
      clear hB4 hB5 hm4 hrun hx' hG hnone hst SB3 HB2 HW2 hb3 hy3 e4
      go_wp2_with (first | (at_builtin; refine wpList_append_run rfl (.tmp 40) (.tmp 42) 98 rfl _ _ rfl rfl HRN.out ?_) | go_in)
      go_ret
      exact ⟨a4, cap4, rfl, HN.out.1, HN.out.2⟩
end Go.Proofs.Ytglllnklcnlcjaa
/- The program's entriesIn, and a step that is carried out. -/
namespace Go.Proofs.Ytglllnklcnlcjaa
open Go.RowKit
set_option linter.unusedSimpArgs false
set_option linter.unusedVariables false
theorem BufU.push {w wr W : World} {v : Value} {k : Nat} {f g : Nat → Int} (h : BufU (fun x => w.heap.size ≤ x ∧ x < wr.heap.size) wr v k f g) (hb : Blw wr W) (hbw : Blw w wr) (hk : k ≤ 90) :
    ∃ ao' cap w', (Builtin.append_ #[27, 27] 27 #[v, .slice (some ⟨W.heap.size, 0, none⟩) 1 1]).run Try.prog (W.alloc (.cells #[.int .i64 (f k), .int .i64 (g k)] 43)) = .ok (.slice ao' (k + 1) cap) w' ∧ BufU (fun x => w.heap.size ≤ x ∧ x < w'.heap.size) w' (.slice ao' (k + 1) cap) (k + 1) f g ∧ Blw w w' := by
  have hA : Blw W (W.alloc (.cells #[.int .i64 (f k), .int .i64 (g k)] 43)) := (Blw.refl _).alloc _
  have hs : (W.alloc (.cells #[.int .i64 (f k), .int .i64 (g k)] 43)).heap.size = W.heap.size + 1 := by simp
  have h1 := hb.size
  have h0 := hbw.size
  obtain ⟨ao', cap, w', e1, e2, e3⟩ := BufU.append (Buf.blw h (hb.trans hA)) 1 (one_undo W (f k) (g k)) (by omega) 27
  have hx' : ∀ x, ((w.heap.size ≤ x ∧ x < wr.heap.size) ∨ x = (W.alloc (.cells #[.int .i64 (f k), .int .i64 (g k)] 43)).heap.size) ∧ x < w'.heap.size → w.heap.size ≤ x ∧ x < w'.heap.size := fun x hx => by omega
  refine ⟨ao', cap, w', e1, (Buf.mono e2 hx').congr (fun i hi => ?_), Mod.blw ((hbw.trans hb).trans hA) e3 (fun i hi => (h.2 i hi).1)⟩
  have q : ∀ (a b : Nat → Int) (hab : ∀ t, t < k + 1 → a t = b t), ∀ c d : Nat → Int, (∀ t, t < k + 1 → c t = d t) → uc a c i = uc b d i := fun a b hab c d hcd => by
    simp only [uc, hab (i / 2) (by omega), hcd (i / 2) (by omega)]
  refine q _ _ (fun t ht => ?_) _ _ (fun t ht => ?_)
  · unfold icat
    by_cases e : t < k
    · rw [if_pos e]
    · rw [if_neg e, show t = k by omega]
  · unfold icat
    by_cases e : t < k
    · rw [if_pos e]
    · rw [if_neg e, show t = k by omega]
/-- What entriesIn answers. -/
def GivesE (H : HS) (w : World) (e : Ending) (w' : World) : Prop := (∃ ao n c b, e = .returned (.tuple #[.slice ao n c, .bool b]) ∧ ((H.log ∧ b = true ∧ n = H.many ∧ UndosAt (fun x => w.heap.size ≤ x ∧ x < w'.heap.size) w' ao n (fun t => H.w (28 + 4 * t)) (fun t => H.w (29 + 4 * t))) ∨ (¬ H.log ∧ b = false))) ∧ Blw w w'
theorem word_any (B : Nat) (H : HS) (q : Nat) (w : World) (hq : q < 48) (r : Row w B 108 (hcell H.s H.c H.d)) :
    Calls Try.prog 64 #[.pointer (some ⟨B, 0, none⟩), .int .i64 q] w fun e w' => e = .returned (.int .i64 (H.w q)) ∧ w' = w := wordAt_any B H.s H.c H.d q w hq r
set_option maxRecDepth 20000 in
set_option maxHeartbeats 6400000 in
theorem entriesIn_any (B : Nat) (H : HS) (w : World) (gd : H.md.Good) (r : Row w B 108 (hcell H.s H.c H.d)) :
    Calls Try.prog 66 #[.pointer (some ⟨B, 0, none⟩)] w (GivesE H w) := by
  have HR : Hid (Row w B 108 (hcell H.s H.c H.d)) := r
  have GD : Hid H.md.Good := gd
  have h24 := (word_ok gd (q := 24) (by omega)).1
  clear r gd
  have HX : Hid (0 ≤ H.w 24) := h24
  clear h24
  go_enter Try.func66, Try.ntmps66
  go_wp2_with fail
  have h64 := word_any B H 24 w (by omega) HR.out
  refine h64.mono ?_
  clear h64
  rintro e w ⟨rfl, rfl⟩
  by_cases h3 : H.w 24 ≤ 3
  · have d1 : decide (H.w 24 > 3) = false := by simp only [decide_eq_false_iff_not]; omega
    have hmn : H.w 24 = (H.many : Int) := by have h2 := HX.out; unfold HS.many; omega
    have hm3 : H.many ≤ 3 := by unfold HS.many; omega
    have h3' : H.log ↔ ∀ k : Nat, k < H.many → placeOK (H.w (28 + 4 * k)) := ⟨fun g k hk => g.2 k (by omega), fun g => ⟨h3, fun k hk => g k (by omega)⟩⟩
    have HLG : Hid _ := h3'
    rw [hmn] at d1 ⊢
    clear hmn h3' h3
    generalize hmm : H.many = mm at *
    go_wp2_with fail
    go_loopw [5, 13] (fun v i wr => ∃ k : Nat, k ≤ mm ∧ i = .int .i64 k ∧ (∀ t, t < k → placeOK (H.w (28 + 4 * t))) ∧ BufU (fun x => w.heap.size ≤ x ∧ x < wr.heap.size) wr v k (fun t => H.w (28 + 4 * t)) (fun t => H.w (29 + 4 * t)) ∧ Blw w wr) (fun _ i _ => mm - (intOf i).toNat)
    case atStart => exact ⟨0, by omega, rfl, fun t ht => absurd ht (Nat.not_lt_zero _), Buf.nil _ _ _ _ _, Blw.refl _⟩
    case round =>
      obtain ⟨k, hk, rfl, hok, hB, hb⟩ := hrel
      have HP : Hid (∀ t, t < k → placeOK (H.w (28 + 4 * t))) := hok
      have HB : Hid (BufU _ wr _ k (fun t => H.w (28 + 4 * t)) (fun t => H.w (29 + 4 * t))) := hB
      have HW : Hid (Blw w wr) := hb
      clear hok hB hb
      by_cases hlt : k < mm
      · have hlt' : (k : Int) < mm := by omega
        go_wp2_with fail
        refine (entryAt_any k _ (by omega)).mono ?_
        rintro e w2 ⟨rfl, rfl⟩
        go_wp2_with fail
        refine (word_any B H (28 + 4 * k) _ (by omega) (HR.out.blw HW.out)).mono ?_
        rintro e w2 ⟨rfl, rfl⟩
        go_wp2_with fail
        refine (entryAt_any k _ (by omega)).mono ?_
        rintro e w2 ⟨rfl, rfl⟩
        have e28 : IntKind.i64.wrap (28 + 4 * (k : Int) + 1) = 28 + 4 * (k : Int) + 1 := by rw [IntKind.wrap_i64]; omega
        go_wp2_with fail
        have h64 : ∀ x : Int, x = 28 + 4 * (k : Int) + 1 → Calls Try.prog 64 #[.pointer (some ⟨B, 0, none⟩), .int .i64 x] w2 fun e w' => e = .returned (.int .i64 (H.w (29 + 4 * k))) ∧ w' = w2 := fun x hx => by
          have h9 := word_any B H (29 + 4 * k) w2 (by omega) (HR.out.blw HW.out)
          rw [show (((29 + 4 * k : Nat)) : Int) = x by omega] at h9
          exact h9
        refine (h64 _ (by omega)).mono ?_
        clear h64 e28
        rintro e w2 ⟨rfl, rfl⟩
        obtain ⟨q0, q1⟩ := get2 (box2 w2 (.int .i64 (H.w (28 + 4 * k))) (.int .i64 (H.w (29 + 4 * k))) 43)
        obtain ⟨ao', cap', w3, hrun, hB3, hbw3⟩ := BufU.push HB.out ((Blw.refl w2).alloc (.cells #[.int .i64 (H.w (28 + 4 * k)), .int .i64 (H.w (29 + 4 * k))] 43)) HW.out (by omega)
        simp only [World.size_alloc] at hrun
        have HRN : Hid _ := hrun
        have HN : Hid _ := And.intro hB3 hbw3
        have HBW : Hid (Blw w (w2.alloc (.cells #[.int .i64 (H.w (28 + 4 * k)), .int .i64 (H.w (29 + 4 * k))] 43))) := HW.out.alloc _
        clear hrun hB3 hbw3
        by_cases ok : placeOK (H.w (28 + 4 * k))
        · have OK : Hid (placeOK (H.w (28 + 4 * k))) := ok
          clear ok
          go_wp2_with fail
          refine (isData_yes _ _ OK.out).mono ?_
          rintro e w4 ⟨rfl, rfl⟩
          clear HB HW HBW
          go_wp2_with (first | (at_builtin; refine wpList_append_run rfl (.tmp 30) (.tmp 32) 27 rfl _ _ rfl rfl HRN.out ?_) | go_in)
          go_roundw
          case rel => exact ⟨k + 1, by omega, by go_num, fun t ht => by
            by_cases e : t = k
            · subst e; exact OK.out
            · exact HP.out t (by omega), HN.out.1, HN.out.2⟩
          case measure => simp [intOf]; omega
        · have OK : Hid (¬ placeOK (H.w (28 + 4 * k))) := ok
          clear ok
          go_wp2_with fail
          refine (isData_no _ _ OK.out).mono ?_
          rintro e w4 ⟨rfl, rfl⟩
          clear HB HW HRN HN q0 q1
          go_wp2
          go_ret2
          refine ⟨⟨none, 0, 0, false, rfl, Or.inr ⟨fun g => OK.out (HLG.out.1 g k (by omega)), rfl⟩⟩, HBW.out⟩
      · obtain rfl : k = mm := by omega
        have hlt' : ¬ (k : Int) < k := by omega
        obtain ⟨ao2, cap2, rfl, own⟩ := BufU.own HB.out (by omega)
        have HU : Hid _ := own.at
        clear own HB
        go_wp2
        go_ret2
        exact ⟨⟨ao2, k, cap2, true, rfl, Or.inl ⟨HLG.out.2 (fun t ht => HP.out t (by omega)), rfl, hmm.symm, HU.out⟩⟩, HW.out⟩
  · have d1 : decide (H.w 24 > 3) = true := by simp only [decide_eq_true_eq]; omega
    go_wp2
    go_ret2
    exact ⟨⟨none, 0, 0, false, rfl, Or.inr ⟨fun g => by have := g.1; omega, rfl⟩⟩, Blw.refl _⟩
end Go.Proofs.Ytglllnklcnlcjaa
/- The program's RecoverDeed. -/
namespace Go.Proofs.Ytglllnklcnlcjaa
open Go.RowKit
set_option linter.unusedSimpArgs false
set_option linter.unusedVariables false
/-- Behind a step that is carried out on the memory held at B. -/
def DoPost (B : Nat) (sp : Sp) (H : HS) (w : World) (e : Ending) (w' : World) : Prop := (∃ v, e = .returned v) ∧ Row w' B 108 (hcell (sp.run H).s (sp.run H).c (sp.run H).d) ∧ Mod (fun b => b = B) w w'
theorem StepAt.kinds {Y : Nat → Prop} {w : World} {v : Value} {sp : Sp} (h : StepAt Y w v sp) (ok : sp.ok) :
    (∃ bw ba, v = stF bw ba ∧ ∀ B H, (∀ b, Y b → b ≠ B) → Row w B 108 (hcell H.s H.c H.d) → Calls Try.prog 120 #[.pointer (some ⟨B, 0, none⟩), .pointer (some ⟨bw, 0, none⟩), .pointer (some ⟨ba, 0, none⟩)] w (DoPost B sp H w)) ∨
    (∃ ba, v = flF ba ∧ ∀ B H, (∀ b, Y b → b ≠ B) → Row w B 108 (hcell H.s H.c H.d) → Calls Try.prog 122 #[.pointer (some ⟨B, 0, none⟩), .pointer (some ⟨ba, 0, none⟩)] w (DoPost B sp H w)) := by
  cases sp with
  | st n x =>
    obtain ⟨bw, ba, a, c, e, y1, y2, c1, c2, hi⟩ := h
    exact Or.inl ⟨bw, ba, e, fun B H hB r => doStore_any B bw ba a 1 c n (fun _ => x) H Y w (by omega) (by have := ok.1; omega) hB y1 y2 c1 c2 hi r⟩
  | st2 n x y =>
    obtain ⟨bw, ba, a, c, e, y1, y2, c1, c2, hi⟩ := h
    exact Or.inl ⟨bw, ba, e, fun B H hB r => doStore_any B bw ba a 2 c n (fun i => if i = 0 then x else y) H Y w (by omega) (by have := ok.1; omega) hB y1 y2 c1 c2 hi r⟩
  | fl n =>
    obtain ⟨ba, e, y2, c2⟩ := h
    exact Or.inr ⟨ba, e, fun B H hB r => doFlush_any B ba n H w ok c2 r⟩
theorem pl_many (H : HS) : pl (fun t => H.w (28 + 4 * t)) = H.ep := rfl
set_option maxRecDepth 20000 in
set_option maxHeartbeats 6400000 in
theorem implRecover_any (m : MV) (M : MD) (Y : Nat → Prop) (w : World) (h : MemAt Y w m M) :
    Calls Try.prog 23 #[m.val M] w (Gives (rdOut M) w) := by
  go_enter Try.func23, Try.ntmps23
  go_wp2_with fail
  have hb0 : Blw w ((w.alloc (.cells #[.slice m.a1 M.n1 m.c1, .slice m.a2 M.n2 m.c2, .slice m.a3 M.n3 m.c3] 26)).alloc (.cells #[.slice none 0 0, .slice none 0 0, .slice none 0 0] 26)) := ((Blw.refl _).alloc _).alloc _
  have rR := res_row w (.slice m.a1 M.n1 m.c1) (.slice m.a2 M.n2 m.c2) (.slice m.a3 M.n3 m.c3)
  refine (holdMemory_any m M Y _ (h.blw hb0)).mono ?_
  rintro e w1 ⟨hr, hb1⟩
  replace rR := rR.blw hb1
  replace hb1 := hb0.trans hb1
  have r79 := row79 w1
  have zw := hb1.size
  have rlt := rR.lt
  clear h hb0
  rcases hr with ⟨good, cs, z1, z2, rfl⟩ | ⟨bad, rfl⟩
  · have hi : (Try.prog.info? 91).map (·.size) = some cs.size := by rw [z1]; exact info79
    have one := one_cells' z1 z2
    have GD : Hid M.Good := good
    clear good
    go_wp2_with (first | (refine wpList_store_row rfl 91 (.tmp 4) (.tmp 12) rfl w1.heap.size 0 cs rfl rfl 108 _ (hcell M.v1 M.v2 M.d) r79 (by omega) hi one (fun j hj => z2 j (by omega)) ?_; intro wz qz1 qz2 qz3; have hz := held_facts hb1 rR qz1 qz2 z1; obtain ⟨rH, hbz, rZ⟩ := hz; clear qz1 qz2 qz3) | fail)
    have zlt := rH.lt
    clear r79 hi one z1 z2 rR hb1
    have HR : Hid (Row wz w1.heap.size 108 (hcell (HS.of M).s (HS.of M).c (HS.of M).d)) := rH
    have HZ : Hid (Row wz (w.heap.size + 1) 3 (fun _ => .slice none 0 0)) := rZ
    have HBZ : Hid (Blw w wz) := hbz
    clear rH rZ hbz
    generalize w1.heap.size = z at *
    refine (entriesIn_any z (HS.of M) _ (good_of GD.out) HR.out).mono ?_
    rintro e w2 ⟨⟨ao, n, c, b, rfl, hE⟩, hb2⟩
    replace HR : Hid (Row w2 z 108 (hcell (HS.of M).s (HS.of M).c (HS.of M).d)) := HR.out.blw hb2
    replace HZ : Hid (Row w2 (w.heap.size + 1) 3 (fun _ => .slice none 0 0)) := HZ.out.blw hb2
    replace HBZ : Hid (Blw w w2) := HBZ.out.trans hb2
    have zb2 := hb2.size
    have HE : Hid _ := hE
    clear hE hb2
    cases b
    · obtain ⟨⟨x0, x1, x2⟩, f0, f1, f2⟩ := res6 HZ.out
      have NG : Hid (¬ (M.Good ∧ (HS.of M).log)) := fun g => by
        rcases HE.out with ⟨_, h9, _⟩ | ⟨h9, _⟩
        · cases h9
        · exact h9 g.2
      clear HE HR HZ
      go_wp2
      exact bodyPost_ret (v := .tuple #[.agg #[.slice none 0 0, .slice none 0 0, .slice none 0 0], .bool false]) (by simp [results, Try.results23, go_sem, x0, x1, x2]) rfl (zero_gives (Or.inr ⟨NG.out, rfl, rfl⟩) HBZ.out)
    · have HG : Hid ((HS.of M).log ∧ n = (HS.of M).many ∧ UndosAt (fun x => wz.heap.size ≤ x ∧ x < w2.heap.size) w2 ao n (fun t => (HS.of M).w (28 + 4 * t)) (fun t => (HS.of M).w (29 + 4 * t))) := by
        rcases HE.out with ⟨h1, _, h2, h3⟩ | ⟨_, h9⟩
        · exact ⟨h1, h2, h3⟩
        · cases h9
      clear HE
      have hn : n = (HS.of M).many := HG.out.2.1
      have hm3 : n ≤ 3 := by have h1 := HG.out.1.1; rw [hn]; unfold HS.many; omega
      have HLE : Hid (∀ t, t < n → (fun t => (HS.of M).w (28 + 4 * t)) t = (pl (fun t => (HS.of M).w (28 + 4 * t)) t : Nat)) := fun t ht => (log_entry (good_of GD.out) HG.out.1 (k := t) (by omega)).2.2.1
      have OKS : Hid (∀ i, i < 2 * n + 2 → (settle n (HS.of M).ep (HS.of M).ex i).ok) := fun i hi => by rw [hn]; exact settle_ok (log_places HG.out.1) (fun k hk => (log_entry (good_of GD.out) HG.out.1 hk).2.2.2) (by omega)
      have HN2 : Hid (n = (HS.of M).many) := hn
      clear hn
      have H67 : Hid (Calls Try.prog 67 #[.slice ao n c] w2 fun e w' => ∃ ao' cap, e = .returned (.slice ao' (2 * n + 2) cap) ∧ SBuf (fun x => w2.heap.size ≤ x ∧ x < w'.heap.size) w' (.slice ao' (2 * n + 2) cap) (2 * n + 2) (settle n (HS.of M).ep (HS.of M).ex) ∧ Blw w2 w') := settling_any ao n c (fun t => (HS.of M).w (28 + 4 * t)) (fun t => (HS.of M).w (29 + 4 * t)) (fun x => wz.heap.size ≤ x ∧ x < w2.heap.size) w2 hm3 HLE.out HG.out.2.2
      go_wp2_with fail
      refine H67.out.mono ?_
      rintro e w3 ⟨a3, c3, rfl, SB, hb3⟩
      clear H67
      obtain ⟨a3', c3', e3, F, Y3, hy3, hG, hnone, hst, hne⟩ := SB.form
      cases e3
      obtain ⟨bs, hbs, rfl⟩ := hne (by omega)
      have zb3 := hb3.size
      have HC : Hid (∀ wr, Mod (fun b => b = z ∨ w3.heap.size ≤ b) w3 wr → Row wr (w.heap.size + 1) 3 (fun _ => .slice none 0 0) ∧ (∀ j, j < 2 * n + 2 → wr.cell? ⟨bs, j, none⟩ = some (F j)) ∧ (∀ i, i < 2 * n + 2 → StepAt Y3 wr (F i) (settle n (HS.of M).ep (HS.of M).ex i)) ∧ Blw w wr) := fun wr hm => by
        have hY : ∀ b, Y3 b → ¬ (b = z ∨ w3.heap.size ≤ b) := fun b hb => by have := hy3 b hb; omega
        refine ⟨(HZ.out.blw hb3).mod hm (by omega), fun j hj => ?_, fun i hi => (hst i hi).mod hm hY, Mod.blw (HBZ.out.trans hb3) hm (fun i hi => by have := HBZ.out.size; omega)⟩
        have h9 := hG _ rfl j hj
        rw [Addr.add_mid, Nat.zero_add] at h9
        exact hm.cell h9 (by show ¬ (bs = z ∨ w3.heap.size ≤ bs); omega)
      have HY3 : Hid (∀ b, Y3 b → w2.heap.size ≤ b ∧ b < w3.heap.size) := hy3
      replace HR : Hid (Row w3 z 108 (hcell (HS.of M).s (HS.of M).c (HS.of M).d)) := HR.out.blw hb3
      have zlt2 : z < w2.heap.size := by omega
      clear SB hG hnone hst hne hb3 hy3 HZ HBZ
      have hN : ∃ NN, NN = 2 * n + 2 := ⟨_, rfl⟩
      obtain ⟨NN, hN⟩ := hN
      rw [← hN] at HC OKS ⊢
      have HNN : Hid (NN = 2 * n + 2) := hN
      have hN8 : NN ≤ 8 := by omega
      clear hN
      go_wp2_with fail
      go_loopw [27] (fun i wr => ∃ k : Nat, k ≤ NN ∧ i = .int .i64 k ∧ Row wr z 108 (hcell (RS (HS.of M) k).s (RS (HS.of M) k).c (RS (HS.of M) k).d) ∧ Mod (fun b => b = z ∨ w3.heap.size ≤ b) w3 wr) (fun i _ => NN - (intOf i).toNat)
      case atStart => exact ⟨0, by omega, rfl, HR.out, Mod.refl _ _⟩
      case round =>
        obtain ⟨k, hk, rfl, r, hm⟩ := hrel
        clear HR
        have HR : Hid (Row wr z 108 (hcell (RS (HS.of M) k).s (RS (HS.of M) k).c (RS (HS.of M) k).d)) := r
        have HM : Hid (Mod (fun b => b = z ∨ w3.heap.size ≤ b) w3 wr) := hm
        clear r hm
        by_cases hlt : k < NN
        · have hlt' : (k : Int) < NN := by omega
          obtain ⟨-, hcell', hstep, -⟩ := HC.out _ HM.out
          have q0 := hcell' k hlt
          have hA : Blw wr (wr.alloc (.cells #[F k] 102)) := (Blw.refl _).alloc _
          have hS := StepAt.kinds (StepAt.mod (hstep k hlt) (hA.mod (fun _ => False)) (fun _ _ => id)) (OKS.out k hlt)
          have HR2 : Hid (Row (wr.alloc (.cells #[F k] 102)) z 108 (hcell (RS (HS.of M) k).s (RS (HS.of M) k).c (RS (HS.of M) k).d)) := HR.out.blw hA
          have KEEP : Hid (∀ w8, Mod (fun b => b = z) (wr.alloc (.cells #[F k] 102)) w8 → Mod (fun b => b = z ∨ w3.heap.size ≤ b) w3 w8) := fun w8 hm8 => (HM.out.trans (hA.mod _)).trans (hm8.mono (fun b hb => Or.inl hb))
          have HRS : Hid (RS (HS.of M) (k + 1) = (settle n (HS.of M).ep (HS.of M).ex k).run (RS (HS.of M) k)) := by rw [HG.out.2.1]; rfl
          clear hcell' hstep hA
          rcases hS with ⟨bw, ba, e1, C⟩ | ⟨ba, e1, C⟩
          · rw [e1] at q0 C HR2 KEEP
            have HCC : Hid _ := C
            clear C
            go_wp2_with (first | (go_at_call 120; refine (HCC.out z _ (fun b hb => by have := HY3.out b hb; omega) HR2.out).mono ?_; rintro e w8 ⟨⟨v8, rfl⟩, r8, hm8⟩; rw [← HRS.out] at r8; have HN : Hid _ := And.intro r8 (KEEP.out _ hm8); clear r8 hm8) | fail)
            clear q0 HCC HR2 KEEP HR HM
            go_roundw
            case rel => exact ⟨k + 1, by omega, by go_num, HN.out.1, HN.out.2⟩
            case measure => simp [intOf]; omega
          · rw [e1] at q0 C HR2 KEEP
            have HCC : Hid _ := C
            clear C
            go_wp2_with (first | (go_at_call 122; refine (HCC.out z _ (fun b hb => by have := HY3.out b hb; omega) HR2.out).mono ?_; rintro e w8 ⟨⟨v8, rfl⟩, r8, hm8⟩; rw [← HRS.out] at r8; have HN : Hid _ := And.intro r8 (KEEP.out _ hm8); clear r8 hm8) | fail)
            clear q0 HCC HR2 KEEP HR HM
            go_roundw
            case rel => exact ⟨k + 1, by omega, by go_num, HN.out.1, HN.out.2⟩
            case measure => simp [intOf]; omega
        · obtain rfl : k = NN := by omega
          have hlt' : ¬ (k : Int) < k := by omega
          obtain ⟨rZ, -, -, hbw⟩ := HC.out _ HM.out
          have HB8 : Hid (Row wr z 108 (hcell (HS.of M).back.s (HS.of M).back.c (HS.of M).back.d)) := by
            have h9 := HR.out
            rw [HNN.out, HN2.out] at h9
            exact h9
          have HBW : Hid (Blw w wr) := hbw
          have zb := hbw.size
          have hlr := rZ.lt
          have HZ2 : Hid (Row wr (w.heap.size + 1) 3 (fun _ => .slice none 0 0)) := rZ
          clear HC HM rZ hbw HR
          go_wp2_with fail
          refine (giveOut_any _ _ _ _ _ HB8.out).mono ?_
          rintro e w4 ⟨m4, rfl, own, hb4⟩
          simp only [MV.val, MD.full]
          obtain ⟨⟨x0, x1, x2⟩, f0, f1, f2⟩ := res6 (HZ2.out.blw hb4)
          have HBW4 : Hid (Blw w w4) := HBW.out.trans hb4
          have HO4 : Hid (MemOwn _ w4 m4 (HS.of M).back.md) := own
          clear HB8 HZ2 hb4 own HBW
          go_wp2
          exact bodyPost_ret (v := .tuple #[.agg #[.slice m4.a1 12 m4.c1, .slice m4.a2 12 m4.c2, .slice m4.a3 12 m4.c3], .bool true]) (by simp [results, Try.results23, go_sem, x0, x1, x2]) rfl (some_gives (Or.inl ⟨⟨GD.out, HG.out.1⟩, rfl, rfl⟩) HBW4.out HO4.out (fun b hb => by have := hb.1; have := hb.2; exact ⟨by omega, by omega⟩) rfl)
  · have NG : Hid (¬ M.Good) := bad
    clear bad
    go_wp2_with (first | (refine wpList_store_row rfl 91 (.tmp 4) (.tmp 12) rfl w1.heap.size 0 Try.zeroCells91 rfl rfl 108 _ (hcell zeros zeros (fun _ => false)) r79 (by rw [size79]; omega) (by rw [size79]; exact info79) one79 cell79 ?_; intro wz qz1 qz2 qz3; have hz := held_facts hb1 rR qz1 qz2 size79; obtain ⟨rH, hbz, rZ⟩ := hz; obtain ⟨⟨x0, x1, x2⟩, f0, f1, f2⟩ := res6 rZ; clear qz1 qz2 qz3 rH rZ) | fail)
    exact bodyPost_ret (v := .tuple #[.agg #[.slice none 0 0, .slice none 0 0, .slice none 0 0], .bool false]) (by simp [results, Try.results23, go_sem, x0, x1, x2]) rfl (zero_gives (Or.inr ⟨fun g => NG.out g.1, rfl, rfl⟩) hbz)
end Go.Proofs.Ytglllnklcnlcjaa
/- The program's DeedSteps. -/
namespace Go.Proofs.Ytglllnklcnlcjaa
open Go.RowKit
set_option linter.unusedSimpArgs false
set_option linter.unusedVariables false
/-- The memories so far, of which those ahead of a lie below it; only z, they and what is new has turned. -/
structure MM (lo a z : Nat) (w5 w : World) (v : Value) (n : Nat) (M : Nat → MD) : Prop where
  mod : Mod (fun b => b = z ∨ (z < b ∧ b < lo) ∨ a ≤ b) w5 w
  buf : ∃ X, MBuf X w v n M ∧ ∀ x, X x → (z < x ∧ x < lo) ∨ (a ≤ x ∧ x < w.heap.size)
theorem MM.both {lo a z : Nat} {w5 w : World} {v : Value} {n : Nat} {M : Nat → MD} (h : MM lo a z w5 w v n M) : Mod (fun b => b = z ∨ (z < b ∧ b < lo) ∨ a ≤ b) w5 w ∧ ∃ (X : Nat → Prop) (v' : Value), MBuf X w v n M ∧ ∀ x, X x → (z < x ∧ x < lo) ∨ (a ≤ x ∧ x < w.heap.size) :=
  ⟨h.mod, let ⟨X, h1, h2⟩ := h.buf; ⟨X, v, h1, h2⟩⟩
/-- A list of one memory. -/
theorem MBuf.one {X : Nat → Prop} {w : World} {m : MV} {M : Nat → MD} {Z : Nat → Prop} (own : MemOwn Z w m (M 0)) (hZ : ∀ b, Z b → X b ∧ b < w.heap.size) (hX : X w.heap.size) :
    MBuf X (w.alloc (.cells #[.slice m.a1 (M 0).n1 m.c1, .slice m.a2 (M 0).n2 m.c2, .slice m.a3 (M 0).n3 m.c3] 26)) (.slice (some ⟨w.heap.size, 0, none⟩) 1 1) 1 M := by
  refine ⟨fun _ => m, fun _ => Z, fun b => b = w.heap.size, Z, fun x hx => ⟨hx ▸ hX, fun h => by have := (hZ x h).2; omega⟩, fun x hx => (hZ x hx).1, ⟨⟨by simp, Or.inr ⟨w.heap.size, 1, _, rfl, Nat.zero_le _, heap_alloc_new _ _, by omega, by simp [maxLen], by simp, ?_⟩⟩, fun g hg => by simp [Value.ownBlock] at hg; exact hg.symm⟩, fun i hi => ?_, fun i hi x hx => hx, fun i j hi hj hij => by omega⟩
  · simp [List.range_succ, mcell]
  · obtain rfl : i = 0 := by omega
    exact own.blw ((Blw.refl _).alloc _)
set_option maxRecDepth 20000 in
set_option maxHeartbeats 6400000 in
theorem implSteps_any (m : MV) (M : MD) (ao : Option Addr) (n c : Nat) (f g : Nat → Int) (Y Y2 : Nat → Prop) (w : World) (h : MemAt Y w m M) (hu : UndosAt Y2 w ao n f g) :
    Calls Try.prog 27 #[m.val M, .slice ao n c] w (GivesS (dsOut M n f g) w) := by
  go_enter Try.func27, Try.ntmps27
  go_wp2_with fail
  have hb0 : Blw w (w.alloc (.cells #[.slice m.a1 M.n1 m.c1, .slice m.a2 M.n2 m.c2, .slice m.a3 M.n3 m.c3] 26)) := (Blw.refl _).alloc _
  refine (holdMemory_any m M Y _ (h.blw hb0)).mono ?_
  rintro e w1 ⟨hr, hb1⟩
  replace hb1 := hb0.trans hb1
  have r79 := row79 w1
  have zw := hb1.size
  have HU : Hid (UndosAt Y2 w ao n f g) := hu
  clear h hb0 hu
  rcases hr with ⟨good, cs, z1, z2, rfl⟩ | ⟨bad, rfl⟩
  · have hi : (Try.prog.info? 91).map (·.size) = some cs.size := by rw [z1]; exact info79
    have one := one_cells' z1 z2
    have GD : Hid M.Good := good
    clear good
    go_wp2_with (first | (refine wpList_store_row rfl 91 (.tmp 6) (.tmp 14) rfl w1.heap.size 0 cs rfl rfl 108 _ (hcell M.v1 M.v2 M.d) r79 (by omega) hi one (fun j hj => z2 j (by omega)) ?_; intro wz qz1 qz2 qz3; have hz := held_facts' hb1 qz1 qz2 z1; obtain ⟨rH, hbz⟩ := hz; clear qz1 qz2 qz3) | fail)
    have zlt := rH.lt
    clear r79 hi one z1 z2 hb1
    have HR : Hid (Row wz w1.heap.size 108 (hcell (HS.of M).s (HS.of M).c (HS.of M).d)) := rH
    have HBZ : Hid (Blw w wz) := hbz
    clear rH hbz
    generalize w1.heap.size = z at *
    refine (word_any z (HS.of M) 24 _ (by omega) HR.out).mono ?_
    rintro e wz ⟨rfl, rfl⟩
    by_cases h0 : (HS.of M).w 24 = 0
    · have H0 : Hid ((HS.of M).w 24 = 0) := h0
      rw [h0]
      clear h0
      go_wp2_with fail
      refine (implGoodP_any ao c n f g Y2 _ (HU.out.blw HBZ.out)).mono ?_
      rintro e w2 ⟨b, rfl, hg, hb2⟩
      have HG : Hid (b = true ↔ goodP n f g) := hg
      replace HR : Hid (Row w2 z 108 (hcell (HS.of M).s (HS.of M).c (HS.of M).d)) := HR.out.blw hb2
      replace HBZ : Hid (Blw w w2) := HBZ.out.trans hb2
      have zz2 := hb2.size
      clear hg hb2
      cases b
      · clear HR
        go_wp2
        go_ret2
        exact ⟨none, 0, 0, fun _ => MZ, false, rfl, Or.inr ⟨fun g => absurd (HG.out.2 g.2.2) (by decide), rfl, rfl⟩, MemsOwn.nil _ _ _ _, HBZ.out⟩
      · have HP : Hid (goodP n f g) := HG.out.1 rfl
        clear HG
        have hn3 : n ≤ 3 := HP.out.1.2
        go_wp2_with fail
        refine (giveOut_any _ _ _ _ _ HR.out).mono ?_
        rintro e w3 ⟨m3, rfl, own3, hb3⟩
        simp only [MV.val, MD.full]
        have hA3 : Blw w3 (w3.alloc (.cells #[.slice m3.a1 12 m3.c1, .slice m3.a2 12 m3.c2, .slice m3.a3 12 m3.c3] 26)) := (Blw.refl _).alloc _
        have zz3 := hb3.size
        have hs3 : (w3.alloc (.cells #[.slice m3.a1 12 m3.c1, .slice m3.a2 12 m3.c2, .slice m3.a3 12 m3.c3] 26)).heap.size = w3.heap.size + 1 := by simp
        have HB1 : Hid (MBuf (fun x => z < x ∧ x < w3.heap.size + 1) (w3.alloc (.cells #[.slice m3.a1 12 m3.c1, .slice m3.a2 12 m3.c2, .slice m3.a3 12 m3.c3] 26)) (.slice (some ⟨w3.heap.size, 0, none⟩) 1 1) 1 (fun i => (DS M n f g i).md)) := MBuf.one (M := (fun i => (DS M n f g i).md)) own3 (fun b hb => by have := hb.1; have := hb.2; exact ⟨⟨by omega, by omega⟩, by omega⟩) ⟨by omega, by omega⟩
        replace HR : Hid (Row (w3.alloc (.cells #[.slice m3.a1 12 m3.c1, .slice m3.a2 12 m3.c2, .slice m3.a3 12 m3.c3] 26)) z 108 (hcell (HS.of M).s (HS.of M).c (HS.of M).d)) := (HR.out.blw hb3).blw hA3
        replace HBZ : Hid (Blw w (w3.alloc (.cells #[.slice m3.a1 12 m3.c1, .slice m3.a2 12 m3.c2, .slice m3.a3 12 m3.c3] 26))) := (HBZ.out.trans hb3).trans hA3
        have H73 : Hid (Calls Try.prog 73 #[.pointer (some ⟨z, 0, none⟩), .slice ao n c] (w3.alloc (.cells #[.slice m3.a1 12 m3.c1, .slice m3.a2 12 m3.c2, .slice m3.a3 12 m3.c3] 26)) fun e w' => ∃ ao' cap, e = .returned (.slice ao' (4 * n + 4) cap) ∧ SBuf (fun x => (w3.alloc (.cells #[.slice m3.a1 12 m3.c1, .slice m3.a2 12 m3.c2, .slice m3.a3 12 m3.c3] 26)).heap.size ≤ x ∧ x < w'.heap.size) w' (.slice ao' (4 * n + 4) cap) (4 * n + 4) (deedSp n (pl f) g (vs M f)) ∧ Blw (w3.alloc (.cells #[.slice m3.a1 12 m3.c1, .slice m3.a2 12 m3.c2, .slice m3.a3 12 m3.c3] 26)) w') := deedOf_any z (HS.of M) ao n c f g Y2 (w3.alloc (.cells #[.slice m3.a1 12 m3.c1, .slice m3.a2 12 m3.c2, .slice m3.a3 12 m3.c3] 26)) hn3 (fun k hk => pl_place HP.out hk) HR.out (HU.out.blw HBZ.out)
        clear own3 hb3 hA3
        go_wp2_with fail
        refine H73.out.mono ?_
        clear H73
        rintro e w5 ⟨a5, c5, rfl, SB, hb5⟩
        obtain ⟨a5', c5', e5, F, Y3, hy3, hG, hnone, hst, hne⟩ := SB.form
        cases e5
        obtain ⟨bs, hbs, rfl⟩ := hne (by omega)
        have zb5 := hb5.size
        rw [hs3] at zb5
        have hbs' : w3.heap.size + 1 ≤ bs ∧ bs < w5.heap.size := by rw [hs3] at hbs; exact hbs
        have hy3' : ∀ b, Y3 b → w3.heap.size + 1 ≤ b ∧ b < w5.heap.size := fun b hb => by have h9 := hy3 b hb; rw [hs3] at h9; exact h9
        have hz3 : z < w3.heap.size := by omega
        have HC : Hid (∀ wr, Mod (fun b => b = z ∨ (z < b ∧ b < w3.heap.size + 1) ∨ w5.heap.size ≤ b) w5 wr → (∀ j, j < 4 * n + 4 → wr.cell? ⟨bs, j, none⟩ = some (F j)) ∧ (∀ i, i < 4 * n + 4 → StepAt Y3 wr (F i) (deedSp n (pl f) g (vs M f) i)) ∧ Blw w wr) := fun wr hm => by
          have hY : ∀ b, Y3 b → ¬ (b = z ∨ (z < b ∧ b < w3.heap.size + 1) ∨ w5.heap.size ≤ b) := fun b hb => by have := hy3' b hb; omega
          refine ⟨fun j hj => ?_, fun i hi => (hst i hi).mod hm hY, Mod.blw (HBZ.out.trans hb5) hm (fun i hi => by have := HBZ.out.size; omega)⟩
          have h9 := hG _ rfl j hj
          rw [Addr.add_mid, Nat.zero_add] at h9
          exact hm.cell h9 (by show ¬ (bs = z ∨ (z < bs ∧ bs < w3.heap.size + 1) ∨ w5.heap.size ≤ bs); omega)
        have HY3 : Hid (∀ b, Y3 b → w3.heap.size + 1 ≤ b ∧ b < w5.heap.size) := hy3'
        have OKS : Hid (∀ i, i < 4 * n + 4 → (deedSp n (pl f) g (vs M f) i).ok) := fun i hi => deed_ok hn3 (fun k hk => (pl_place HP.out hk).1) (fun k hk => (HP.out.2 k hk).2.1) (fun k hk => word_ok (good_of GD.out) (by have := (pl_place HP.out hk).1; omega)) hi
        replace HR : Hid (Row w5 z 108 (hcell (DS M n f g 0).s (DS M n f g 0).c (DS M n f g 0).d)) := HR.out.blw hb5
        have HMM : Hid (MM (w3.heap.size + 1) w5.heap.size z w5 w5 (.slice (some ⟨w3.heap.size, 0, none⟩) 1 1) 1 (fun i => (DS M n f g i).md)) := ⟨Mod.refl _ _, _, HB1.out.blw hb5, fun x hx => Or.inl hx⟩
        clear SB hG hnone hst hne hb5 hy3 hy3' hbs HB1 hs3
        have hN : ∃ NN, NN = 4 * n + 4 := ⟨_, rfl⟩
        obtain ⟨NN, hN⟩ := hN
        rw [← hN] at HC OKS ⊢
        have HNN : Hid (NN = 4 * n + 4) := hN
        have hN16 : NN ≤ 16 := by omega
        clear hN
        have hw2 : ∃ lo, lo = w3.heap.size + 1 := ⟨_, rfl⟩
        obtain ⟨lo, hlo⟩ := hw2
        rw [← hlo] at HC HY3 HMM hbs' zb5
        have hzlo : z < lo := by omega
        clear hlo
        go_wp2_with fail
        go_loopw [8, 32] (fun v i wr => ∃ k : Nat, k ≤ NN ∧ i = .int .i64 k ∧ Row wr z 108 (hcell (DS M n f g k).s (DS M n f g k).c (DS M n f g k).d) ∧ MM lo w5.heap.size z w5 wr v (k + 1) (fun i => (DS M n f g i).md)) (fun _ i _ => NN - (intOf i).toNat)
        case atStart => exact ⟨0, by omega, rfl, HR.out, HMM.out⟩
        case round =>
          obtain ⟨k, hk, rfl, r, hmm⟩ := hrel
          clear HR HMM
          have HR : Hid (Row wr z 108 (hcell (DS M n f g k).s (DS M n f g k).c (DS M n f g k).d)) := r
          have HM : Hid (MM lo w5.heap.size z w5 wr _ (k + 1) (fun i => (DS M n f g i).md)) := hmm
          clear r hmm
          by_cases hlt : k < NN
          · have hlt' : (k : Int) < NN := by omega
            obtain ⟨hcell', hstep, -⟩ := HC.out _ HM.out.mod
            have q0 := hcell' k hlt
            have hA : Blw wr (wr.alloc (.cells #[F k] 102)) := (Blw.refl _).alloc _
            have hS := StepAt.kinds (StepAt.mod (hstep k hlt) (hA.mod (fun _ => False)) (fun _ _ => id)) (OKS.out k hlt)
            have HR2 : Hid (Row (wr.alloc (.cells #[F k] 102)) z 108 (hcell (DS M n f g k).s (DS M n f g k).c (DS M n f g k).d)) := HR.out.blw hA
            have KEEP : Hid (∀ w8, Mod (fun b => b = z) (wr.alloc (.cells #[F k] 102)) w8 → MM lo w5.heap.size z w5 w8 _ (k + 1) (fun i => (DS M n f g i).md)) := fun w8 hm8 => by
              obtain ⟨X, hb, hX⟩ := HM.out.buf
              have z8 := hm8.size
              simp only [World.size_alloc] at z8
              exact ⟨(HM.out.mod.trans (hA.mod _)).trans (hm8.mono (fun b hb => Or.inl hb)), X, (hb.blw hA).mod hm8 (fun b hb => by have := hX b hb; omega), fun x hx => by have := hX x hx; omega⟩
            have HRS : Hid (DS M n f g (k + 1) = (deedSp n (pl f) g (vs M f) k).run (DS M n f g k)) := rfl
            clear hcell' hstep hA
            rcases hS with ⟨bw, ba, e1, C⟩ | ⟨ba, e1, C⟩
            · rw [e1] at q0 C HR2 KEEP
              have HCC : Hid _ := C
              clear C
              go_wp2_with (first | (go_at_call 120; refine (HCC.out z _ (fun b hb => by have := HY3.out b hb; omega) HR2.out).mono ?_; rintro e w8 ⟨⟨v8, rfl⟩, r8, hm8⟩; rw [← HRS.out] at r8; have HR8 : Hid (Row w8 z 108 (hcell (DS M n f g (k + 1)).s (DS M n f g (k + 1)).c (DS M n f g (k + 1)).d)) := r8; have HM8 : Hid (MM lo w5.heap.size z w5 w8 _ (k + 1) (fun i => (DS M n f g i).md)) := KEEP.out _ hm8; clear r8 hm8) | fail)
              clear q0 HCC HR2 KEEP HR HM
              refine (giveOut_any _ _ _ _ _ HR8.out).mono ?_
              rintro e w9 ⟨m9, rfl, own, hb9⟩
              simp only [MV.val, MD.full]
              obtain ⟨X, hMB, hX⟩ := HM8.out.buf
              have hA9 : Blw w9 (w9.alloc (.cells #[.slice m9.a1 12 m9.c1, .slice m9.a2 12 m9.c2, .slice m9.a3 12 m9.c3] 26)) := (Blw.refl _).alloc _
              have z8 := HM8.out.mod.size
              have z9 := hb9.size
              obtain ⟨ao', cap', w10, hrun, hB10, hm10, -⟩ := MBuf.append (M' := (fun i => (DS M n f g i).md)) (Zn := fun b => w8.heap.size ≤ b ∧ b < w9.heap.size) (hMB.blw (hb9.trans hA9)) (g := w9.heap.size) 1 (m := m9) (box3 w9 _ _ _ 26) (own.blw hA9) (fun x hx => ⟨fun h => by have := hX x h; omega, by simp only [World.size_alloc]; omega⟩) (fun x hx => by have := hX x hx; simp only [World.size_alloc]; omega) (fun i hi => rfl) (by omega) 48
              have z10 := hm10.size
              simp only [World.size_alloc] at z10
              have HN : Hid (Row w10 z 108 (hcell (DS M n f g (k + 1)).s (DS M n f g (k + 1)).c (DS M n f g (k + 1)).d) ∧ MM lo w5.heap.size z w5 w10 (.slice ao' (k + 1 + 1) cap') (k + 1 + 1) (fun i => (DS M n f g i).md)) := by
                refine ⟨((HR8.out.blw hb9).blw hA9).mod hm10 (fun h => by have := hX _ h; omega), ?_, _, hB10, fun x hx => ?_⟩
                · exact (HM8.out.mod.trans ((hb9.trans hA9).mod _)).trans (hm10.mono (fun b hb => by have := hX b hb; omega))
                · have hx2 := hx.2
                  rcases hx.1 with h | h | h
                  · have := hX x h; omega
                  · omega
                  · simp only [World.size_alloc] at h; omega
              have HRN : Hid _ := hrun
              clear hrun hB10 hm10 hMB hX own hb9 hA9 z8 z9 z10 HM8 HR8
              go_wp2_with (first | (at_builtin; refine wpList_append_run rfl (.tmp 39) (.tmp 41) 48 rfl _ _ rfl rfl HRN.out ?_) | go_in)
              go_roundw
              case rel => exact ⟨k + 1, by omega, by go_num, HN.out.1, HN.out.2⟩
              case measure => simp [intOf]; omega
            · rw [e1] at q0 C HR2 KEEP
              have HCC : Hid _ := C
              clear C
              go_wp2_with (first | (go_at_call 122; refine (HCC.out z _ (fun b hb => by have := HY3.out b hb; omega) HR2.out).mono ?_; rintro e w8 ⟨⟨v8, rfl⟩, r8, hm8⟩; rw [← HRS.out] at r8; have HR8 : Hid (Row w8 z 108 (hcell (DS M n f g (k + 1)).s (DS M n f g (k + 1)).c (DS M n f g (k + 1)).d)) := r8; have HM8 : Hid (MM lo w5.heap.size z w5 w8 _ (k + 1) (fun i => (DS M n f g i).md)) := KEEP.out _ hm8; clear r8 hm8) | fail)
              clear q0 HCC HR2 KEEP HR HM
              refine (giveOut_any _ _ _ _ _ HR8.out).mono ?_
              rintro e w9 ⟨m9, rfl, own, hb9⟩
              simp only [MV.val, MD.full]
              obtain ⟨X, hMB, hX⟩ := HM8.out.buf
              have hA9 : Blw w9 (w9.alloc (.cells #[.slice m9.a1 12 m9.c1, .slice m9.a2 12 m9.c2, .slice m9.a3 12 m9.c3] 26)) := (Blw.refl _).alloc _
              have z8 := HM8.out.mod.size
              have z9 := hb9.size
              obtain ⟨ao', cap', w10, hrun, hB10, hm10, -⟩ := MBuf.append (M' := (fun i => (DS M n f g i).md)) (Zn := fun b => w8.heap.size ≤ b ∧ b < w9.heap.size) (hMB.blw (hb9.trans hA9)) (g := w9.heap.size) 1 (m := m9) (box3 w9 _ _ _ 26) (own.blw hA9) (fun x hx => ⟨fun h => by have := hX x h; omega, by simp only [World.size_alloc]; omega⟩) (fun x hx => by have := hX x hx; simp only [World.size_alloc]; omega) (fun i hi => rfl) (by omega) 48
              have z10 := hm10.size
              simp only [World.size_alloc] at z10
              have HN : Hid (Row w10 z 108 (hcell (DS M n f g (k + 1)).s (DS M n f g (k + 1)).c (DS M n f g (k + 1)).d) ∧ MM lo w5.heap.size z w5 w10 (.slice ao' (k + 1 + 1) cap') (k + 1 + 1) (fun i => (DS M n f g i).md)) := by
                refine ⟨((HR8.out.blw hb9).blw hA9).mod hm10 (fun h => by have := hX _ h; omega), ?_, _, hB10, fun x hx => ?_⟩
                · exact (HM8.out.mod.trans ((hb9.trans hA9).mod _)).trans (hm10.mono (fun b hb => by have := hX b hb; omega))
                · have hx2 := hx.2
                  rcases hx.1 with h | h | h
                  · have := hX x h; omega
                  · omega
                  · simp only [World.size_alloc] at h; omega
              have HRN : Hid _ := hrun
              clear hrun hB10 hm10 hMB hX own hb9 hA9 z8 z9 z10 HM8 HR8
              go_wp2_with (first | (at_builtin; refine wpList_append_run rfl (.tmp 39) (.tmp 41) 48 rfl _ _ rfl rfl HRN.out ?_) | go_in)
              go_roundw
              case rel => exact ⟨k + 1, by omega, by go_num, HN.out.1, HN.out.2⟩
              case measure => simp [intOf]; omega
          · obtain rfl : k = NN := by omega
            have hlt' : ¬ (k : Int) < k := by omega
            obtain ⟨-, -, hbw⟩ := HC.out _ HM.out.mod
            obtain ⟨X, hb, hX⟩ := HM.out.buf
            obtain ⟨ao', cap', rfl, own⟩ := hb.form (by omega)
            have e5 : k + 1 = 4 * n + 5 := by have := HNN.out; omega
            have HO : Hid (MemsOwn (fun x => w.heap.size ≤ x ∧ x < wr.heap.size) wr ao' (4 * n + 5) (fun i => (DS M n f g i).md)) := by
              rw [e5] at own
              exact own.mono (fun x hx => by have := hX x hx; have := HM.out.mod.size; omega)
            have HBW : Hid (Blw w wr) := hbw
            rw [e5]
            clear hb hX own HM HC hbw e5
            go_wp2
            go_ret2
            exact ⟨ao', 4 * n + 5, cap', _, true, rfl, Or.inl ⟨⟨GD.out, H0.out, HP.out⟩, rfl, fun i hi => rfl, rfl⟩, HO.out, HBW.out⟩
    · have d1 : ((HS.of M).w 24 != 0) = true := by simp [h0]
      have N0 : Hid (¬ (HS.of M).w 24 = 0) := h0
      clear HR h0
      go_wp2
      go_ret2
      exact ⟨none, 0, 0, fun _ => MZ, false, rfl, Or.inr ⟨fun g => N0.out g.2.1, rfl, rfl⟩, MemsOwn.nil _ _ _ _, HBZ.out⟩
  · have NG : Hid (¬ M.Good) := bad
    clear bad
    go_wp2_with (first | (refine wpList_store_row rfl 91 (.tmp 6) (.tmp 14) rfl w1.heap.size 0 Try.zeroCells91 rfl rfl 108 _ (hcell zeros zeros (fun _ => false)) r79 (by rw [size79]; omega) (by rw [size79]; exact info79) one79 cell79 ?_; intro wz qz1 qz2 qz3; have hz := held_facts' hb1 qz1 qz2 size79; obtain ⟨rH, hbz⟩ := hz; clear qz1 qz2 qz3 rH) | fail)
    go_ret2
    exact ⟨none, 0, 0, fun _ => MZ, false, rfl, Or.inr ⟨fun g => NG.out g.1, rfl, rfl⟩, MemsOwn.nil _ _ _ _, hbz⟩
end Go.Proofs.Ytglllnklcnlcjaa
/- The program's DoDeed and FailDeed. -/
namespace Go.Proofs.Ytglllnklcnlcjaa
open Go.RowKit
set_option linter.unusedSimpArgs false
set_option linter.unusedVariables false
theorem dsOut_false {M : MD} {n : Nat} {f g : Nat → Int} {N : Nat} {R : Nat → MD} (h : dsOut M n f g N R false) : ¬ (M.Good ∧ (HS.of M).w 24 = 0 ∧ goodP n f g) ∧ N = 0 := by
  rcases h with ⟨_, _, _, h⟩ | ⟨h, e, _⟩
  · cases h
  · exact ⟨h, e⟩
theorem dsOut_true {M : MD} {n : Nat} {f g : Nat → Int} {N : Nat} {R : Nat → MD} (h : dsOut M n f g N R true) : (M.Good ∧ (HS.of M).w 24 = 0 ∧ goodP n f g) ∧ N = 4 * n + 5 ∧ ∀ i, i < N → R i = (DS M n f g i).md := by
  rcases h with ⟨h, e, r, _⟩ | ⟨_, _, h⟩
  · exact ⟨h, e, r⟩
  · cases h
set_option maxHeartbeats 3200000 in
theorem implDo_any (m : MV) (M : MD) (ao : Option Addr) (n c : Nat) (f g : Nat → Int) (Y Y2 : Nat → Prop) (w : World) (h : MemAt Y w m M) (hu : UndosAt Y2 w ao n f g) :
    Calls Try.prog 15 #[m.val M, .slice ao n c] w (Gives (ddOut M n f g) w) := by
  go_enter Try.func15, Try.ntmps15
  go_wp2_with fail
  have hb0 : Blw w ((w.alloc (.cells #[.slice m.a1 M.n1 m.c1, .slice m.a2 M.n2 m.c2, .slice m.a3 M.n3 m.c3] 26)).alloc (.cells #[.slice none 0 0, .slice none 0 0, .slice none 0 0] 26)) := ((Blw.refl _).alloc _).alloc _
  have rR := res_row w (.slice m.a1 M.n1 m.c1) (.slice m.a2 M.n2 m.c2) (.slice m.a3 M.n3 m.c3)
  refine (implSteps_any m M ao n c f g Y Y2 _ (h.blw hb0) (hu.blw hb0)).mono ?_
  rintro e w1 ⟨a1, n1, c1, R, b, rfl, ho, own, hb1⟩
  have HO : Hid (dsOut M n f g n1 R b) := ho
  have zz := hb1.size
  simp only [World.size_alloc] at zz own
  replace rR := rR.blw hb1
  replace hb1 := hb0.trans hb1
  clear hb0 ho h hu
  cases b
  · obtain ⟨⟨x0, x1, x2⟩, f0, f1, f2⟩ := res6 rR
    clear rR own
    go_wp2
    exact bodyPost_ret (v := .tuple #[.agg #[.slice none 0 0, .slice none 0 0, .slice none 0 0], .bool false]) (by simp [results, Try.results15, go_sem, x0, x1, x2]) rfl (zero_gives (Or.inr ⟨(dsOut_false HO.out).1, rfl, rfl⟩) hb1)
  · have HT : Hid _ := dsOut_true HO.out
    have hn3 := HT.out.1.2.2.1.2
    have rlt := rR.lt
    obtain ⟨j, hj⟩ : ∃ j, j = 4 * n + 4 := ⟨_, rfl⟩
    have hn1 : n1 = j + 1 := by have := HT.out.2.1; omega
    have hj16 : j ≤ 16 := by omega
    subst hn1
    obtain ⟨b2, mv, Z, xb, rfl, r2, hI⟩ := own.2 (by omega)
    obtain ⟨q0, q1, q2⟩ := mems_get r2 (i := j) (by omega)
    have hR : R j = (DS M n f g j).md := HT.out.2.2 j (by omega)
    rw [hR] at q0 q1 q2
    change _ = some (Value.slice (mv j).a1 12 (mv j).c1) at q0
    change _ = some (Value.slice (mv j).a2 12 (mv j).c2) at q1
    change _ = some (Value.slice (mv j).a3 12 (mv j).c3) at q2
    obtain ⟨⟨x0, x1, x2⟩, f0, f1, f2⟩ := res6 rR
    have HA : Hid (MemOwn (Z j) w1 (mv j) (DS M n f g j).md) := by have h9 := hI.own j (by omega); rw [hR] at h9; exact h9
    have HS2 : Hid (∀ x, Z j x → (w.heap.size + 1 + 1 ≤ x ∧ x < w1.heap.size) ∧ x ≠ b2) := hI.sub j (by omega)
    have HJ : Hid (j = 4 * n + 4) := hj
    have hj3 : (j : Int) < (j : Int) + 1 := by omega
    clear own r2 hI rR xb hR hj HO
    go_wp2
    exact bodyPost_ret (v := .tuple #[.agg #[.slice (mv j).a1 12 (mv j).c1, .slice (mv j).a2 12 (mv j).c2, .slice (mv j).a3 12 (mv j).c3], .bool true]) (by simp [results, Try.results15, go_sem, x0, x1, x2]) rfl (some_gives (Or.inl ⟨HT.out.1, by rw [HJ.out], rfl⟩) hb1 HA.out (fun b hb => by have := (HS2.out b hb).1; exact ⟨by omega, by omega⟩) rfl)
set_option maxRecDepth 10000 in
set_option maxHeartbeats 6400000 in
theorem implFailDeed_any (m : MV) (M : MD) (ao : Option Addr) (n c : Nat) (f g : Nat → Int) (k : Int) (az : Option Addr) (ns cs : Nat) (fs : Nat → Int) (Y Y2 Y3 : Nat → Prop) (w : World) (h : MemAt Y w m M) (hu : UndosAt Y2 w ao n f g) (hs : IntsAt Y3 w az ns fs) :
    Calls Try.prog 13 #[m.val M, .slice ao n c, .int .i64 k, .slice az ns cs] w (Gives (fdOut M n f g k ns fs) w) := by
  go_enter Try.func13, Try.ntmps13
  go_wp2_with fail
  have hb0 : Blw w ((w.alloc (.cells #[.slice m.a1 M.n1 m.c1, .slice m.a2 M.n2 m.c2, .slice m.a3 M.n3 m.c3] 26)).alloc (.cells #[.slice none 0 0, .slice none 0 0, .slice none 0 0] 26)) := ((Blw.refl _).alloc _).alloc _
  have rR := res_row w (.slice m.a1 M.n1 m.c1) (.slice m.a2 M.n2 m.c2) (.slice m.a3 M.n3 m.c3)
  refine (implSteps_any m M ao n c f g Y Y2 _ (h.blw hb0) (hu.blw hb0)).mono ?_
  rintro e w1 ⟨a1, n1, c1, R, b, rfl, ho, own, hb1⟩
  have HO : Hid (dsOut M n f g n1 R b) := ho
  have zz := hb1.size
  simp only [World.size_alloc] at zz own
  replace rR := rR.blw hb1
  replace hb1 := hb0.trans hb1
  have HS : Hid (IntsAt Y3 w1 az ns fs) := hs.blw hb1
  clear hb0 ho h hu hs
  cases b
  · obtain ⟨⟨x0, x1, x2⟩, f0, f1, f2⟩ := res6 rR
    clear rR own
    go_wp2
    exact bodyPost_ret (v := .tuple #[.agg #[.slice none 0 0, .slice none 0 0, .slice none 0 0], .bool false]) (by simp [results, Try.results13, go_sem, x0, x1, x2]) rfl (zero_gives (Or.inr ⟨fun g => (dsOut_false HO.out).1 g.1, rfl, rfl⟩) hb1)
  · have HT : Hid _ := dsOut_true HO.out
    have hn3 := HT.out.1.2.2.1.2
    have rlt := rR.lt
    have HN : Hid (n1 = 4 * n + 5) := HT.out.2.1
    have hn17 : n1 ≤ 17 := by have := HT.out.2.1; omega
    by_cases hk : 0 ≤ k ∧ k < n1
    · obtain ⟨i, rfl⟩ := Int.eq_ofNat_of_zero_le hk.1
      have hi : i < n1 := by omega
      obtain ⟨b2, mv, Z, xb, rfl, r2, hI⟩ := own.2 (by omega)
      obtain ⟨q0, q1, q2⟩ := mems_get r2 (i := i) hi
      have hR : R i = (DS M n f g i).md := HT.out.2.2 i hi
      rw [hR] at q0 q1 q2
      change _ = some (Value.slice (mv i).a1 12 (mv i).c1) at q0
      change _ = some (Value.slice (mv i).a2 12 (mv i).c2) at q1
      change _ = some (Value.slice (mv i).a3 12 (mv i).c3) at q2
      have HA : Hid (MemAt (Z i) w1 (mv i) (DS M n f g i).md) := by have h9 := (hI.own i hi).at; rw [hR] at h9; exact h9
      have hi2 : (i : Int) < n1 := by omega
      have d0 : decide ((i : Int) < 0) = false := by simp
      have d1 : decide ((i : Int) ≥ (n1 : Int)) = false := by simp only [decide_eq_false_iff_not]; omega
      have HRR : Hid (Row w1 (w.heap.size + 1) 3 (fun _ => .slice none 0 0)) := rR
      have HI : Hid (i < 4 * n + 5) := by have := HN.out; show _ < _; omega
      have HGd : Hid ((DS M n f g i).md.Good) := DS_good HT.out.1.1 HT.out.1.2.2 (by have := HI.out; omega)
      clear own r2 hI xb rR hk hR HO
      go_wp2_with fail
      clear q0 q1 q2
      refine (implFail_any (mv i) (DS M n f g i).md _ Y3 _ az ns cs fs HA.out HS.out).mono ?_
      rintro e w3 ⟨m3, R3, b3, rfl, ho3, own3, hb3⟩
      replace HRR : Hid (Row w3 (w.heap.size + 1) 3 (fun _ => .slice none 0 0)) := HRR.out.blw hb3
      replace hb3 := hb1.trans hb3
      have HO3 : Hid (fwOut (DS M n f g i).md ns fs R3 b3) := ho3
      clear hb1 ho3 HA d0 d1
      have hA3 : Blw w3 (w3.alloc (.cells #[.slice m3.a1 R3.n1 m3.c1, .slice m3.a2 R3.n2 m3.c2, .slice m3.a3 R3.n3 m3.c3] 26)) := (Blw.refl _).alloc _
      have bx3 := box3 w3 (.slice m3.a1 R3.n1 m3.c1) (.slice m3.a2 R3.n2 m3.c2) (.slice m3.a3 R3.n3 m3.c3) 26
      replace HRR : Hid (Row (w3.alloc (.cells #[.slice m3.a1 R3.n1 m3.c1, .slice m3.a2 R3.n2 m3.c2, .slice m3.a3 R3.n3 m3.c3] 26)) (w.heap.size + 1) 3 (fun _ => .slice none 0 0)) := HRR.out.blw hA3
      have HB3 : Hid (Blw w (w3.alloc (.cells #[.slice m3.a1 R3.n1 m3.c1, .slice m3.a2 R3.n2 m3.c2, .slice m3.a3 R3.n3 m3.c3] 26))) := hb3.trans hA3
      have HA3 : Hid (MemAt _ (w3.alloc (.cells #[.slice m3.a1 R3.n1 m3.c1, .slice m3.a2 R3.n2 m3.c2, .slice m3.a3 R3.n3 m3.c3] 26)) m3 R3) := (own3.blw hA3).at
      obtain ⟨p0, p1, p2⟩ := get3 bx3
      clear own3 hA3 bx3 hb3
      cases b3
      · obtain ⟨⟨x0, x1, x2⟩, f0, f1, f2⟩ := res6 HRR.out
        have NR : Hid (¬ rising ns fs) := fun g => by
          rcases HO3.out with ⟨_, _, _, h9⟩ | ⟨h9, _⟩
          · cases h9
          · exact h9 ⟨HGd.out, g⟩
        clear HRR HA3 p0 p1 p2
        go_wp2
        exact bodyPost_ret (v := .tuple #[.agg #[.slice none 0 0, .slice none 0 0, .slice none 0 0], .bool false]) (by simp [results, Try.results13, go_sem, x0, x1, x2]) rfl (zero_gives (Or.inr ⟨fun g => NR.out g.2.1, rfl, rfl⟩) HB3.out)
      · have HR3 : Hid (rising ns fs ∧ R3 = fdM M n f g i ns fs) := by
          rcases HO3.out with ⟨_, h1, h2, _⟩ | ⟨_, _, h9⟩
          · exact ⟨h1, h2⟩
          · cases h9
        go_wp2_with fail
        clear p0 p1 p2
        refine (implRecover_any m3 R3 _ _ HA3.out).mono ?_
        rintro e w4 ⟨m4, R4, b4, rfl, ho4, own4, hb4⟩
        have zz4 := hb4.size
        simp only [World.size_alloc] at zz4 own4
        have HO4 : Hid (fdOut M n f g i ns fs R4 b4) := Or.inl ⟨HT.out.1, HR3.out.1, i, rfl, HI.out, by rw [← HR3.out.2]; exact ho4⟩
        have r4 := HRR.out.blw hb4
        have rl4 := HB3.out.size
        simp only [World.size_alloc] at rl4
        obtain ⟨⟨x0, x1, x2⟩, f0, f1, f2⟩ := res6 r4
        have HB4 : Hid (Blw w w4) := HB3.out.trans hb4
        have HOW : Hid (MemOwn _ w4 m4 R4) := own4
        have rlt3 := HRR.out.lt
        simp only [World.size_alloc] at rlt3
        have HLT : Hid (w.heap.size + 1 < w3.heap.size + 1) := rlt3
        clear r4 HRR ho4 own4 hb4 HB3 rlt3
        go_wp2
        exact bodyPost_ret (v := .tuple #[.agg #[.slice m4.a1 R4.n1 m4.c1, .slice m4.a2 R4.n2 m4.c2, .slice m4.a3 R4.n3 m4.c3], .bool b4]) (by simp [results, Try.results13, go_sem, x0, x1, x2]) rfl ⟨m4, R4, b4, rfl, HO4.out, own_out HOW.out (fun b hb => by have := hb.1; have := hb.2; have := HLT.out; exact ⟨by omega, by omega⟩) (mod_set3 w4 _ _ _ _) (by omega), Mod.blw HB4.out (mod_set3 w4 _ _ _ _) (fun i hi => by omega)⟩
    · obtain ⟨⟨x0, x1, x2⟩, f0, f1, f2⟩ := res6 rR
      have NK : Hid (¬ (0 ≤ k ∧ k < 4 * n + 5)) := fun g => hk (by have := HN.out; omega)
      clear rR own
      by_cases h0 : k < 0
      · clear hk
        go_wp2
        exact bodyPost_ret (v := .tuple #[.agg #[.slice none 0 0, .slice none 0 0, .slice none 0 0], .bool false]) (by simp [results, Try.results13, go_sem, x0, x1, x2]) rfl (zero_gives (Or.inr ⟨fun g => NK.out g.2.2, rfl, rfl⟩) hb1)
      · have d0 : decide (k < 0) = false := by simp only [decide_eq_false_iff_not]; omega
        have d1 : decide (k ≥ (n1 : Int)) = true := by simp only [decide_eq_true_eq]; omega
        clear hk
        go_wp2
        exact bodyPost_ret (v := .tuple #[.agg #[.slice none 0 0, .slice none 0 0, .slice none 0 0], .bool false]) (by simp [results, Try.results13, go_sem, x0, x1, x2]) rfl (zero_gives (Or.inr ⟨fun g => NK.out g.2.2, rfl, rfl⟩) hb1)
end Go.Proofs.Ytglllnklcnlcjaa
