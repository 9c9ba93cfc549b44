/- Slices of numbers: what the laws' and the model's small functions on them answer. -/
import Derived.Test.YtkmkidahaagbpaaBase
import Derived.Laws.CopyOwn
import Derived.Deep.CutRange
import Derived.Deep.RegionHeld3
namespace Go.Proofs.Ytkmkidahaagbpaa
open Go.RowKit
theorem ret_int {kd : IntKind} {a b : Int} (h : a = b) : Ending.returned (.int kd a) = .returned (.int kd b) := by rw [h]
theorem ints_step {X : Nat → Prop} {w wr : World} {ao : Option Addr} {n j b : Nat} {f : Nat → Int} {k : Int} (hj : j < n) (hx : X b) (e : ao = some ⟨b, 0, none⟩) (hn : n ≤ 9223372036854775807)
    (hr : Row wr b n (fun t => .int .i64 (if t < j then k + t else f t))) (hm : Mod (fun b => X b ∧ 0 < n) w wr) :
    IntsOwn X (wr.setCell ⟨b, j, none⟩ (.int .i64 (k + j))) ao n (fun t => if t < j + 1 then k + t else f t) ∧ Mod (fun b => X b ∧ 0 < n) w (wr.setCell ⟨b, j, none⟩ (.int .i64 (k + j))) := by
  refine ⟨⟨hn, fun _ => ⟨b, hx, e, (hr.set j _).congr fun i hi => ?_⟩⟩, hm.trans (Mod.setCell _ ⟨hx, by omega⟩ _)⟩
  by_cases h1 : i = j
  · subst h1; simp
  · by_cases h2 : i < j
    · simp [h1, h2, Nat.lt_succ_of_lt h2]
    · have h3 : ¬ i < j + 1 := by omega
      simp [h1, h2, h3]
set_option maxHeartbeats 400000 in
theorem markIntS_any (ao : Option Addr) (c n : Nat) (f : Nat → Int) (X : Nat → Prop) (k : Int) (w : World) (hk0 : 0 ≤ k) (hk : k + n ≤ 9223372036854775807) (h : IntsOwn X w ao n f) :
    Calls Try.prog 41 #[.slice ao n c, .int .i64 k] w fun e w' => e = .returned (.int .i64 (k + n)) ∧ IntsOwn X w' ao n (fun i => k + i) ∧ Mod (fun b => X b ∧ 0 < n) w w' := by
  have hn := h.1
  go_enter Try.func41, Try.ntmps41
  go_wp2
  go_loopw [1, 5] (fun kk i wr => ∃ j : Nat, j ≤ n ∧ i = .int .i64 j ∧ kk = .int .i64 (k + j) ∧ IntsOwn X wr ao n (fun t => if t < j then k + t else f t) ∧ Mod (fun b => X b ∧ 0 < n) w wr) (fun _ i _ => n - (intOf i).toNat)
  case atStart => exact ⟨0, Nat.zero_le _, rfl, by simp, by simpa using h, Mod.refl _ _⟩
  case round =>
    obtain ⟨j, hj, rfl, rfl, ho, hm⟩ := hrel
    by_cases hlt : j < n
    · obtain ⟨b, hx, e, hr⟩ := ho.2 (by omega)
      have st := ints_step hlt hx e hn hr hm
      have g1 : wr.cell? ⟨b, j, none⟩ = some (.int .i64 (f j)) := by simpa using hr.cell hlt
      have g2 := hr.frozen j
      subst e
      clear h ho hr hm
      go_wp2
      go_roundw
      case rel => exact ⟨j + 1, by omega, by go_num, by go_num, st.1, st.2⟩
      case measure => simp [intOf]; omega
    · go_wp2
      go_ret
      obtain rfl : j = n := by omega
      refine ⟨rfl, ?_, hm⟩
      refine ⟨hn, fun h0 => ?_⟩
      obtain ⟨b, hx, e, hr⟩ := ho.2 h0
      exact ⟨b, hx, e, hr.congr fun i hi => by simp [hi]⟩
set_option maxHeartbeats 400000 in
theorem heldIntS_any (ao : Option Addr) (c n : Nat) (Y : Nat → Prop) (k : Int) (w : World) (hk0 : 0 ≤ k) (hk : k + n ≤ 9223372036854775807) (h : IntsAt Y w ao n (fun i => k + i)) :
    Calls Try.prog 42 #[.slice ao n c, .int .i64 k] w fun e w' => e = .returned (.int .i64 (k + n)) ∧ Blw w w' := by
  obtain ⟨hn, h⟩ := h
  go_enter Try.func42, Try.ntmps42
  go_wp2
  go_loopw [1, 5] (fun kk i wr => ∃ j : Nat, j ≤ n ∧ i = .int .i64 j ∧ kk = .int .i64 (k + j) ∧ Blw w wr) (fun _ i _ => n - (intOf i).toNat)
  case atStart => exact ⟨0, Nat.zero_le _, rfl, by simp, Blw.refl _⟩
  case round =>
    obtain ⟨j, hj, rfl, rfl, hb⟩ := hrel
    by_cases hlt : j < n
    · obtain ⟨b, o, rfl, -, g1⟩ := h j hlt
      replace g1 := hb.cell g1
      clear h
      go_wp2
      go_roundw
      case rel => exact ⟨j + 1, by omega, by go_num, by go_num, hb⟩
      case measure => simp [intOf]; omega
    · go_wp2
      go_ret
      obtain rfl : j = n := by omega
      exact ⟨rfl, hb⟩
set_option maxHeartbeats 400000 in
theorem eqIntS_same (a1 a2 : Option Addr) (c1 c2 : Nat) (n0 : Nat) (f : Nat → Int) {Y Z : Nat → Prop} (w : World) (h1 : IntsAt Y w a1 n0 f) (h2 : IntsAt Z w a2 n0 f) :
    Calls Try.prog 40 #[.slice a1 n0 c1, .slice a2 n0 c2] w fun e w' => e = .returned (.bool true) ∧ ∃ n, w' = w.drewN n := by
  obtain ⟨hl, h1⟩ := h1
  obtain ⟨-, h2⟩ := h2
  go_enter Try.func40, Try.ntmps40
  go_wp2
  go_loopw [5] (fun i wr => ∃ k n : Nat, k ≤ n0 ∧ i = .int .i64 k ∧ wr = w.drewN n) (fun i _ => n0 - (intOf i).toNat)
  case atStart => exact ⟨0, 0, Nat.zero_le _, rfl, rfl⟩
  case round =>
    obtain ⟨k, n, hk, rfl, rfl⟩ := hrel
    by_cases hlt : k < n0
    · obtain ⟨b, o, rfl, -, g1⟩ := h1 k hlt
      obtain ⟨b', o', rfl, -, g2⟩ := h2 k hlt
      clear h1 h2
      go_wp2
      go_quiet (fail)
      go_wp2
      go_roundw
      case rel => exact ⟨k + 1, _, by omega, by go_num, rfl⟩
      case measure => simp [intOf]; omega
    · go_wp2
      go_ret
      exact ⟨rfl, n, rfl⟩
/-- What a measure answers: below 0, or what is left. -/
def Left (left size r : Int) : Prop := r = -1 ∨ (0 ≤ r ∧ r + size ≤ left)
theorem Row.of_cells {w : World} {b : Nat} {c : Array Value} {t : TypeId} (h : w.heap[b]? = some (.cells c t (0, 0))) (f : Nat → Value) (hf : ∀ i, i < c.size → c[i]? = some (f i)) : Row w b c.size f := ⟨c, t, h, Nat.le_refl _, hf⟩
theorem run_copy_fn {P : Program} (w : World) (dT sT ty elem : TypeId) (b o dLen dCap : Nat) (a : Addr) (sLen sCap m : Nat) (g : Nat → Value) (n : Nat) (f : Nat → Value)
    (hu : P.underlying dT = some (.slice elem)) (hs : (P.info? elem).map (·.size) = some 1) (hm : m = Nat.min sLen dLen)
    (hsrc : ∀ j, j < m → w.cell? (a.add j) = some (g j)) (h1 : ∀ j, j < m → (g j).oneCell' = true) (hrow : Row w b n f) (hfit : o + m ≤ n) :
    ∃ w', (Builtin.copy_ #[dT, sT] ty #[.slice (some ⟨b, o, none⟩) dLen dCap, .slice (some a) sLen sCap]).run P w = .ok (goInt m) w' ∧
      Row w' b n (fun i => if o ≤ i ∧ i < o + m then g (i - o) else f i) ∧ Mod (fun x => x = b) w w' ∧ w'.heap.size = w.heap.size := by
  obtain ⟨cur, t, hb, hn, hc⟩ := hrow
  have hl : ((List.range m).map g).length = m := by simp
  have hrun := run_copy_row (P := P) w dT sT ty elem b o dLen dCap a sLen sCap cur t ((List.range m).map g) hu hs hb (by rw [hl]; exact hm)
    (fun j v hv => by
      have hj : j < m := by
        have := (List.getElem?_eq_some_iff.1 hv).1
        omega
      rw [hsrc j hj]
      simpa [hj] using hv) (by rw [hl]; omega) (fun v hv => by
      obtain ⟨j, hj, rfl⟩ := List.mem_map.1 hv
      exact h1 j (List.mem_range.1 hj))
  rw [hl] at hrun
  refine ⟨_, hrun, ⟨_, t, setRow_heap w b _ _ t _ hb, ?_, fun i hi => ?_⟩, ⟨rfl, rfl, rfl, by simp [World.setRow], fun k _ hk => setRow_other w b k _ hk⟩, by simp [World.setRow]⟩
  · simp; omega
  · simp only [List.getElem?_toArray]
    have hlen : (cur.toList.take o).length = o := by simp; omega
    by_cases h2 : i < o
    · have h3 : ¬ (o ≤ i ∧ i < o + m) := by omega
      rw [if_neg h3, List.append_assoc, List.getElem?_append_left (by omega), List.getElem?_take, if_pos h2]
      simpa using hc i hi
    · by_cases h3 : i < o + m
      · rw [if_pos ⟨by omega, h3⟩, List.append_assoc, List.getElem?_append_right (by omega), hlen, List.getElem?_append_left (by simp; omega), List.getElem?_map, List.getElem?_range (by omega)]
        rfl
      · rw [if_neg (by omega), List.getElem?_append_right (by simp; omega)]
        simp only [List.length_append, hlen, hl, List.getElem?_drop]
        rw [show o + m + (i - (o + m)) = i by omega]
        simpa using hc i hi
/-- copy as one step of a region that draws its order. -/
theorem step_copy_fn {P : Program} {ops : Array Oper} {o : Oper} {a : Act} {w : World} {K : Act → World → Prop} {Q : Exit → Act → World → Prop} {E : Prop} (hgd : o.guard = none) (d s : Operand) (dT sT : TypeId)
    (ho : o.op = .call { callee := .builtin .copy, args := #[d, s], argTypes := #[dT, sT] }) (elem : TypeId) (hu : P.underlying dT = some (.slice elem)) (hsz : (P.info? elem).map (·.size) = some 1)
    (b off dLen dCap : Nat) (ad : Addr) (sLen sCap : Nat) (hd : a.eval d = .slice (some ⟨b, off, none⟩) dLen dCap) (hs : a.eval s = .slice (some ad) sLen sCap)
    (m : Nat) (g : Nat → Value) (n : Nat) (f : Nat → Value) (hm : m = Nat.min sLen dLen)
    (hsrc : ∀ j, j < m → w.cell? (ad.add j) = some (g j)) (h1 : ∀ j, j < m → (g j).oneCell' = true) (hrow : Row w b n f) (hfit : off + m ≤ n)
    (h : ∀ w', Row w' b n (fun i => if off ≤ i ∧ i < off + m then g (i - off) else f i) → Mod (fun x => x = b) w w' → w'.heap.size = w.heap.size → K (a.put o.dst (goInt m)) w') :
    if Region.wanted o (yielded ops a.tmps) = true then Oper.wp P o a w K Q else E := by
  have hw : Region.wanted o (yielded ops a.tmps) = true := by simp [Region.wanted, hgd]
  rw [if_pos hw]
  obtain ⟨w', hrun, h2, h3, h4⟩ := run_copy_fn (P := P) w dT sT o.type elem b off dLen dCap ad sLen sCap m g n f hu hsz hm hsrc h1 hrow hfit
  unfold Oper.wp
  simp [execOp, ho, resolve, invoke, builtin, hd, hs, hrun, Result.andThen]
  exact h _ h2 h3 h4
/-- copy as a law for a region that does not draw. -/
theorem wpList_copy_fn {P : Program} {w : World} {ops : Array Oper} {rest : List Oper} {o : Oper} {a : Act} {Q : Exit → Act → World → Prop} (hgd : o.guard = none) (d s : Operand) (dT sT : TypeId)
    (ho : o.op = .call { callee := .builtin .copy, args := #[d, s], argTypes := #[dT, sT] }) (elem : TypeId) (hu : P.underlying dT = some (.slice elem)) (hsz : (P.info? elem).map (·.size) = some 1)
    (b off dLen dCap : Nat) (ad : Addr) (sLen sCap : Nat) (hd : a.eval d = .slice (some ⟨b, off, none⟩) dLen dCap) (hs : a.eval s = .slice (some ad) sLen sCap)
    (m : Nat) (g : Nat → Value) (n : Nat) (f : Nat → Value) (hm : m = Nat.min sLen dLen)
    (hsrc : ∀ j, j < m → w.cell? (ad.add j) = some (g j)) (h1 : ∀ j, j < m → (g j).oneCell' = true) (hrow : Row w b n f) (hfit : off + m ≤ n)
    (h : ∀ w', Row w' b n (fun i => if off ≤ i ∧ i < off + m then g (i - off) else f i) → Mod (fun x => x = b) w w' → w'.heap.size = w.heap.size → wpList P ops Q rest (a.put o.dst (goInt m)) w') :
    wpList P ops Q (o :: rest) a w := by
  refine wpList_plain hgd fun K hK => ?_
  obtain ⟨w', hrun, h2, h3, h4⟩ := run_copy_fn (P := P) w dT sT o.type elem b off dLen dCap ad sLen sCap m g n f hu hsz hm hsrc h1 hrow hfit
  unfold Oper.wp
  simp [execOp, ho, resolve, invoke, builtin, hd, hs, hrun, Result.andThen]
  exact hK _ _ (h _ h2 h3 h4)
theorem tinfo3 : (Try.prog.info? 3).map (fun i => (i.zero, i.size, i.bytes)) = some (some (.int .i64 0), 1, 8) := by kernel_rfl
theorem mkInts (n : Nat) (hn : n ≤ 1048576) (w : World) : (Instr.makeSlice 28 (.int .i64 n) (.int .i64 n)).run Try.prog w = .ok (.slice (some ⟨w.heap.size, 0, none⟩) n n) (w.alloc (.cells (madeCells #[.int .i64 0] n) 3)) :=
  run_make_row' (P := Try.prog) 28 3 (.int .i64 0) 8 Try.underlying28 tinfo3 rfl .i64 .i64 n (by omega) (by omega) w
theorem fill_step {α : Type} {w wr : World} {n j : Nat} {f : Nat → α} {z : α} {mk : α → Value} (hb : Blw w wr) (hr : Row wr w.heap.size n (fun t => mk (if t < j then f t else z))) :
    Row (wr.setCell ⟨w.heap.size, j, none⟩ (mk (f j))) w.heap.size n (fun t => mk (if t < j + 1 then f t else z)) ∧ Blw w (wr.setCell ⟨w.heap.size, j, none⟩ (mk (f j))) := by
  refine ⟨(hr.set j _).congr fun i hi => ?_, hb.setCell (Nat.le_refl _) _⟩
  by_cases h1 : i = j
  · subst h1; simp
  · by_cases h2 : i < j
    · simp [h1, h2, Nat.lt_succ_of_lt h2]
    · have h3 : ¬ i < j + 1 := by omega
      simp [h1, h2, h3]
def wordOK (x : Int) : Prop := 0 ≤ x ∧ x ≤ 65535
set_option maxHeartbeats 400000 in
theorem l1In_yes (n lo hi : Int) (w : World) (h1 : lo ≤ n) (h2 : n ≤ hi) : Calls Try.prog 52 #[.int .i64 n, .int .i64 lo, .int .i64 hi] w fun e w' => e = .returned (.bool true) ∧ w' = w := by
  go_enter Try.func52, Try.ntmps52
  go_wp2
  go_ret
  exact ⟨rfl, rfl⟩
set_option maxHeartbeats 400000 in
theorem l1In_no (n lo hi : Int) (w : World) (h : ¬ (lo ≤ n ∧ n ≤ hi)) : Calls Try.prog 52 #[.int .i64 n, .int .i64 lo, .int .i64 hi] w fun e w' => e = .returned (.bool false) ∧ w' = w := by
  by_cases h1 : lo ≤ n
  · have h2 : ¬ n ≤ hi := fun h3 => h ⟨h1, h3⟩
    clear h
    go_enter Try.func52, Try.ntmps52
    go_wp2
    go_ret
    exact ⟨rfl, rfl⟩
  · clear h
    have hd : decide (lo ≤ n) = false := by simpa using h1
    go_enter Try.func52, Try.ntmps52
    go_wp2
    go_ret
    exact ⟨rfl, rfl⟩
def hasLine (n : Nat) (f : Nat → Int) (k : Int) : Prop := ∃ t, t < n ∧ f t = k
set_option maxHeartbeats 1600000 in
theorem l1Has_any (ao : Option Addr) (c n : Nat) (f : Nat → Int) (Y : Nat → Prop) (w : World) (x : Int) (h : IntsAt Y w ao n f) :
    Calls Try.prog 72 #[.slice ao n c, .int .i64 x] w fun e w' => ∃ b, e = .returned (.bool b) ∧ (b = true ↔ hasLine n f x) ∧ w' = w := by
  obtain ⟨hn, h⟩ := h
  have HH : Hid (∀ i, i < n → ∃ b o, ao = some ⟨b, o, none⟩ ∧ Y b ∧ w.cell? ⟨b, o + i, none⟩ = some (.int .i64 (f i))) := h
  clear h
  go_enter Try.func72, Try.ntmps72
  go_wp2
  go_loopw [9] (fun i wr => ∃ k : Nat, k ≤ n ∧ i = .int .i64 k ∧ (∀ t, t < k → ¬ f t = x) ∧ wr = w) (fun i _ => n - (intOf i).toNat)
  case atStart => exact ⟨0, Nat.zero_le _, rfl, fun t ht => absurd ht (Nat.not_lt_zero _), rfl⟩
  case round =>
    obtain ⟨k, hk, rfl, hok, rfl⟩ := hrel
    have HO : Hid (∀ t, t < k → ¬ f t = x) := hok
    clear hok
    by_cases hlt : k < n
    · obtain ⟨b, o, rfl, -, g1⟩ := HH.out k hlt
      have hlt' : (k : Int) < n := by omega
      by_cases hr : f k = (x : Int)
      · have d1 : (f k == (x : Int)) = true := by simp [hr]
        go_wp2
        go_ret
        exact ⟨true, rfl, ⟨fun _ => ⟨k, hlt, hr⟩, fun _ => rfl⟩, rfl⟩
      · have d1 : (f k == (x : Int)) = false := by simp [hr]
        go_wp2
        go_roundw
        case rel => exact ⟨k + 1, by omega, by go_num, fun t ht => by
          by_cases e : t = k
          · subst e; exact hr
          · exact HO.out t (by omega), by first | rfl | trivial⟩
        case measure => simp [intOf]; omega
    · obtain rfl : k = n := by omega
      go_wp2
      go_ret
      exact ⟨false, rfl, ⟨fun h => absurd h (by decide), fun ⟨t, h1, h2⟩ => absurd h2 (HO.out t h1)⟩, rfl⟩
set_option maxHeartbeats 400000 in
theorem sameInts_yes (a1 a2 : Option Addr) (c1 c2 n0 : Nat) (f g : Nat → Int) {Y Z : Nat → Prop} (w : World) (h1 : IntsAt Y w a1 n0 f) (h2 : IntsAt Z w a2 n0 g) (he : ∀ i, i < n0 → f i = g i) :
    Calls Try.prog 17 #[.slice a1 n0 c1, .slice a2 n0 c2] w fun e w' => e = .returned (.bool true) ∧ ∃ n, w' = w.drewN n := by
  replace h2 := h2.congr (fun i hi => (he i hi).symm)
  clear he
  obtain ⟨hl, h1⟩ := h1
  obtain ⟨-, h2⟩ := h2
  go_enter Try.func17, Try.ntmps17
  go_wp2
  go_loopw [13] (fun i wr => ∃ k n : Nat, k ≤ n0 ∧ i = .int .i64 k ∧ wr = w.drewN n) (fun i _ => n0 - (intOf i).toNat)
  case atStart => exact ⟨0, 0, Nat.zero_le _, rfl, rfl⟩
  case round =>
    obtain ⟨k, n, hk, rfl, rfl⟩ := hrel
    by_cases hlt : k < n0
    · obtain ⟨b, o, rfl, -, g1⟩ := h1 k hlt
      obtain ⟨b', o', rfl, -, g2⟩ := h2 k hlt
      clear h1 h2
      go_wp2
      go_quiet (fail)
      go_wp2
      go_roundw
      case rel => exact ⟨k + 1, _, by omega, by go_num, rfl⟩
      case measure => simp [intOf]; omega
    · go_wp2
      go_ret
      exact ⟨rfl, n, rfl⟩
set_option maxHeartbeats 400000 in
theorem sameInts_no (a1 a2 : Option Addr) (c1 c2 n0 : Nat) (f g : Nat → Int) {Y Z : Nat → Prop} (w : World) (h1 : IntsAt Y w a1 n0 f) (h2 : IntsAt Z w a2 n0 g) (i : Nat) (hi : i < n0) (he : ¬ f i = g i) :
    Calls Try.prog 17 #[.slice a1 n0 c1, .slice a2 n0 c2] w fun e w' => e = .returned (.bool false) ∧ ∃ n, w' = w.drewN n := by
  obtain ⟨hl, h1⟩ := h1
  obtain ⟨-, h2⟩ := h2
  have HE : Hid (¬ f i = g i) := he
  clear he
  go_enter Try.func17, Try.ntmps17
  go_wp2
  go_loopw [13] (fun ii wr => ∃ k n : Nat, k ≤ i ∧ ii = .int .i64 k ∧ wr = w.drewN n) (fun i _ => n0 - (intOf i).toNat)
  case atStart => exact ⟨0, 0, Nat.zero_le _, rfl, rfl⟩
  case round =>
    obtain ⟨k, n, hk, rfl, rfl⟩ := hrel
    have hlt : k < n0 := by omega
    obtain ⟨b, o, rfl, -, g1⟩ := h1 k hlt
    obtain ⟨b', o', rfl, -, g2⟩ := h2 k hlt
    clear h1 h2
    by_cases hf : f k = g k
    · have hne : k ≠ i := fun e => HE.out (e ▸ hf)
      rw [← hf] at g2
      clear hf
      go_wp2
      go_quiet (fail)
      go_wp2
      go_roundw
      case rel => exact ⟨k + 1, _, by omega, by go_num, rfl⟩
      case measure => simp [intOf]; omega
    · have hb : (f k != g k) = true := by simpa using hf
      clear hf
      go_wp2
      go_quiet (fail)
      go_wp2
      go_ret
      exact ⟨rfl, _, by simp only [World.drewN_drewN]; rfl⟩
set_option maxHeartbeats 1600000 in
theorem has_any (ao : Option Addr) (c n : Nat) (f : Nat → Int) (Y : Nat → Prop) (w : World) (x : Int) (h : IntsAt Y w ao n f) :
    Calls Try.prog 28 #[.slice ao n c, .int .i64 x] w fun e w' => ∃ b, e = .returned (.bool b) ∧ (b = true ↔ hasLine n f x) ∧ w' = w := by
  obtain ⟨hn, h⟩ := h
  have HH : Hid (∀ i, i < n → ∃ b o, ao = some ⟨b, o, none⟩ ∧ Y b ∧ w.cell? ⟨b, o + i, none⟩ = some (.int .i64 (f i))) := h
  clear h
  go_enter Try.func28, Try.ntmps28
  go_wp2
  go_loopw [9] (fun i wr => ∃ k : Nat, k ≤ n ∧ i = .int .i64 k ∧ (∀ t, t < k → ¬ f t = x) ∧ wr = w) (fun i _ => n - (intOf i).toNat)
  case atStart => exact ⟨0, Nat.zero_le _, rfl, fun t ht => absurd ht (Nat.not_lt_zero _), rfl⟩
  case round =>
    obtain ⟨k, hk, rfl, hok, rfl⟩ := hrel
    have HO : Hid (∀ t, t < k → ¬ f t = x) := hok
    clear hok
    by_cases hlt : k < n
    · obtain ⟨b, o, rfl, -, g1⟩ := HH.out k hlt
      have hlt' : (k : Int) < n := by omega
      by_cases hr : f k = (x : Int)
      · have d1 : (f k == (x : Int)) = true := by simp [hr]
        go_wp2
        go_ret
        exact ⟨true, rfl, ⟨fun _ => ⟨k, hlt, hr⟩, fun _ => rfl⟩, rfl⟩
      · have d1 : (f k == (x : Int)) = false := by simp [hr]
        go_wp2
        go_roundw
        case rel => exact ⟨k + 1, by omega, by go_num, fun t ht => by
          by_cases e : t = k
          · subst e; exact hr
          · exact HO.out t (by omega), by first | rfl | trivial⟩
        case measure => simp [intOf]; omega
    · obtain rfl : k = n := by omega
      go_wp2
      go_ret
      exact ⟨false, rfl, ⟨fun h => absurd h (by decide), fun ⟨t, h1, h2⟩ => absurd h2 (HO.out t h1)⟩, rfl⟩
theorem owned_row {w : World} {g n cap : Nat} {e : TypeId} {xs : List Value} {f : Nat → Value} (h : w.ownsRow 0 e 1 (.slice (some ⟨g, 0, none⟩) n cap) n xs) (hf : ∀ i, i < n → xs[i]? = some (f i)) (hn : 0 < n) : Row w g n f := by
  obtain ⟨h1, h2⟩ := h
  rcases h2 with ⟨_, h2⟩ | ⟨g', cap', cur, hv, hg, hh, hcap, _, hsz, ht⟩
  · omega
  · simp only [Value.slice.injEq, Option.some.injEq, Addr.mk.injEq, and_true, true_and] at hv
    obtain ⟨rfl, rfl⟩ := hv
    refine ⟨cur, e, hh, by omega, fun i hi => ?_⟩
    have : (cur.toList.take (n * 1))[i]? = cur[i]? := by rw [List.getElem?_take, if_pos (by omega)]; simp
    rw [← this, ht]
    exact hf i hi
theorem own_empty {w : World} {B : Nat} {e : TypeId} (h : w.heap[B]? = some (.cells #[] e (0, 0))) : w.ownsRow 0 e 1 (.slice (some ⟨B, 0, none⟩) 0 0) 0 [] :=
  ⟨rfl, Or.inr ⟨B, 0, #[], rfl, Nat.zero_le _, h, Nat.le_refl _, by unfold maxLen; omega, rfl, rfl⟩⟩
end Go.Proofs.Ytkmkidahaagbpaa
