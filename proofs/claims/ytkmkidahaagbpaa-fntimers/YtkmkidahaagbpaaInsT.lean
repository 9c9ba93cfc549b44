/- slices.Insert of one timer. -/
import Derived.Test.YtkmkidahaagbpaaBuf
import Derived.Test.YtkmkidahaagbpaaWd
import Derived.Lib.Overlaps
import Derived.Lib.AppendZerosOnto
import Derived.Lib.SliceRun
import Derived.Laws.NewBlocks
import Derived.Laws.Externs
import Derived.Shelf.RegionOpenPlain
import Derived.Laws.CopyRow
namespace Go.Proofs.Ytkmkidahaagbpaa
open Go.RowKit
set_option linter.unusedSimpArgs false
set_option linter.unusedVariables false
/-- Block b is a row of just N cells f of type t. -/
def RowE (w : World) (b : Nat) (t : TypeId) (N : Nat) (f : Nat → Value) : Prop := ∃ c : Array Value, w.heap[b]? = some (.cells c t (0, 0)) ∧ c.size = N ∧ ∀ i, i < N → c[i]? = some (f i)
theorem RowE.row {w : World} {b N : Nat} {t : TypeId} {f : Nat → Value} (h : RowE w b t N f) : Row w b N f := let ⟨c, h1, h2, h3⟩ := h; ⟨c, t, h1, by omega, h3⟩
theorem RowE.of_block {w w' : World} {b N : Nat} {t : TypeId} {f : Nat → Value} (h : RowE w b t N f) (e : w'.heap[b]? = w.heap[b]?) : RowE w' b t N f := let ⟨c, h1, h2⟩ := h; ⟨c, e.trans h1, h2⟩
theorem RowE.congr {w : World} {b N : Nat} {t : TypeId} {f g : Nat → Value} (h : RowE w b t N f) (e : ∀ i, i < N → f i = g i) : RowE w b t N g := let ⟨c, h1, h2, h3⟩ := h; ⟨c, h1, h2, fun i hi => by rw [h3 i hi, e i hi]⟩
theorem Buf.rowE {e : TypeId} {size : Nat} {X : Nat → Prop} {w : World} {a : Option Addr} {n c : Nat} {F : Nat → Value} (h : Buf e size X w (.slice a n c) n F) :
    (a = none ∧ n = 0 ∧ c = 0) ∨ ∃ g f, a = some ⟨g, 0, none⟩ ∧ X g ∧ n ≤ c ∧ c ≤ maxLen ∧ RowE w g e (c * size) f ∧ ∀ i, i < n * size → f i = F i := by
  rcases h.1.2 with ⟨h1, h2⟩ | ⟨g, cap, cur, h0, _, hb, h1, h2, h3, h4⟩
  · simp only [Value.slice.injEq] at h1
    exact Or.inl ⟨h1.1, h1.2.1, h1.2.2⟩
  · simp only [Value.slice.injEq, true_and] at h0
    obtain ⟨rfl, rfl⟩ := h0
    refine Or.inr ⟨g, fun i => cur.getD i (.bool false), rfl, h.2 g rfl, h1, h2, ⟨cur, hb, h3, fun i hi => ?_⟩, fun i hi => ?_⟩
    · rw [Array.getElem?_eq_getElem (by omega)]; simp [Array.getD, show i < cur.size by omega]
    · have := congrArg (fun l => l[i]?) h4
      simp [hi] at this
      have hl : i < cur.size := by rw [h3]; exact Nat.lt_of_lt_of_le hi (Nat.mul_le_mul_right _ h1)
      rw [Array.getElem?_eq_getElem hl] at this
      simp [Array.getD, hl]
      exact Option.some.inj this
theorem Buf.of_rowE {e : TypeId} {size : Nat} {X : Nat → Prop} {w : World} {g n c : Nat} {f F : Nat → Value} (h : RowE w g e (c * size) f) (hX : X g) (hn : n ≤ c) (hc : c ≤ maxLen) (he : ∀ i, i < n * size → f i = F i) : Buf e size X w (.slice (some ⟨g, 0, none⟩) n c) n F := by
  obtain ⟨cur, hb, h3, h4⟩ := h
  have hle : n * size ≤ c * size := Nat.mul_le_mul_right _ hn
  refine ⟨⟨by simp, Or.inr ⟨g, c, cur, rfl, Nat.zero_le _, hb, hn, hc, h3, ?_⟩⟩, fun g' hg => by simp [Value.ownBlock] at hg; subst hg; exact hX⟩
  apply List.ext_getElem?
  intro i
  by_cases hi : i < n * size
  · have := h4 i (by omega)
    simp [hi, this, he i hi]
  · simp [hi]; omega
/-- copy of structs of two cells. -/
theorem run_copy_two {P : Program} (w : World) (dT sT ty elem : TypeId) (b o dLen dCap : Nat) (a : Addr) (sLen sCap k m : Nat) (g : Nat → Value) (n : Nat) (t : TypeId) (f : Nat → Value)
    (hu : P.underlying dT = some (.slice elem)) (hs : (P.info? elem).map (·.size) = some 2) (hk : k = Nat.min sLen dLen) (hm : m = k * 2)
    (hsrc : ∀ j, j < m → w.cell? (a.add j) = some (g j)) (h1 : ∀ j, j < m → (g j).oneCell' = true) (hrow : RowE w b t n f) (hfit : o + m ≤ n) :
    ∃ w', (Builtin.copy_ #[dT, sT] ty #[.slice (some ⟨b, o, none⟩) dLen dCap, .slice (some a) sLen sCap]).run P w = .ok (goInt k) w' ∧
      RowE w' b t n (fun i => if o ≤ i ∧ i < o + m then g (i - o) else f i) ∧ Mod (fun x => x = b) w w' ∧ w'.heap.size = w.heap.size := by
  obtain ⟨cur, hb, hn, hc⟩ := hrow
  have hl : ((List.range m).map g).length = m := by simp
  have hrun : (Builtin.copy_ #[dT, sT] ty #[.slice (some ⟨b, o, none⟩) dLen dCap, .slice (some a) sLen sCap]).run P w =
      .ok (goInt k) (w.setRow b (cur.toList.take o ++ ((List.range m).map g) ++ cur.toList.drop (o + ((List.range m).map g).length)).toArray) := by
    have hld := run_loadCells_list (P := P) w a ((List.range m).map g) (fun j v hv => by
      have hj : j < m := by
        have := (List.getElem?_eq_some_iff.1 hv).1
        omega
      rw [hsrc j hj]
      simpa [hj] using hv)
    have hst := run_storeCells_at P b o t ((List.range m).map g) 0 cur w hb (by rw [hl]; omega) (fun v hv => by
      obtain ⟨j, hj, rfl⟩ := List.mem_map.1 hv
      exact h1 j (List.mem_range.1 hj))
    rw [hl, hm] at hld
    cases hq : P.info? elem with
    | none => simp [hq] at hs
    | some i =>
      have hi : i.size = 2 := by simpa [hq] using hs
      simp only [Nat.add_zero] at hst
      simp [Builtin.copy_, run_underlying hu, Builtin.lenOf, Builtin.firstCells, sizeOf, typeInfo, hq, hi, ← hk, hld]
      rw [← hm]
      simp only [hl] at hst
      simp [hst]
  rw [hl] at hrun
  refine ⟨_, hrun, ⟨_, setRow_heap w b _ _ t _ hb, ?_, fun i hi => ?_⟩, ⟨rfl, rfl, rfl, by simp [World.setRow], fun k _ hk => setRow_other w b k _ hk⟩, by simp [World.setRow]⟩
  · simp; omega
  · simp only [List.getElem?_toArray]
    have hlen : (cur.toList.take o).length = o := by simp; omega
    by_cases h2 : i < o
    · have h3 : ¬ (o ≤ i ∧ i < o + m) := by omega
      rw [if_neg h3, List.append_assoc, List.getElem?_append_left (by omega), List.getElem?_take, if_pos h2]
      simpa using hc i hi
    · by_cases h3 : i < o + m
      · rw [if_pos ⟨by omega, h3⟩, List.append_assoc, List.getElem?_append_right (by omega), hlen, List.getElem?_append_left (by simp; omega), List.getElem?_map, List.getElem?_range (by omega)]
        rfl
      · rw [if_neg (by omega), List.getElem?_append_right (by simp; omega)]
        simp only [List.length_append, hlen, hl, List.getElem?_drop]
        rw [show o + m + (i - (o + m)) = i by omega]
        simpa using hc i hi
/-- The operation copy, its run being known. -/
theorem wpList_copy_at {P : Program} (w : World) {ops : Array Oper} {rest : List Oper} {o : Oper} {a : Act} {Q : Exit → Act → World → Prop} (hgd : o.guard = none) (d s : Operand) (t t' : TypeId)
    (ho : o.op = .call { callee := .builtin .copy, args := #[d, s], argTypes := #[t, t'] }) (v u : Value) (hd : a.eval d = v) (hs : a.eval s = u)
    (h : ∃ v' w', (Builtin.copy_ #[t, t'] o.type #[v, u]).run P w = .ok v' w' ∧ wpList P ops Q rest (a.put o.dst v') w') : wpList P ops Q (o :: rest) a w := by
  obtain ⟨v', w', hr, hk⟩ := h
  refine wpList_plain hgd fun K hK => ?_
  unfold Oper.wp execOp
  simp only [ho, resolve, invoke, builtin, Sem.run_bind, Sem.run_pure, Result.andThen_ok, List.map_toArray, List.map_cons, List.map_nil, hd, hs, hr]
  exact hK _ _ hk
theorem step_copy_at {P : Program} {ops : Array Oper} {o : Oper} {a : Act} {w : World} {K : Act → World → Prop} {Q : Exit → Act → World → Prop} {E : Prop}
    (hg : o.guard = none) (d x : Operand) (dT sT : TypeId) (hop : o.op = Op.call { callee := Callee.builtin Builtin.copy, args := #[d, x], argTypes := #[dT, sT] })
    (v u : Value) (hd : a.eval d = v) (hx : a.eval x = u) (h : ∃ v' w', (Builtin.copy_ #[dT, sT] o.type #[v, u]).run P w = .ok v' w' ∧ K (a.put o.dst v') w') :
    if Region.wanted o (yielded ops a.tmps) = true then Oper.wp P o a w K Q else E := by
  obtain ⟨v', w', hr, hK⟩ := h
  have hw : Region.wanted o (yielded ops a.tmps) = true := by simp [Region.wanted, hg]
  rw [if_pos hw]
  unfold Oper.wp
  simp [execOp, hop, resolve, invoke, builtin, hd, hx, hr, Result.andThen]
  exact hK
/-- What stands in a row behind an insertion at p. -/
def insC (F G : Nat → Value) (p : Nat) : Nat → Value := fun j => if j < p * 2 then F j else if j < p * 2 + 2 then G (j - p * 2) else F (j - 2)
theorem insC_list (l : List Tm) (t : Tm) (p : Nat) (hp : p ≤ l.length) (j : Nat) (hj : j < (l.length + 1) * 2) :
    insC (uc (fun i => (nth l i).1) (fun i => (nth l i).2)) (uc (fun _ => t.1) (fun _ => t.2)) p j = uc (fun i => (nth (l.take p ++ t :: l.drop p) i).1) (fun i => (nth (l.take p ++ t :: l.drop p) i).2) j := by
  have hlt : (l.take p).length = p := by simp; omega
  have key : ∀ i, i < l.length + 1 → nth (l.take p ++ t :: l.drop p) i = if i < p then nth l i else if i = p then t else nth l (i - 1) := by
    intro i hi
    unfold nth
    simp only [List.getD_eq_getElem?_getD]
    by_cases h1 : i < p
    · rw [if_pos h1, List.getElem?_append_left (by omega), List.getElem?_take, if_pos h1]
    · rw [if_neg h1, List.getElem?_append_right (by omega), hlt]
      by_cases h2 : i = p
      · subst h2; simp
      · rw [if_neg h2, show i - p = (i - p - 1) + 1 by omega, List.getElem?_cons_succ, List.getElem?_drop, show p + (i - p - 1) = i - 1 by omega]
  have hk := key (j / 2) (by omega)
  unfold insC uc
  dsimp only
  by_cases h1 : j < p * 2
  · rw [if_pos (by omega)] at hk
    rw [if_pos h1, hk]
  · rw [if_neg h1]
    by_cases h2 : j < p * 2 + 2
    · rw [if_neg (by omega), if_pos (by omega)] at hk
      have e : (j - p * 2) % 2 = j % 2 := by omega
      rw [if_pos h2, hk, e]
    · rw [if_neg (by omega), if_neg (by omega)] at hk
      have e : (j - 2) % 2 = j % 2 := by omega
      have e2 : (j - 2) / 2 = j / 2 - 1 := by omega
      rw [if_neg h2, hk, e, e2]
theorem tmInfo : (Try.prog.info? 39).map (fun i => (i.zero, i.size, i.bytes)) = some (some (.agg #[.int .i64 0, .int .i64 0]), 2, 16) := by kernel_rfl
theorem tmSize : (Try.prog.info? 39).map (·.size) = some 2 := by kernel_rfl
theorem tmSizeOf (w : World) : (Go.sizeOf 39).run Try.prog w = .ok 2 w := by
  obtain ⟨i0, hi, hz0, hz1, hz2⟩ := info_parts tmInfo
  simp [sizeOf, typeInfo, hi, hz1]
theorem uc_one (f g : Nat → Int) (j : Nat) : (uc f g j).oneCell' = true := by unfold uc; split <;> rfl
set_option maxHeartbeats 4000000 in
set_option maxRecDepth 100000 in
theorem insert_shift (g n c p vb : Nat) (t : Tm) (f : Nat → Value) (w : World) (hp : p < n) (hroom : n + 1 ≤ c) (hc : c ≤ maxLen) (hvb : vb ≠ g) (hr : RowE w g 39 (c * 2) f) (h1 : ∀ j, j < n * 2 → (f j).oneCell' = true)
    (hv : w.heap[vb]? = some (.cells #[.int .i64 t.1, .int .i64 t.2] 39 (0, 0))) :
    Calls Try.prog 97 #[.slice (some ⟨g, 0, none⟩) n c, .int .i64 p, .slice (some ⟨vb, 0, none⟩) 1 1] w fun e w' => e = .returned (.slice (some ⟨g, 0, none⟩) (n + 1) c) ∧
      (∃ f', RowE w' g 39 (c * 2) f' ∧ ∀ j, j < (n + 1) * 2 → f' j = insC f (uc (fun _ => t.1) (fun _ => t.2)) p j) ∧ Mod (fun b => b = g) w w' := by
  have hc63 : c ≤ 9223372036854775807 := by unfold maxLen at hc; omega
  obtain ⟨cur, hcb, hcz, hcc⟩ := id hr
  have hov : ∀ lb cb o, (callFunc 105 #[.slice (some ⟨vb, 0, none⟩) 1 1, .slice (some ⟨g, o, none⟩) lb cb]).run Try.prog w = .ok (.value (.bool false)) w := fun lb cb o => by
    rw [run_callFunc_extern Try.func105 (by kernel_rfl) (by kernel_rfl) (by kernel_rfl) (e := Extern.SlicesOverlaps.overlaps #[31, 31] #[4]) (by kernel_rfl),
      Lib.run_overlaps_apart w 31 4 39 Try.underlying31 2 tmSizeOf ⟨vb, 0, none⟩ ⟨g, o, none⟩ 1 1 lb cb hvb 39 39 2 (c * 2) (by simp [World.shape?, hv]) (by simp [World.shape?, hcb, hcz]) (by omega) (by simp [World.frozen?, hv]) (by simp [World.frozen?, hv])]
    rfl
  have mixed : Try.prog.follows .mixedOrders = true := by kernel_rfl
  have hzp : ¬ ((p : Int) = (n : Int)) := by omega
  have hroom' : ¬ ((n : Int) + 1 > (c : Int)) := by omega
  have hroom2 : ¬ ((c : Int) < (n : Int) + 1) := by omega
  have hw1 : IntKind.i64.wrap ((p : Int) + 1) = (p : Int) + 1 := by rw [IntKind.wrap_i64]; omega
  have hb1 : (0 : Int) ≤ (p : Int) + 1 := by omega
  have hin : p ≤ n := by omega
  have htn : ((p : Int) + 1).toNat = p + 1 := by omega
  have hb3 : (p : Int) ≤ (n : Int) + 1 := by omega
  have hb2 : ¬ (c = p + 1) := by omega
  have hb4 : ¬ (c = p) := by omega
  obtain ⟨w1, hc1, r1, m1, z1⟩ := run_copy_two (P := Try.prog) w.drew 31 31 3 39 g ((p + 1) * 2) (n - p) (c - (p + 1)) ⟨g, p * 2, none⟩ (n + 1 - p) (c - p) (n - p) ((n - p) * 2) (fun j => f (p * 2 + j)) (c * 2) 39 f Try.underlying31 tmSize (by simp only [Nat.min_def]; split <;> omega) rfl
    (fun j hj => by rw [Addr.add_lit]; exact (hr.of_block (w' := w.drew) rfl).row.cell (by omega)) (fun j hj => h1 _ (by omega)) (hr.of_block rfl) (by omega)
  have hv1 : w1.heap[vb]? = some (.cells #[.int .i64 t.1, .int .i64 t.2] 39 (0, 0)) := (m1.block vb (Array.getElem?_eq_some_iff.1 hv).1 hvb).trans hv
  obtain ⟨w2, hc2, r2, m2, z2⟩ := run_copy_two (P := Try.prog) w1 31 31 3 39 g (p * 2) (n + 1 - p) (c - p) ⟨vb, 0, none⟩ 1 1 1 2 (uc (fun _ => t.1) (fun _ => t.2)) (c * 2) 39 _ Try.underlying31 tmSize (by simp only [Nat.min_def]; split <;> omega) rfl
    (fun j hj => by
      rw [Addr.add_lit]
      have hj2 : j = 0 ∨ j = 1 := by omega
      rcases hj2 with rfl | rfl <;> simp [World.cell?, hv1, uc]) (fun j _ => uc_one _ _ j) r1 (by omega)
  have HE : Hid ((∃ f', RowE w2 g 39 (c * 2) f' ∧ ∀ j, j < (n + 1) * 2 → f' j = insC f (uc (fun _ => t.1) (fun _ => t.2)) p j) ∧ Mod (fun b => b = g) w w2) := by
    refine ⟨⟨_, r2, fun j hj => ?_⟩, ((Blw.refl w).drew.mod _).trans (m1.trans m2)⟩
    unfold insC
    by_cases e1 : j < p * 2
    · rw [if_neg (by omega), if_neg (by omega), if_pos e1]
    · by_cases e2 : j < p * 2 + 2
      · rw [if_pos ⟨by omega, e2⟩, if_neg e1, if_pos e2]
      · rw [if_neg (by omega), if_pos ⟨by omega, by omega⟩, if_neg e1, if_neg e2]
        congr 1; omega
  clear r1 m1 z1 r2 m2 z2 hr h1 hcb hcz hcc hv hv1
  go_enter Try.func97, Try.ntmps97
  go_wp2_with (simp only [hov])
  go_region_law_o (refine step_copy_at rfl _ _ 31 31 rfl _ _ (by simp [Act.eval, Act.put]) (by simp [Act.eval, Act.put]) ⟨_, _, hc1, ?_⟩)
  go_wp2_with (at_builtin; refine wpList_copy_at _ rfl _ _ 31 31 rfl _ _ rfl rfl ⟨_, _, hc2, ?_⟩)
  go_ret
  exact ⟨rfl, HE.out⟩
theorem zc_get (v : Value) (n i : Nat) (h : i < n * 2) : (Builtin.zeroCells #[v, v] n)[i]? = some v := by
  have h2 : i % 2 = 0 ∨ i % 2 = 1 := by omega
  rcases h2 with h2 | h2 <;> simp [Builtin.zeroCells, h, h2]
theorem zc_size (v : Value) (n : Nat) : (Builtin.zeroCells #[v, v] n).size = n * 2 := by simp [Builtin.zeroCells]
set_option maxHeartbeats 4000000 in
set_option maxRecDepth 100000 in
theorem insert_grow (g n c p vb : Nat) (t : Tm) (f : Nat → Value) (w : World) (hp : p < n) (hn : n ≤ 1048576) (hnc : n ≤ c) (hroom : c < n + 1) (hr : RowE w g 39 (c * 2) f) (h1 : ∀ j, j < n * 2 → (f j).oneCell' = true)
    (hv : w.heap[vb]? = some (.cells #[.int .i64 t.1, .int .i64 t.2] 39 (0, 0))) :
    Calls Try.prog 97 #[.slice (some ⟨g, 0, none⟩) n c, .int .i64 p, .slice (some ⟨vb, 0, none⟩) 1 1] w fun e w' => ∃ G, e = .returned (.slice (some ⟨w.heap.size, 0, none⟩) (n + 1) G) ∧ n + 1 ≤ G ∧ G ≤ maxLen ∧
      (∃ f', RowE w' w.heap.size 39 (G * 2) f' ∧ ∀ j, j < (n + 1) * 2 → f' j = insC f (uc (fun _ => t.1) (fun _ => t.2)) p j) ∧ Blw w w' := by
  have mixed : Try.prog.follows .mixedOrders = true := by kernel_rfl
  obtain ⟨i0, hi0, hz0, hzs, hzb⟩ := info_parts tmInfo
  have hgw : g < w.heap.size := hr.row.lt
  have hvw : vb < w.heap.size := (Array.getElem?_eq_some_iff.1 hv).1
  have hkk : (n : Int) + 1 - (p : Int) = ((n + 1 - p : Nat) : Int) := by omega
  have hik : p + (n + 1 - p) = n + 1 := by omega
  have hold : (Builtin.firstCells i0.size p (.slice (some ⟨g, 0, none⟩) p c)).run Try.prog w.drew = .ok ((List.range (p * 2)).map f).toArray w.drew := by
    rw [hzs]
    exact run_firstCells_some w.drew 2 p ⟨g, 0, none⟩ p c ((List.range (p * 2)).map f) (by simp) (fun j v hj => by
      rw [Addr.add_lit, Nat.zero_add]
      have hj2 : j < p * 2 := by have := (List.getElem?_eq_some_iff.1 hj).1; simpa using this
      have : f j = v := by simpa [hj2] using hj
      rw [← this]
      exact (hr.of_block (w' := w.drew) rfl).row.cell (show j < c * 2 by omega))
  have hrz := Lib.run_append_grow_zeros w 31 3 31 39 i0 _ .i64 .i64 Try.underlying31 Try.underlying3 hi0 hz0 (some ⟨g, 0, none⟩) p c ((List.range (p * 2)).map f) hold (n + 1 - p) (by omega) (by omega) (by omega) (by omega) (by rw [hzb]; omega) (by rw [hzb, hik]; exact growslice_fits hroom (show (n + 1) * 16 ≤ 140737488355328 by omega))
  rw [hik, ← hkk] at hrz
  obtain ⟨G, hG⟩ : ∃ G, grownCap w (n + 1) c 39 = G := ⟨_, rfl⟩
  have hGn : n + 1 ≤ G := by rw [← hG]; exact grownCap_ge w _ _ _
  have hGm : G ≤ maxLen := by rw [← hG]; exact grownCap_le_maxLen w (n + 1) c 39 (by unfold maxLen; omega)
  have hG63 : G ≤ 9223372036854775807 := by unfold maxLen at hGm; omega
  rw [hG] at hrz
  obtain ⟨W1, hW1⟩ : ∃ W1, (w.drew.alloc (.cells (((List.range (p * 2)).map f).toArray ++ Builtin.zeroCells (Value.agg #[.int .i64 0, .int .i64 0]).cells (n + 1 - p) ++ Builtin.zeroCells (Value.agg #[.int .i64 0, .int .i64 0]).cells (G - (n + 1))) 39)) = W1 := ⟨_, rfl⟩
  rw [hW1] at hrz
  have hB1 : Blw w W1 := by rw [← hW1]; exact ((Blw.refl w).drew).alloc _
  have hR1 : RowE W1 w.heap.size 39 (G * 2) (fun i => if i < p * 2 then f i else .int .i64 0) := by
    rw [← hW1]
    have e0 : (Value.agg #[.int .i64 0, .int .i64 0]).cells = #[.int .i64 0, .int .i64 0] := rfl
    rw [e0]
    refine ⟨_, heap_alloc_new w.drew _, ?_, fun i hi => ?_⟩
    · simp [zc_size]; omega
    · show _ = some (if i < p * 2 then f i else .int .i64 0)
      by_cases h5 : i < p * 2
      · rw [if_pos h5, Array.getElem?_append_left (by simp [zc_size]; omega), Array.getElem?_append_left (by simp; omega)]
        simp [h5]
      · rw [if_neg h5]
        by_cases h6 : i < (n + 1) * 2
        · rw [Array.getElem?_append_left (by simp [zc_size]; omega), Array.getElem?_append_right (by simp; omega)]
          exact zc_get _ _ _ (by simp; omega)
        · rw [Array.getElem?_append_right (by simp [zc_size]; omega)]
          exact zc_get _ _ _ (by simp [zc_size]; omega)
  have hb3 : (p : Int) ≤ (n : Int) + 1 := by omega
  obtain ⟨w2, hc2, r2, m2, z2⟩ := run_copy_two (P := Try.prog) W1 31 31 3 39 w.heap.size (p * 2) (n + 1 - p) (G - p) ⟨vb, 0, none⟩ 1 1 1 2 (uc (fun _ => t.1) (fun _ => t.2)) (G * 2) 39 _ Try.underlying31 tmSize (by simp only [Nat.min_def]; split <;> omega) rfl
    (fun j hj => by
      rw [Addr.add_lit]
      have hv1 : W1.heap[vb]? = some (.cells #[.int .i64 t.1, .int .i64 t.2] 39 (0, 0)) := (hB1.block vb hvw).trans hv
      have hj2 : j = 0 ∨ j = 1 := by omega
      rcases hj2 with rfl | rfl <;> simp [World.cell?, hv1, uc]) (fun j _ => uc_one _ _ j) hR1 (by omega)
  have hgr : RowE w2.drew g 39 (c * 2) f := (hr.of_block (hB1.block g hgw)).of_block (w' := w2.drew) (m2.block g (by have := hB1.size; omega) (by omega))
  obtain ⟨w3, hc3, r3, m3, z3⟩ := run_copy_two (P := Try.prog) w2.drew 31 31 3 39 w.heap.size ((p + 1) * 2) (n - p) (G - (p + 1)) ⟨g, p * 2, none⟩ (n - p) (c - p) (n - p) ((n - p) * 2) (fun j => f (p * 2 + j)) (G * 2) 39 _ Try.underlying31 tmSize (by simp only [Nat.min_def]; split <;> omega) rfl
    (fun j hj => by rw [Addr.add_lit]; exact hgr.row.cell (show _ < c * 2 by omega)) (fun j hj => h1 _ (by omega)) (r2.of_block (w' := w2.drew) rfl) (by omega)
  have HE : Hid (n + 1 ≤ G ∧ G ≤ maxLen ∧ (∃ f', RowE w3 w.heap.size 39 (G * 2) f' ∧ ∀ j, j < (n + 1) * 2 → f' j = insC f (uc (fun _ => t.1) (fun _ => t.2)) p j) ∧ Blw w w3) := by
    refine ⟨hGn, hGm, ⟨_, r3, fun j hj => ?_⟩, Mod.blw hB1 (m2.trans (((Blw.refl w2).drew.mod _).trans m3)) (fun i hi => by omega)⟩
    unfold insC
    by_cases e1 : j < p * 2
    · rw [if_neg (by omega), if_neg (by omega), if_pos e1, if_pos e1]
    · by_cases e2 : j < p * 2 + 2
      · rw [if_neg (by omega), if_pos ⟨by omega, e2⟩, if_neg e1, if_pos e2]
      · rw [if_pos ⟨by omega, by omega⟩, if_neg e1, if_neg e2]
        congr 1; omega
  have hzp : ¬ ((p : Int) = (n : Int)) := by omega
  have hroom' : (c : Int) < (n : Int) + 1 := by omega
  have hw1 : IntKind.i64.wrap ((p : Int) + 1) = (p : Int) + 1 := by rw [IntKind.wrap_i64]; omega
  have hb1 : (0 : Int) ≤ (p : Int) + 1 := by omega
  have hin : p ≤ n := by omega
  have hb5 : (p : Int) ≤ (n : Int) := by omega
  have htn : ((p : Int) + 1).toNat = p + 1 := by omega
  have hGi : ¬ (G = p) := by omega
  have hGim : ¬ (G = p + 1) := by omega
  have hci : ¬ (c = p) := by omega
  clear hold hkk hik hG hW1 hR1 r2 m2 z2 r3 m3 z3 hgr hr h1 hv hB1 hi0 hz0 hzs hzb hGn hGm
  go_enter Try.func97, Try.ntmps97
  go_wp2_with (first
    | (at_builtin; refine Lib.wpList_append_run _ rfl _ _ _ _ rfl _ _ rfl rfl _ _ hrz ?_)
    | (at_builtin; refine wpList_copy_at _ rfl _ _ 31 31 rfl _ _ rfl rfl ⟨_, _, hc2, ?_⟩))
  go_region_law_o (refine step_copy_at rfl _ _ 31 31 rfl _ _ (by simp [Act.eval, Act.put]) (by simp [Act.eval, Act.put]) ⟨_, _, hc3, ?_⟩)
  go_wp2
  go_ret
  exact ⟨G, rfl, HE.out⟩
set_option maxHeartbeats 4000000 in
set_option maxRecDepth 100000 in
theorem insert_end (ao : Option Addr) (n c vb : Nat) (t : Tm) (X : Nat → Prop) (f g : Nat → Int) (w : World) (hn : n ≤ 1048576) (h : BufU X w (.slice ao n c) n f g)
    (hv : w.heap[vb]? = some (.cells #[.int .i64 t.1, .int .i64 t.2] 39 (0, 0))) :
    Calls Try.prog 97 #[.slice ao n c, .int .i64 n, .slice (some ⟨vb, 0, none⟩) 1 1] w fun e w' => ∃ ao' c', e = .returned (.slice ao' (n + 1) c') ∧
      BufU (fun b => (X b ∨ b = w.heap.size) ∧ b < w'.heap.size) w' (.slice ao' (n + 1) c') (n + 1) (icat n f (fun _ => t.1)) (icat n g (fun _ => t.2)) ∧ Mod (fun b => (Value.slice ao n c).ownBlock = some b) w w' := by
  have hat : UndosAt (fun b => b = vb) w (some ⟨vb, 0, none⟩) 1 (fun _ => t.1) (fun _ => t.2) := ⟨by omega, fun i hi => by
    obtain rfl : i = 0 := by omega
    exact ⟨vb, 0, rfl, rfl, by simp [World.cell?, hv], by simp [World.cell?, hv]⟩⟩
  obtain ⟨a', c', w', hrun, hB, hm⟩ := h.append 1 hat (by omega) 31
  have hself : ((n : Int) == (n : Int)) = true := by simp
  have hc63 : n ≤ c := by
    rcases h.1.2 with ⟨e1, e2⟩ | ⟨g', cap', cur, e1, _, _, h3, _⟩
    · simp only [Value.slice.injEq] at e1; omega
    · simp only [Value.slice.injEq, true_and] at e1; omega
  have hsl : (if c = n then ao else ao.map (fun a => a)) = ao := by cases ao <;> simp
  have HB : Hid (BufU (fun b => (X b ∨ b = w.heap.size) ∧ b < w'.heap.size) w' (.slice a' (n + 1) c') (n + 1) (icat n f (fun _ => t.1)) (icat n g (fun _ => t.2)) ∧ Mod (fun b => (Value.slice ao n c).ownBlock = some b) w w') := ⟨hB, hm⟩
  have hform : (ao = none ∧ n = 0 ∧ c = 0) ∨ ∃ g', ao = some ⟨g', 0, none⟩ := by
    rcases Buf.rowE h with h0 | ⟨g', f', h0, _⟩
    · exact Or.inl h0
    · exact Or.inr ⟨g', h0⟩
  have hcl : c ≤ 9223372036854775807 := by
    rcases Buf.rowE h with h0 | ⟨g', f', h0, _, _, h1, _⟩
    · omega
    · unfold maxLen at h1; omega
  clear h hv hat hB hm hsl
  go_enter Try.func97, Try.ntmps97
  rcases hform with ⟨rfl, rfl, rfl⟩ | ⟨g', rfl⟩
  · go_wp2_with (at_builtin; refine wpList_append_run rfl _ _ 31 rfl _ _ rfl rfl hrun ?_)
    go_ret
    exact ⟨_, _, rfl, HB.out⟩
  · go_wp2_with (at_builtin; refine wpList_append_run rfl _ _ 31 rfl _ _ rfl rfl hrun ?_)
    all_goals go_ret
    all_goals exact ⟨_, _, rfl, HB.out⟩
theorem icat_insC (n : Nat) (f g : Nat → Int) (t : Tm) (j : Nat) (hj : j < (n + 1) * 2) : uc (icat n f (fun _ => t.1)) (icat n g (fun _ => t.2)) j = insC (uc f g) (uc (fun _ => t.1) (fun _ => t.2)) n j := by
  unfold insC uc icat
  by_cases h1 : j < n * 2
  · have h2 : j / 2 < n := by omega
    rw [if_pos h1]; simp only [h2, if_true]
  · have h2 : ¬ j / 2 < n := by omega
    have h3 : j < n * 2 + 2 := by omega
    have e : (j - n * 2) % 2 = j % 2 := by omega
    rw [if_neg h1, if_pos h3, e]; simp only [h2, if_false]
/-- slices.Insert of one timer, whatever the place. -/
theorem insert_any (ao : Option Addr) (c p vb : Nat) (l : List Tm) (t : Tm) (X : Nat → Prop) (w : World) (hp : p ≤ l.length) (hn : l.length ≤ 1048576) (hX : ∀ g, ao = some ⟨g, 0, none⟩ → g ≠ vb)
    (h : BufU X w (.slice ao l.length c) l.length (fun i => (nth l i).1) (fun i => (nth l i).2))
    (hv : w.heap[vb]? = some (.cells #[.int .i64 t.1, .int .i64 t.2] 39 (0, 0))) :
    Calls Try.prog 97 #[.slice ao l.length c, .int .i64 p, .slice (some ⟨vb, 0, none⟩) 1 1] w fun e w' => ∃ ao' c', e = .returned (.slice ao' (l.length + 1) c') ∧
      BufU (fun b => (ao = some ⟨b, 0, none⟩ ∨ w.heap.size ≤ b) ∧ b < w'.heap.size) w' (.slice ao' (l.length + 1) c') (l.length + 1) (fun i => (nth (l.take p ++ t :: l.drop p) i).1) (fun i => (nth (l.take p ++ t :: l.drop p) i).2) ∧ Mod (fun b => ao = some ⟨b, 0, none⟩) w w' := by
  have hcl := insC_list l t p hp
  by_cases hpe : p = l.length
  · subst hpe
    have h' : BufU (fun b => ao = some ⟨b, 0, none⟩) w (.slice ao l.length c) l.length (fun i => (nth l i).1) (fun i => (nth l i).2) := ⟨h.1, fun g hg => by
      cases ao with
      | none => simp [Value.ownBlock] at hg
      | some a =>
        rcases Buf.rowE h with h0 | ⟨g', f', h0, _⟩
        · simp at h0
        · rw [h0] at hg ⊢; simp [Value.ownBlock] at hg; subst hg; rfl⟩
    refine (insert_end ao l.length c vb t _ _ _ w hn h' hv).mono ?_
    rintro e w' ⟨ao', c', rfl, hB, hm⟩
    refine ⟨ao', c', rfl, Buf.mono (hB.congr (fun j hj => (icat_insC _ _ _ t j hj).trans (hcl j hj))) (fun b hb => ⟨hb.1.elim Or.inl (fun e => Or.inr (by omega)), hb.2⟩), hm.mono (fun b hb => ?_)⟩
    cases ao with
    | none => simp [Value.ownBlock] at hb
    | some a =>
      rcases Buf.rowE h with h0 | ⟨g', f', h0, _⟩
      · simp at h0
      · rw [h0] at hb ⊢; simp [Value.ownBlock] at hb; subst hb; rfl
  · rcases Buf.rowE h with ⟨_, h0, _⟩ | ⟨g, f, rfl, hg, hnc, hcm, hr, hf⟩
    · omega
    · have h1 : ∀ j, j < l.length * 2 → (f j).oneCell' = true := fun j hj => by rw [hf j hj]; exact uc_one _ _ j
      have hins : ∀ j, j < (l.length + 1) * 2 → insC f (uc (fun _ => t.1) (fun _ => t.2)) p j = uc (fun i => (nth (l.take p ++ t :: l.drop p) i).1) (fun i => (nth (l.take p ++ t :: l.drop p) i).2) j := fun j hj => by
        rw [← hcl j hj]
        unfold insC
        by_cases e1 : j < p * 2
        · rw [if_pos e1, if_pos e1, hf j (by omega)]
        · rw [if_neg e1, if_neg e1]
          by_cases e2 : j < p * 2 + 2
          · rw [if_pos e2, if_pos e2]
          · rw [if_neg e2, if_neg e2, hf _ (by omega)]
      by_cases hroom : l.length + 1 ≤ c
      · refine (insert_shift g l.length c p vb t f w (by omega) hroom hcm (fun e => hX g rfl e.symm) hr h1 hv).mono ?_
        rintro e w' ⟨rfl, ⟨f', hr', hf'⟩, hm⟩
        exact ⟨_, _, rfl, Buf.of_rowE hr' ⟨Or.inl rfl, hr'.row.lt⟩ hroom hcm (fun j hj => (hf' j hj).trans (hins j hj)), hm.mono (fun b hb => by rw [hb])⟩
      · refine (insert_grow g l.length c p vb t f w (by omega) hn hnc (by omega) hr h1 hv).mono ?_
        rintro e w' ⟨G, rfl, hG1, hG2, ⟨f', hr', hf'⟩, hb⟩
        exact ⟨_, _, rfl, Buf.of_rowE hr' ⟨Or.inr (Nat.le_refl _), hr'.row.lt⟩ hG1 hG2 (fun j hj => (hf' j hj).trans (hins j hj)), hb.mod _⟩
end Go.Proofs.Ytkmkidahaagbpaa
