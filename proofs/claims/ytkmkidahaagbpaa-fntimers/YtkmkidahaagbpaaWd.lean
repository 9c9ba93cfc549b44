/- Wheels without any walk: rows of timers, what is put, taken in, dropped. -/
namespace Go.Proofs.Ytkmkidahaagbpaa
set_option linter.unusedSimpArgs false
set_option linter.unusedVariables false
abbrev Tm := Int × Int
abbrev Rws := Nat → List Tm
def rowOf (now a : Int) : Nat := if a / 8 = now / 8 then (a % 8).toNat else 8 + (a / 8 % 8).toNat
theorem rowOf_lt (now a : Int) : rowOf now a < 16 := by unfold rowOf; split <;> omega
def ins : List Tm → Tm → List Tm
  | [], t => [t]
  | x :: l, t => if x.1 < t.1 then x :: ins l t else t :: x :: l
def put (now : Int) (S : Rws) (t : Tm) : Rws := fun k => if k = rowOf now t.2 then ins (S k) t else S k
def allR (S : Rws) : List Tm := (List.range 16).flatMap S
def OkT (now : Int) (S : Rws) (t : Tm) : Prop := 1 ≤ t.1 ∧ t.1 ≤ 99 ∧ now < t.2 ∧ t.2 - now ≤ 63 ∧ (∀ x ∈ allR S, x.1 ≠ t.1) ∧ (allR S).length ≠ 20
open Classical in
noncomputable def takeT (now : Int) (S : Rws) (t : Tm) : Option Rws := if OkT now S t then some (put now S t) else none
noncomputable def takeL (now : Int) : List Tm → Rws → Option Rws
  | [], S => some S
  | t :: l, S => (takeT now S t).bind (takeL now l)
theorem takeL_snoc (now : Int) (l : List Tm) (x : Tm) (S : Rws) : takeL now (l ++ [x]) S = (takeL now l S).bind (fun T => takeT now T x) := by
  induction l generalizing S with
  | nil => simp [takeL]
  | cons t l ih =>
    simp only [List.cons_append, takeL]
    cases takeT now S t with
    | none => rfl
    | some T => simp [ih]
def Sd (l : List Tm) : Prop := l.Pairwise (fun a b => a.1 < b.1)
abbrev noR : Rws := fun _ => []
structure GoodR (now : Int) (S : Rws) : Prop where
  sd : ∀ k, k < 16 → Sd (S k)
  ok : ∀ k, k < 16 → ∀ t ∈ S k, 1 ≤ t.1 ∧ t.1 ≤ 99 ∧ now < t.2 ∧ t.2 ≤ now + 63 ∧ rowOf now t.2 = k
  nd : ((allR S).map Prod.fst).Nodup
  len : (allR S).length ≤ 20
/-! ### One row -/
def nth (l : List Tm) (i : Nat) : Tm := l.getD i (0, 0)
theorem nth_cons_zero (x : Tm) (l : List Tm) : nth (x :: l) 0 = x := rfl
theorem nth_cons_succ (x : Tm) (l : List Tm) (i : Nat) : nth (x :: l) (i + 1) = nth l i := rfl
theorem nth_mem {l : List Tm} {i : Nat} (h : i < l.length) : nth l i ∈ l := by
  simp [nth, List.getD_eq_getElem?_getD, List.getElem?_eq_getElem h]
theorem nth_get {l : List Tm} {i : Nat} (h : i < l.length) : nth l i = l[i] := by simp [nth, List.getD_eq_getElem?_getD, List.getElem?_eq_getElem h]
def pos : List Tm → Int → Nat
  | [], _ => 0
  | x :: l, id => if x.1 < id then pos l id + 1 else 0
theorem pos_le (l : List Tm) (id : Int) : pos l id ≤ l.length := by
  induction l with
  | nil => simp [pos]
  | cons x l ih => simp only [pos]; split <;> simp <;> omega
theorem lt_pos {l : List Tm} {id : Int} {i : Nat} (h : i < pos l id) : (nth l i).1 < id := by
  induction l generalizing i with
  | nil => simp [pos] at h
  | cons x l ih =>
    simp only [pos] at h
    split at h
    · cases i with
      | zero => assumption
      | succ i => exact ih (by omega)
    · omega
theorem at_pos {l : List Tm} {id : Int} (h : pos l id < l.length) : ¬ (nth l (pos l id)).1 < id := by
  induction l with
  | nil => simp at h
  | cons x l ih =>
    by_cases e : x.1 < id
    · have e2 : pos (x :: l) id = pos l id + 1 := by simp [pos, e]
      rw [e2] at h ⊢
      exact ih (by simpa using h)
    · have e2 : pos (x :: l) id = 0 := by simp [pos, e]
      rw [e2]; exact e
theorem Sd.lt {l : List Tm} (h : Sd l) {i j : Nat} (hij : i < j) (hj : j < l.length) : (nth l i).1 < (nth l j).1 := by
  rw [nth_get hj, nth_get (by omega)]
  exact List.pairwise_iff_getElem.1 h i j (by omega) hj hij
theorem ge_pos {l : List Tm} (h : Sd l) {id : Int} {i : Nat} (h1 : pos l id ≤ i) (h2 : i < l.length) : ¬ (nth l i).1 < id := by
  have h3 := at_pos (l := l) (id := id) (by omega)
  rcases Nat.lt_or_eq_of_le h1 with h4 | h4
  · have := h.lt h4 h2; omega
  · rw [← h4]; exact h3
theorem ins_eq (l : List Tm) (t : Tm) : ins l t = l.take (pos l t.1) ++ t :: l.drop (pos l t.1) := by
  induction l with
  | nil => rfl
  | cons x l ih => simp only [ins, pos]; split <;> simp [ih]
theorem ins_perm (l : List Tm) (t : Tm) : (ins l t).Perm (t :: l) := by
  rw [ins_eq]
  exact (List.perm_middle).trans (by rw [List.take_append_drop])
theorem ins_len (l : List Tm) (t : Tm) : (ins l t).length = l.length + 1 := (ins_perm l t).length_eq
theorem ins_mem {l : List Tm} {t x : Tm} : x ∈ ins l t ↔ x = t ∨ x ∈ l := by rw [(ins_perm l t).mem_iff, List.mem_cons]
theorem ins_sd {l : List Tm} {t : Tm} (h : Sd l) (hn : ∀ x ∈ l, x.1 ≠ t.1) : Sd (ins l t) := by
  induction l with
  | nil => exact List.pairwise_singleton _ _
  | cons x l ih =>
    have h' := List.pairwise_cons.1 h
    simp only [ins]
    split
    · refine List.pairwise_cons.2 ⟨fun y hy => ?_, ih h'.2 (fun y hy => hn y (List.mem_cons_of_mem _ hy))⟩
      rcases ins_mem.1 hy with rfl | hy
      · assumption
      · exact h'.1 y hy
    · refine List.pairwise_cons.2 ⟨fun y hy => ?_, h⟩
      have h0 := hn x (List.mem_cons_self ..)
      rcases List.mem_cons.1 hy with rfl | hy
      · omega
      · have := h'.1 y hy; omega
theorem ins_end {l : List Tm} {t : Tm} (h : ∀ x ∈ l, x.1 < t.1) : ins l t = l ++ [t] := by
  induction l with
  | nil => rfl
  | cons x l ih =>
    simp only [ins, if_pos (h x (List.mem_cons_self ..)), List.cons_append, ih (fun y hy => h y (List.mem_cons_of_mem _ hy))]
/-- What findTimer tells. -/
def hasId (l : List Tm) (id : Int) : Prop := pos l id < l.length ∧ (nth l (pos l id)).1 = id
theorem hasId_iff {l : List Tm} (h : Sd l) (id : Int) : hasId l id ↔ ∃ t ∈ l, t.1 = id := by
  constructor
  · rintro ⟨h1, h2⟩; exact ⟨_, nth_mem h1, h2⟩
  · rintro ⟨t, ht, rfl⟩
    obtain ⟨i, hi, rfl⟩ := List.getElem_of_mem ht
    rw [← nth_get hi]
    have h1 : pos l (nth l i).1 ≤ i := Nat.le_of_not_lt (fun hh => by have := lt_pos hh; omega)
    have h2 := at_pos (l := l) (id := (nth l i).1) (by omega)
    refine ⟨by omega, ?_⟩
    rcases Nat.lt_or_eq_of_le h1 with h3 | h3
    · have := h.lt h3 hi; omega
    · rw [h3]
theorem filter_eq_self' {l : List Tm} {id : Int} (h : ∀ t ∈ l, t.1 ≠ id) : l.filter (fun t => t.1 != id) = l := by
  rw [List.filter_eq_self]
  intro t ht
  simpa using h t ht
theorem filter_has {l : List Tm} (h : Sd l) {id : Int} (hh : hasId l id) : l.filter (fun t => t.1 != id) = l.take (pos l id) ++ l.drop (pos l id + 1) := by
  induction l with
  | nil => simp
  | cons x l ih =>
    have h' := List.pairwise_cons.1 h
    by_cases e : x.1 < id
    · have e2 : pos (x :: l) id = pos l id + 1 := by simp [pos, e]
      have hne : (x.1 != id) = true := by simp; omega
      rw [e2]
      unfold hasId at hh
      rw [e2] at hh
      simp only [List.filter_cons, hne, if_true, List.take_succ_cons, List.drop_succ_cons, List.cons_append]
      rw [ih h'.2 ⟨by simpa using hh.1, hh.2⟩]
    · have e2 : pos (x :: l) id = 0 := by simp [pos, e]
      unfold hasId at hh
      rw [e2] at hh ⊢
      have e3 : x.1 = id := hh.2
      have hne : (x.1 != id) = false := by simpa using e3
      simp only [List.filter_cons, hne, Nat.zero_add, List.take_zero, List.nil_append, List.drop_succ_cons, List.drop_zero]
      simp only [Bool.false_eq_true, if_false]
      exact filter_eq_self' (fun t ht => by have := h'.1 t ht; omega)
/-! ### All rows -/
theorem flatMap_upd (L : List Nat) (hL : L.Nodup) (S : Rws) (k : Nat) (hk : k ∈ L) (r : List Tm) (e : List Tm) (hp : r.Perm (e ++ S k)) :
    (L.flatMap (fun j => if j = k then r else S j)).Perm (e ++ L.flatMap S) := by
  induction L with
  | nil => simp at hk
  | cons j L ih =>
    have hL' := List.nodup_cons.1 hL
    simp only [List.flatMap_cons]
    by_cases ej : j = k
    · subst ej
      rw [if_pos rfl]
      have e1 : L.flatMap (fun i => if i = j then r else S i) = L.flatMap S := by
        have : ∀ i ∈ L, (if i = j then r else S i) = S i := fun i hi => if_neg (fun h => hL'.1 (by rw [← h]; exact hi))
        simp only [List.flatMap_def]
        rw [List.map_congr_left this]
      rw [e1, ← List.append_assoc]
      exact List.Perm.append_right _ hp
    · rw [if_neg ej]
      have hk' : k ∈ L := by
        rcases List.mem_cons.1 hk with h | h
        · exact absurd h.symm ej
        · exact h
      have h1 := ih hL'.2 hk'
      refine (List.Perm.append_left (S j) h1).trans ?_
      rw [← List.append_assoc, ← List.append_assoc]
      exact List.Perm.append_right _ List.perm_append_comm
theorem put_perm (now : Int) (S : Rws) (t : Tm) : (allR (put now S t)).Perm (t :: allR S) := by
  have h := flatMap_upd (List.range 16) List.nodup_range S (rowOf now t.2) (List.mem_range.2 (rowOf_lt _ _)) (ins (S (rowOf now t.2)) t) [t] (ins_perm _ _)
  have e : put now S t = fun j => if j = rowOf now t.2 then ins (S (rowOf now t.2)) t else S j := by
    funext j; unfold put; split
    · rename_i h; rw [h]
    · rfl
  unfold allR
  rw [e]
  exact h
theorem mem_all {S : Rws} {t : Tm} : t ∈ allR S ↔ ∃ k, k < 16 ∧ t ∈ S k := by simp [allR, List.mem_flatMap]
theorem row_sub {S : Rws} {k : Nat} (hk : k < 16) {t : Tm} (h : t ∈ S k) : t ∈ allR S := mem_all.2 ⟨k, hk, h⟩
theorem len_flat (L : List Nat) (S : Rws) (k : Nat) (hk : k ∈ L) : (S k).length ≤ (L.flatMap S).length := by
  induction L with
  | nil => simp at hk
  | cons j L ih =>
    simp only [List.flatMap_cons, List.length_append]
    rcases List.mem_cons.1 hk with rfl | h
    · omega
    · have := ih h; omega
theorem len_row {S : Rws} {k : Nat} (hk : k < 16) : (S k).length ≤ (allR S).length := len_flat _ S k (List.mem_range.2 hk)
/-- Behind what was taken in. -/
theorem take_inv (now : Int) (hnow : 0 ≤ now) (l : List Tm) (S : Rws) (h : takeL now l noR = some S) : GoodR now S ∧ (allR S).Perm l ∧ ∀ k, 16 ≤ k → S k = [] := by
  suffices H : ∀ (n : Nat) (l : List Tm) (S : Rws), l.length = n → takeL now l noR = some S → GoodR now S ∧ (allR S).Perm l ∧ ∀ k, 16 ≤ k → S k = [] from H _ l S rfl h
  intro n
  induction n with
  | zero =>
    intro l S hl h
    obtain rfl := List.length_eq_zero_iff.1 hl
    simp only [takeL, Option.some.injEq] at h
    subst h
    have e : allR noR = [] := rfl
    exact ⟨⟨fun k _ => List.Pairwise.nil, fun k _ t ht => by simp at ht, by simp [e], by simp [e]⟩, by rw [e], fun _ _ => rfl⟩
  | succ n ih =>
    intro l S hl h
    obtain ⟨pre, x, rfl⟩ : ∃ pre x, l = pre ++ [x] := ⟨l.dropLast, l.getLast (by intro e; simp [e] at hl), (List.dropLast_concat_getLast _).symm⟩
    rw [takeL_snoc] at h
    cases hT : takeL now pre noR with
    | none => simp [hT] at h
    | some T =>
      rw [hT] at h
      simp only [Option.bind_some, takeT] at h
      split at h
      · rename_i hok
        simp only [Option.some.injEq] at h
        subst h
        obtain ⟨hg, hp, hz⟩ := ih pre T (by simpa using hl) hT
        obtain ⟨o1, o2, o3, o4, o5, o6⟩ := hok
        have hpp := put_perm now T x
        have hlen := hg.len
        refine ⟨⟨fun k hk => ?_, fun k hk t ht => ?_, ?_, ?_⟩, ?_, fun k hk => ?_⟩
        · unfold put
          split
          · exact ins_sd (hg.sd k hk) (fun y hy => o5 y (row_sub hk hy))
          · exact hg.sd k hk
        · unfold put at ht
          split at ht
          · rename_i e
            rcases ins_mem.1 ht with rfl | ht
            · exact ⟨o1, o2, o3, by omega, e.symm⟩
            · exact hg.ok k hk t ht
          · exact hg.ok k hk t ht
        · refine (hpp.map _).nodup_iff.2 (List.nodup_cons.2 ⟨?_, hg.nd⟩)
          intro hm
          obtain ⟨y, hy, e⟩ := List.mem_map.1 hm
          exact o5 y hy e
        · rw [hpp.length_eq]; simp; omega
        · exact hpp.trans ((List.Perm.cons x hp).trans (List.perm_append_comm (l₁ := [x]) (l₂ := pre)))
        · unfold put
          rw [if_neg (by have := rowOf_lt now x.2; omega)]
          exact hz k hk
      · cases h
theorem GoodR.congr {now : Int} {S R : Rws} (h : GoodR now S) (e : ∀ k, k < 16 → S k = R k) : GoodR now R := by
  have ea : allR S = allR R := by
    unfold allR
    simp only [List.flatMap_def]
    rw [List.map_congr_left (fun k hk => e k (List.mem_range.1 hk))]
  exact ⟨fun k hk => e k hk ▸ h.sd k hk, fun k hk => e k hk ▸ h.ok k hk, ea ▸ h.nd, ea ▸ h.len⟩
theorem filter_row {now : Int} {S : Rws} (h : GoodR now S) (L : List Nat) (hL : L.Nodup) (h16 : ∀ k ∈ L, k < 16) (k : Nat) :
    (L.flatMap S).filter (fun t => rowOf now t.2 = k) = if k ∈ L then S k else [] := by
  induction L with
  | nil => simp
  | cons j L ih =>
    have hL' := List.nodup_cons.1 hL
    have ih' := ih hL'.2 (fun i hi => h16 i (List.mem_cons_of_mem _ hi))
    have hj := h16 j (List.mem_cons_self ..)
    simp only [List.flatMap_cons, List.filter_append, ih']
    by_cases e : k = j
    · subst e
      rw [if_neg hL'.1, if_pos (List.mem_cons_self ..), List.append_nil, List.filter_eq_self]
      intro t ht
      simpa using (h.ok k hj t ht).2.2.2.2
    · have h1 : (S j).filter (fun t => decide (rowOf now t.2 = k)) = [] := by
        rw [List.filter_eq_nil_iff]
        intro t ht
        have := (h.ok j hj t ht).2.2.2.2
        simp; omega
      rw [h1, List.nil_append]
      by_cases e2 : k ∈ L
      · rw [if_pos e2, if_pos (List.mem_cons_of_mem _ e2)]
      · rw [if_neg e2, if_neg (by simp [e, e2])]
/-- A good wheel is taken in as it is. -/
theorem take_good {now : Int} {R : Rws} (h : GoodR now R) (hz : ∀ k, 16 ≤ k → R k = []) : takeL now (allR R) noR = some R := by
  have key : ∀ (n : Nat) (p q : List Tm), p.length = n → allR R = p ++ q → takeL now p noR = some (fun k => p.filter (fun t => rowOf now t.2 = k)) := by
    intro n
    induction n with
    | zero =>
      intro p q hp he
      obtain rfl := List.length_eq_zero_iff.1 hp
      simp [takeL]
    | succ n ih =>
      intro l q hl he
      obtain ⟨p, x, rfl⟩ : ∃ pre x, l = pre ++ [x] := ⟨l.dropLast, l.getLast (by intro e; simp [e] at hl), (List.dropLast_concat_getLast _).symm⟩
      have he2 : allR R = p ++ (x :: q) := by rw [he]; simp
      rw [takeL_snoc, ih p (x :: q) (by simpa using hl) he2]
      simp only [Option.bind_some, takeT]
      have hx : x ∈ allR R := by rw [he2]; simp
      obtain ⟨k0, hk0, hxk⟩ := mem_all.1 hx
      obtain ⟨o1, o2, o3, o4, o5⟩ := h.ok k0 hk0 x hxk
      have hpp : (allR (fun k => p.filter (fun t => rowOf now t.2 = k))).Perm p := by
        clear hl he he2 ih hx hxk
        induction p with
        | nil => simp [allR]
        | cons t p ihp =>
          have e : (fun k => (t :: p).filter (fun t => rowOf now t.2 = k)) = fun j => if j = rowOf now t.2 then t :: p.filter (fun s => rowOf now s.2 = rowOf now t.2) else p.filter (fun s => rowOf now s.2 = j) := by
            funext j
            by_cases e : j = rowOf now t.2
            · subst e; simp
            · rw [if_neg e, List.filter_cons, if_neg (by simp; omega)]
          rw [e]
          unfold allR
          exact (flatMap_upd (List.range 16) List.nodup_range (fun k => p.filter (fun s => rowOf now s.2 = k)) (rowOf now t.2) (List.mem_range.2 (rowOf_lt _ _)) _ [t] (List.Perm.refl _)).trans (List.Perm.cons t ihp)
      have hlen := h.len
      have hnd := h.nd
      rw [he2] at hlen hnd
      have hok : OkT now (fun k => p.filter (fun t => rowOf now t.2 = k)) x := by
        refine ⟨o1, o2, o3, by omega, fun y hy => ?_, ?_⟩
        · have hy' := hpp.mem_iff.1 hy
          rw [List.map_append, List.nodup_append] at hnd
          exact hnd.2.2 y.1 (List.mem_map_of_mem hy') x.1 (by simp)
        · rw [hpp.length_eq]; simp at hlen; omega
      rw [if_pos hok]
      congr 1
      funext k
      unfold put
      by_cases e : k = rowOf now x.2
      · rw [if_pos e, List.filter_append]
        have e3 : [x].filter (fun t => decide (rowOf now t.2 = k)) = [x] := by simp [e]
        rw [e3]
        apply ins_end
        intro y hy
        have hk : k < 16 := by rw [e]; exact rowOf_lt _ _
        have hf := filter_row h (List.range 16) List.nodup_range (fun k hk => List.mem_range.1 hk) k
        rw [if_pos (List.mem_range.2 hk)] at hf
        have hf2 : (allR R).filter (fun t => decide (rowOf now t.2 = k)) = R k := hf
        rw [he2, List.filter_append, List.filter_cons, if_pos (by simp [e])] at hf2
        have hsd := h.sd k hk
        rw [← hf2] at hsd
        exact (List.pairwise_append.1 hsd).2.2 y hy x (List.mem_cons_self ..)
      · rw [if_neg e, List.filter_append]
        have e3 : [x].filter (fun t => decide (rowOf now t.2 = k)) = [] := by simp; omega
        rw [e3, List.append_nil]
  rw [key _ (allR R) [] rfl (by simp)]
  congr 1
  funext k
  have hf := filter_row h (List.range 16) List.nodup_range (fun k hk => List.mem_range.1 hk) k
  refine hf.trans ?_
  by_cases hk : k < 16
  · rw [if_pos (List.mem_range.2 hk)]
  · rw [if_neg (by simpa using hk), hz k (by omega)]
end Go.Proofs.Ytkmkidahaagbpaa
