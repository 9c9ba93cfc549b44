/- Laid together, in this order: Mw, Draw, Wds, Drx. -/
import Derived.Test.YtkmkidahaagbpaaRn
import Derived.Test.YtkmkidahaagbpaaSrt
import Derived.Test.YtkmkidahaagbpaaDrp
import Derived.Test.YtkmkidahaagbpaaOpenB
import Derived.Test.YtkmkidahaagbpaaLawF
import Derived.Test.YtkmkidahaagbpaaWhl
import Derived.Laws.BitsAllLaws
import Derived.Test.YtkmkidahaagbpaaOws
/- Wheels tell in order, without any walk: what a run tells, and what it leaves. -/
namespace Go.Proofs.Ytkmkidahaagbpaa
set_option linter.unusedSimpArgs false
set_option linter.unusedVariables false
theorem GoodR.put {now : Int} {R : Rws} {x : Tm} (hg : GoodR now R) (hok : OkT now R x) : GoodR now (put now R x) := by
  obtain ⟨o1, o2, o3, o4, o5, o6⟩ := hok
  have hpp := put_perm now R x
  have hlen := hg.len
  refine ⟨fun k hk => ?_, fun k hk t ht => ?_, ?_, ?_⟩
  · unfold Go.Proofs.Ytkmkidahaagbpaa.put
    split
    · exact ins_sd (hg.sd k hk) (fun y hy => o5 y (row_sub hk hy))
    · exact hg.sd k hk
  · unfold Go.Proofs.Ytkmkidahaagbpaa.put at ht
    split at ht
    · rename_i e
      rcases ins_mem.1 ht with rfl | ht
      · exact ⟨o1, o2, o3, by omega, e.symm⟩
      · exact hg.ok k hk t ht
    · exact hg.ok k hk t ht
  · refine (hpp.map _).nodup_iff.2 (List.nodup_cons.2 ⟨?_, hg.nd⟩)
    intro hm
    obtain ⟨y, hy, e⟩ := List.mem_map.1 hm
    exact o5 y hy e
  · rw [hpp.length_eq]; simp; omega
/-- Rows at n, and timers that are still to be put. -/
structure PT (n : Int) (l : List Tm) (R : Rws) : Prop where
  sd : ∀ k, k < 16 → Sd (R k)
  ok : ∀ k, k < 16 → ∀ t ∈ R k, 1 ≤ t.1 ∧ t.1 ≤ 99 ∧ n ≤ t.2 ∧ t.2 ≤ n + 62 ∧ rowOf n t.2 = k
  lk : ∀ t ∈ l, 1 ≤ t.1 ∧ t.1 ≤ 99 ∧ n ≤ t.2 ∧ t.2 ≤ n + 62
  nd : ((l ++ allR R).map Prod.fst).Nodup
theorem PT.put {n : Int} {t : Tm} {l : List Tm} {R : Rws} (h : PT n (t :: l) R) : PT n l (put n R t) := by
  have hp : (l ++ allR (Go.Proofs.Ytkmkidahaagbpaa.put n R t)).Perm (t :: l ++ allR R) := by
    refine ((put_perm n R t).append_left l).trans ?_
    exact List.perm_middle
  have ht0 := h.lk t (List.mem_cons_self ..)
  refine ⟨fun k hk => ?_, fun k hk x hx => ?_, fun x hx => h.lk x (List.mem_cons_of_mem _ hx), (hp.map _).nodup_iff.2 h.nd⟩
  · unfold Go.Proofs.Ytkmkidahaagbpaa.put
    split
    · refine ins_sd (h.sd k hk) (fun y hy e => ?_)
      have h1 := h.nd
      rw [List.cons_append, List.map_cons] at h1
      exact (List.nodup_cons.1 h1).1 (List.mem_map.2 ⟨y, List.mem_append_right _ (row_sub hk hy), e⟩)
    · exact h.sd k hk
  · unfold Go.Proofs.Ytkmkidahaagbpaa.put at hx
    split at hx
    · rename_i e
      rcases ins_mem.1 hx with rfl | hx
      · exact ⟨ht0.1, ht0.2.1, ht0.2.2.1, ht0.2.2.2, e.symm⟩
      · exact h.ok k hk x hx
    · exact h.ok k hk x hx
theorem PT.putL {n : Int} {l : List Tm} {R : Rws} (h : PT n l R) : PT n [] (putL n l R) := by
  induction l generalizing R with
  | nil => exact h
  | cons t l ih => exact ih (PT.put h)
theorem putL_perm (n : Int) (l : List Tm) (R : Rws) : (allR (putL n l R)).Perm (l ++ allR R) := by
  induction l generalizing R with
  | nil => exact List.Perm.refl _
  | cons t l ih => exact (ih _).trans (((put_perm n R t).append_left l).trans List.perm_middle)
theorem rowOf_same {m n a : Int} (h : m / 8 = n / 8) : rowOf m a = rowOf n a := by unfold rowOf; rw [h]
theorem rowOf_next {n a : Int} (h0 : n % 8 = 0) (h1 : n ≤ a) (h2 : a ≤ n + 62) (h3 : rowOf (n - 1) a ≠ farK n) : rowOf n a = rowOf (n - 1) a := by
  unfold rowOf farK at *
  by_cases e1 : a / 8 = (n - 1) / 8
  · omega
  · rw [if_neg e1] at h3 ⊢
    by_cases e2 : a / 8 = n / 8
    · rw [e2] at h3; exact absurd rfl h3
    · rw [if_neg e2]
theorem GoodR.near {now : Int} {R : Rws} (h : GoodR now R) : PT (now + 1) [] (near1 (now + 1) R) ∧ (allR (near1 (now + 1) R)).Perm (allR R) := by
  unfold near1
  split
  · rename_i e0
    have hk := farK_lt (now + 1)
    have hp := emp_upd R _ hk
    refine ⟨PT.putL ⟨fun j hj => ?_, fun j hj t ht => ?_, fun t ht => ?_, (hp.map _).nodup_iff.1 h.nd⟩, (putL_perm _ _ _).trans hp.symm⟩
    · unfold updN
      split
      · exact List.Pairwise.nil
      · exact h.sd j hj
    · unfold updN at ht
      split at ht
      · cases ht
      · rename_i hne
        obtain ⟨a1, a2, a3, a4, a5⟩ := h.ok j hj t ht
        refine ⟨a1, a2, by omega, by omega, ?_⟩
        have e1 : now + 1 - 1 = now := by omega
        have := rowOf_next (n := now + 1) (a := t.2) e0 (by omega) (by omega) (by rw [e1, a5]; exact hne)
        rw [this, e1, a5]
    · obtain ⟨a1, a2, a3, a4, a5⟩ := h.ok _ hk t ht
      exact ⟨a1, a2, by omega, by omega⟩
  · rename_i e0
    refine ⟨⟨h.sd, fun j hj t ht => ?_, (fun t ht => by cases ht), by simpa using h.nd⟩, List.Perm.refl _⟩
    obtain ⟨a1, a2, a3, a4, a5⟩ := h.ok j hj t ht
    exact ⟨a1, a2, by omega, by omega, by rw [← a5]; exact rowOf_same (by omega)⟩
theorem rowOf_now {n a : Int} (h : rowOf n a = nearK n) : a = n := by
  unfold rowOf nearK at h
  split at h <;> omega
theorem rowOf_self (n : Int) : rowOf n n = nearK n := by unfold rowOf nearK; rw [if_pos rfl]
/-- Just those whose time is n. -/
abbrev isAt (n : Int) (t : Tm) : Bool := decide (t.2 = n)
abbrev upTo (n : Int) (t : Tm) : Bool := decide (t.2 ≤ n)
theorem GoodR.tick {now : Int} {R : Rws} (h : GoodR now R) :
    GoodR (now + 1) (tickR (now + 1) R) ∧ (allR (tickR (now + 1) R)).Perm ((allR R).filter (fun t => !isAt (now + 1) t)) ∧
    Sd (near1 (now + 1) R (nearK (now + 1))) ∧ (near1 (now + 1) R (nearK (now + 1))).Perm ((allR R).filter (isAt (now + 1))) ∧ (∀ t ∈ near1 (now + 1) R (nearK (now + 1)), t.2 = now + 1) := by
  obtain ⟨hP, hp⟩ := h.near
  have hk := nearK_lt (now + 1)
  have he := emp_upd (near1 (now + 1) R) _ hk
  have hall : ∀ t ∈ near1 (now + 1) R (nearK (now + 1)), t.2 = now + 1 := fun t ht => rowOf_now (hP.ok _ hk t ht).2.2.2.2
  have hnot : ∀ t ∈ allR (tickR (now + 1) R), t.2 ≠ now + 1 := fun t ht e => by
    obtain ⟨j, hj, ht⟩ := mem_all.1 ht
    unfold tickR updN at ht
    split at ht
    · cases ht
    · rename_i hne
      have := (hP.ok j hj t ht).2.2.2.2
      rw [e, rowOf_self] at this
      exact hne this.symm
  have hL : (near1 (now + 1) R (nearK (now + 1)) ++ allR (tickR (now + 1) R)).Perm (allR R) := he.symm.trans hp
  have f1 : (near1 (now + 1) R (nearK (now + 1)) ++ allR (tickR (now + 1) R)).filter (isAt (now + 1)) = near1 (now + 1) R (nearK (now + 1)) := by
    rw [List.filter_append, List.filter_eq_self.2 (fun t ht => decide_eq_true (hall t ht)), List.filter_eq_nil_iff.2 (fun t ht => by simpa using hnot t ht), List.append_nil]
  have f2 : (near1 (now + 1) R (nearK (now + 1)) ++ allR (tickR (now + 1) R)).filter (fun t => !isAt (now + 1) t) = allR (tickR (now + 1) R) := by
    rw [List.filter_append, List.filter_eq_nil_iff.2 (fun t ht => by simpa using hall t ht), List.nil_append, List.filter_eq_self.2 (fun t ht => by simpa using hnot t ht)]
  have p1 := hL.filter (isAt (now + 1))
  have p2 := hL.filter (fun t => !isAt (now + 1) t)
  rw [f1] at p1
  rw [f2] at p2
  refine ⟨⟨fun j hj => ?_, fun j hj t ht => ?_, ?_, ?_⟩, p2, hP.sd _ hk, p1, hall⟩
  · unfold tickR updN
    split
    · exact List.Pairwise.nil
    · exact hP.sd j hj
  · have hn := hnot t (row_sub hj ht)
    unfold tickR updN at ht
    split at ht
    · cases ht
    · obtain ⟨a1, a2, a3, a4, a5⟩ := hP.ok j hj t ht
      exact ⟨a1, a2, by omega, by omega, a5⟩
  · exact (p2.map _).nodup_iff.2 (h.nd.sublist (List.filter_sublist.map _))
  · rw [p2.length_eq]
    exact Nat.le_trans (List.length_filter_le _ _) h.len
theorem InOrd.of_sd {n : Int} {l : List Tm} (h : Sd l) (ha : ∀ t ∈ l, t.2 = n) : InOrd l := by
  refine List.Pairwise.imp_of_mem ?_ h
  intro a b h1 h2 hlt
  rw [Bool.not_eq_true', ltT_false]
  unfold LtT
  have := ha a h1
  have := ha b h2
  omega
theorem InOrd.append {l m : List Tm} (hl : InOrd l) (hm : InOrd m) (h : ∀ a ∈ l, ∀ b ∈ m, a.2 < b.2) : InOrd (l ++ m) := by
  refine List.pairwise_append.2 ⟨hl, hm, fun a ha b hb => ?_⟩
  rw [Bool.not_eq_true', ltT_false]
  unfold LtT
  have := h a ha b hb
  omega
theorem srt_filter (p : Tm → Bool) (l : List Tm) : (srt l).filter p = srt (l.filter p) :=
  ord_uniq (List.Pairwise.filter p (srt_ord l)) (srt_ord _) (((srt_self l).filter p).trans (srt_self _).symm)
theorem upTo_succ (n : Int) (l : List Tm) : (l.filter (upTo n) ++ l.filter (isAt (n + 1))).Perm (l.filter (upTo (n + 1))) := by
  have h := List.filter_append_perm (upTo n) (l.filter (upTo (n + 1)))
  rw [List.filter_filter, List.filter_filter] at h
  have e1 : l.filter (fun t => upTo n t && upTo (n + 1) t) = l.filter (upTo n) := by
    congr 1; funext t
    by_cases e : t.2 ≤ n <;> simp [upTo, e]; omega
  have e2 : l.filter (fun t => (!upTo n t) && upTo (n + 1) t) = l.filter (isAt (n + 1)) := by
    congr 1; funext t
    by_cases e : t.2 ≤ n
    · have : t.2 ≠ n + 1 := by omega
      simp [upTo, isAt, e, this]
    · by_cases e3 : t.2 ≤ n + 1
      · have : t.2 = n + 1 := by omega
        simp [upTo, isAt, this]; omega
      · have : t.2 ≠ n + 1 := by omega
        simp [upTo, isAt, e, e3, this]
  rw [e1, e2] at h
  exact h
/-- A run: what is left, and what it tells. -/
theorem GoodR.run {now : Int} {R : Rws} (h : GoodR now R) (j : Nat) :
    GoodR (now + j) (runR now R j) ∧ (allR (runR now R j)).Perm ((allR R).filter (fun t => !upTo (now + j) t)) ∧ runI now R j = (srt ((allR R).filter (upTo (now + j)))).map Prod.fst := by
  induction j with
  | zero =>
    have e : now + ((0 : Nat) : Int) = now := by omega
    rw [e]
    have ha : ∀ t ∈ allR R, ¬ t.2 ≤ now := fun t ht => by
      obtain ⟨k, hk, ht⟩ := mem_all.1 ht
      have := h.ok k hk t ht
      omega
    refine ⟨h, ?_, ?_⟩
    · rw [List.filter_eq_self.2 (fun t ht => by simpa [upTo] using ha t ht)]; exact List.Perm.refl _
    · rw [List.filter_eq_nil_iff.2 (fun t ht => by simpa [upTo] using ha t ht)]; simp [runI, srt]
  | succ j ih =>
    obtain ⟨hg, hp, hi⟩ := ih
    obtain ⟨t1, t2, t3, t4, t5⟩ := hg.tick
    have e : now + ((j + 1 : Nat) : Int) = now + j + 1 := by omega
    rw [e]
    refine ⟨t1, ?_, ?_⟩
    · refine t2.trans ((hp.filter _).trans ?_)
      rw [List.filter_filter]
      have e1 : (fun t : Tm => (!isAt (now + j + 1) t) && !upTo (now + j) t) = fun t => !upTo (now + j + 1) t := by
        funext t
        by_cases q1 : t.2 = now + j + 1 <;> by_cases q2 : t.2 ≤ now + j <;> by_cases q3 : t.2 ≤ now + j + 1 <;> simp [isAt, upTo, q1, q2, q3] <;> omega
      rw [e1]
    · have p4 := t4.trans (hp.filter (isAt (now + j + 1)))
      rw [List.filter_filter] at p4
      have e1 : (allR R).filter (fun t => isAt (now + j + 1) t && !upTo (now + j) t) = (allR R).filter (isAt (now + j + 1)) := by
        congr 1; funext t
        by_cases q1 : t.2 = now + j + 1 <;> by_cases q2 : t.2 ≤ now + j <;> simp [isAt, upTo, q1, q2] <;> omega
      rw [e1] at p4
      have hs : srt ((allR R).filter (upTo (now + j + 1))) = srt ((allR R).filter (upTo (now + j))) ++ near1 (now + j + 1) (runR now R j) (nearK (now + j + 1)) := by
        refine ord_uniq (srt_ord _) (InOrd.append (srt_ord _) (InOrd.of_sd t3 t5) (fun a ha b hb => ?_)) ?_
        · have h1 : a.2 ≤ now + j := by
            have := (List.mem_filter.1 (srt_mem.1 ha)).2
            simpa [upTo] using this
          have h2 := t5 b hb
          omega
        · exact (srt_self _).trans ((upTo_succ _ _).symm.trans (((srt_self _).symm.append_right _).trans (p4.symm.append_left _)))
      rw [hs, List.map_append, ← hi]
      rfl
/-- A timer put in and dropped again. -/
theorem ins_filter {l : List Tm} {t : Tm} (h : ∀ x ∈ l, x.1 ≠ t.1) : (ins l t).filter (fun x => x.1 != t.1) = l := by
  rw [ins_eq, List.filter_append, List.filter_cons, if_neg (by simp)]
  rw [← List.filter_append, List.take_append_drop]
  exact filter_eq_self' h
theorem drop_put {now : Int} {R : Rws} {t : Tm} (h : ∀ x ∈ allR R, x.1 ≠ t.1) (hz : ∀ k, 16 ≤ k → R k = []) : dropR t.1 (put now R t) = R := by
  funext k
  unfold dropR put
  by_cases e : k = rowOf now t.2
  · rw [if_pos e]
    have hk : k < 16 := by rw [e]; exact rowOf_lt _ _
    exact ins_filter (fun x hx => h x (row_sub hk hx))
  · rw [if_neg e]
    by_cases hk : k < 16
    · exact filter_eq_self' (fun x hx => h x (row_sub hk hx))
    · rw [hz k (by omega)]; rfl
end Go.Proofs.Ytkmkidahaagbpaa
/- The cursor that draws. -/
namespace Go.Proofs.Ytkmkidahaagbpaa
open Go.RowKit
set_option linter.unusedSimpArgs false
set_option linter.unusedVariables false
/-- A cursor at block C that has read at most k times, its bytes in blocks of Y. -/
def Cur (Y : Nat → Prop) (w : World) (C k : Nat) : Prop :=
  ∃ (ao : Option Addr) (n c at_ : Nat) (f : Nat → Int) (s : Int), Row w C 3 (fun i => if i = 0 then Value.slice ao n c else if i = 1 then .int .i64 at_ else .int .u64 s) ∧ BytesAt Y w ao n f ∧ at_ ≤ k ∧ (∀ b, Y b → b ≠ C)
theorem low8 (n : Int) : ∃ x : Nat, x ≤ 255 ∧ wrap64 (bits .and .u64 (IntKind.u64.wrap n / 1099511627776) 255) = x := by
  have h : IntKind.u64.wrap n = n % 18446744073709551616 := by simp [IntKind.wrap, IntKind.bits, IntKind.signed]
  rw [h, u64_and _ _ (by omega) (by omega) (by omega) (by omega)]
  have hle : (n % 18446744073709551616 / 1099511627776).toNat &&& (255 : Int).toNat ≤ 255 := Nat.and_le_right
  refine ⟨_, hle, ?_⟩
  unfold wrap64
  omega
/-- A read: the cursor goes on. -/
theorem cur_step {Y : Nat → Prop} {w : World} {C k n c at_ : Nat} {ao : Option Addr} {f : Nat → Int} {s : Int} (r : Row w C 3 (fun i => if i = 0 then Value.slice ao n c else if i = 1 then .int .i64 at_ else .int .u64 s)) (hB : BytesAt Y w ao n f) (hat : at_ ≤ k) (hY : ∀ b, Y b → b ≠ C) (a b : Nat) (s' : Int) :
    Cur Y ((((w.drewN a).setCell ⟨C, 1, none⟩ (.int .i64 ((at_ : Int) + 1))).setCell ⟨C, 2, none⟩ (.int .u64 s')).drewN b) C (k + 1) ∧ Mod (fun b => b = C) w ((((w.drewN a).setCell ⟨C, 1, none⟩ (.int .i64 ((at_ : Int) + 1))).setCell ⟨C, 2, none⟩ (.int .u64 s')).drewN b) := by
  have m1 : Mod (fun b => b = C) w (w.drewN a) := ((Blw.refl w).drewN a).mod _
  have m2 := (m1.trans (Mod.setCell (X := fun b => b = C) _ (p := ⟨C, 1, none⟩) rfl (.int .i64 ((at_ : Int) + 1)))).trans (Mod.setCell (X := fun b => b = C) _ (p := ⟨C, 2, none⟩) rfl (.int .u64 s'))
  have m3 := m2.trans (((Blw.refl _).drewN b).mod (fun b => b = C))
  refine ⟨⟨ao, n, c, at_ + 1, f, s', ?_, hB.mod m3 (fun x hx => hY x hx), by omega, hY⟩, m3⟩
  refine ((((r.blw ((Blw.refl w).drewN a)).set 1 _).set 2 _).blw ((Blw.refl _).drewN b)).congr (fun i hi => ?_)
  match i, hi with
  | 0, _ => rfl
  | 1, _ => simp
  | 2, _ => rfl
set_option maxRecDepth 10000 in
set_option maxHeartbeats 1600000 in
theorem next_any (Y : Nat → Prop) (C k : Nat) (w : World) (hk : k ≤ 1000000) (h : Cur Y w C k) :
    Calls Try.prog 92 #[.pointer (some ⟨C, 0, none⟩)] w fun e w' => ∃ x : Nat, e = .returned (.int .i64 x) ∧ x ≤ 255 ∧ Cur Y w' C (k + 1) ∧ Mod (fun b => b = C) w w' := by
  obtain ⟨ao, n, c, at_, f, s, r, hB, hat, hY⟩ := h
  have hn := hB.1
  have HB : Hid (BytesAt Y w ao n f) := hB
  obtain ⟨p0, p1, p2⟩ := get3 r
  have f0 := r.frozen 0
  have f1 := r.frozen 1
  have f2 := r.frozen 2
  have HN : Hid _ := fun a b s' => cur_step r hB hat hY a b s'
  clear hB r
  go_enter Try.func92, Try.ntmps92
  by_cases hlt : at_ < n
  · have hlt' : (at_ : Int) < n := by omega
    have d1 : decide ((at_ : Int) < n) = true := by simp; omega
    obtain ⟨b, o, rfl, -, q, x0, x1⟩ := HB.out.2 at_ hlt
    go_wp2_with fail
    go_quiet (fail)
    go_wp2_with fail
    go_quiet (fail)
    have d2 : decide ((at_ : Int) + 1 ≤ n) = true := by simp; omega
    go_wp2_with fail
    go_quiet (fail)
    go_wp2
    go_ret
    obtain ⟨x, hx⟩ := Int.eq_ofNat_of_zero_le x0
    exact ⟨x, by rw [← hx]; rfl, by omega, HN.out _ _ _⟩
  · have d1 : decide ((at_ : Int) < n) = false := by simp; omega
    have d2 : decide ((at_ : Int) + 1 ≤ n) = false := by simp; omega
    go_wp2_with fail
    go_quiet (fail)
    go_wp2_with fail
    go_quiet (fail)
    go_wp2
    go_ret
    obtain ⟨x, hx, e⟩ := low8 (IntKind.u64.wrap (IntKind.u64.wrap (s * 6364136223846793005)) + 1442695040888963407)
    exact ⟨x, by rw [← e]; rfl, hx, HN.out _ _ _⟩
theorem Cur.le {Y : Nat → Prop} {w : World} {C k k' : Nat} (h : Cur Y w C k) (hk : k ≤ k') : Cur Y w C k' := by
  obtain ⟨ao, n, c, at_, f, s, r, hB, hat, hY⟩ := h
  exact ⟨ao, n, c, at_, f, s, r, hB, by omega, hY⟩
theorem Cur.blw {Y : Nat → Prop} {w w' : World} {C k : Nat} (h : Cur Y w C k) (hb : Blw w w') : Cur Y w' C k := by
  obtain ⟨ao, n, c, at_, f, s, r, hB, hat, hY⟩ := h
  exact ⟨ao, n, c, at_, f, s, r.blw hb, hB.blw hb, hat, hY⟩
theorem Cur.mod {X Y : Nat → Prop} {w w' : World} {C k : Nat} (h : Cur Y w C k) (hb : Mod X w w') (hC : ¬ X C) (hx : ∀ b, Y b → ¬ X b) : Cur Y w' C k := by
  obtain ⟨ao, n, c, at_, f, s, r, hB, hat, hY⟩ := h
  exact ⟨ao, n, c, at_, f, s, r.mod hb hC, hB.mod hb hx, hat, hY⟩
theorem Cur.lt {Y : Nat → Prop} {w : World} {C k : Nat} (h : Cur Y w C k) : C < w.heap.size := by
  obtain ⟨ao, n, c, at_, f, s, r, _⟩ := h
  exact r.lt
set_option maxHeartbeats 1600000 in
theorem pick_any (Y : Nat → Prop) (C k : Nat) (N : Int) (w : World) (hk : k ≤ 900000) (hN : 1 < N) (h : Cur Y w C k) :
    Calls Try.prog 64 #[.pointer (some ⟨C, 0, none⟩), .int .i64 N] w fun e w' => ∃ x : Nat, e = .returned (.int .i64 x) ∧ (x : Int) < N ∧ Cur Y w' C (k + 2) ∧ Mod (fun b => b = C) w w' := by
  have d1 : decide (N ≤ 1) = false := by simp; omega
  have hN0 : ¬ N = 0 := by omega
  have hm : ∀ x : Nat, ∃ y : Nat, (x : Int).tmod N = y ∧ (y : Int) < N := fun x => by
    rw [Int.tmod_eq_emod_of_nonneg (by omega)]
    obtain ⟨y, hy⟩ := Int.eq_ofNat_of_zero_le (Int.emod_nonneg x hN0)
    exact ⟨y, hy, by rw [← hy]; exact Int.emod_lt_of_pos _ (by omega)⟩
  have HM : Hid _ := hm
  clear hm
  go_enter Try.func64, Try.ntmps64
  go_wp2_with fail
  refine (next_any Y C k _ (by omega) h).mono ?_
  rintro e w1 ⟨x, rfl, hx, c1, m1⟩
  by_cases hg : N > 200
  · have d2 : decide (N > 200) = true := by simp; omega
    go_wp2_with fail
    refine (next_any Y C (k + 1) _ (by omega) c1).mono ?_
    rintro e w2 ⟨x2, rfl, hx2, c2, m2⟩
    obtain ⟨y, e1, e2⟩ := HM.out (x * 256 + x2)
    have e1' : ((x : Int) * 256 + x2).tmod N = y := by rw [← e1]; congr 1
    clear h c1
    go_wp2
    go_ret
    exact ⟨y, rfl, e2, c2, m1.trans m2⟩
  · have d2 : decide (N > 200) = false := by simp; omega
    obtain ⟨y, e1, e2⟩ := HM.out x
    clear h
    go_wp2
    go_ret
    exact ⟨y, rfl, e2, c1.le (by omega), m1⟩
set_option maxHeartbeats 1600000 in
theorem among_any (Y Y2 : Nat → Prop) (C k : Nat) (ao : Option Addr) (n c : Nat) (f : Nat → Int) (w : World) (hk : k ≤ 900000) (hn : 1 < n) (hI : IntsAt Y2 w ao n f) (hY2 : ∀ b, Y2 b → b ≠ C) (h : Cur Y w C k) :
    Calls Try.prog 47 #[.pointer (some ⟨C, 0, none⟩), .slice ao n c] w fun e w' => ∃ x : Int, e = .returned (.int .i64 x) ∧ Cur Y w' C (k + 2) ∧ Mod (fun b => b = C) w w' := by
  have HI : Hid (IntsAt Y2 w ao n f) := hI
  clear hI
  go_enter Try.func47, Try.ntmps47
  go_wp2_with fail
  refine (pick_any Y C k n _ hk (by omega) h).mono ?_
  rintro e w1 ⟨x, rfl, hx, c1, m1⟩
  obtain ⟨b, o, rfl, -, q⟩ := (HI.out.mod m1 (fun b hb => hY2 b hb)).2 x (by omega)
  clear h
  go_wp2
  go_ret
  exact ⟨f x, rfl, c1, m1⟩
end Go.Proofs.Ytkmkidahaagbpaa
/- A wheel that is drawn: what stands. -/
namespace Go.Proofs.Ytkmkidahaagbpaa
open Go.RowKit
set_option linter.unusedSimpArgs false
set_option linter.unusedVariables false
theorem rlist_pdn (n : Nat) (R : Rws) (i : Nat) : rlist (pdn n R) i = R i := by
  refine List.ext_getElem? (fun j => ?_)
  by_cases h : j < (R i).length
  · simp [rlist, h, lf, la, nth, List.getD_eq_getElem?_getD]
  · simp [rlist, h]
theorem rows16_wd8 (now : Int) (R : Rws) {k : Nat} (hk : k < 16) : rows16 (wd8 now R) k = R k := by
  unfold rows16
  by_cases h : k < 8
  · rw [if_pos h]; exact rlist_pdn 8 R k
  · rw [if_neg h, if_pos hk]
    have := rlist_pdn 8 (fun k => R (8 + k)) (k - 8)
    rw [show 8 + (k - 8) = k by omega] at this
    exact this
theorem rows16_eq (now : Int) {R : Rws} (hz : ∀ k, 16 ≤ k → R k = []) : rows16 (wd8 now R) = R := by
  funext k
  by_cases h : k < 16
  · exact rows16_wd8 now R h
  · rw [hz k (by omega)]; exact rows16_out _ k (by omega)
theorem GoodR.wd {now : Int} {R : Rws} (h : GoodR now R) (h0 : 0 ≤ now) (h1 : now ≤ 1000) : GoodD (wd8 now R) :=
  ⟨⟨h0, h1⟩, rfl, rfl, h.congr (fun k hk => (rows16_wd8 now R hk).symm)⟩
theorem GoodD.small8' {D : WD} (h : GoodD D) {R : Rws} (e : D = wd8 D.now R) : D.small := by
  rw [e]
  refine small8 ?_
  have h2 := h.g.len
  rw [e] at h2
  have : allR (rows16 (wd8 D.now R)) = allR R := by
    unfold allR
    simp only [List.flatMap_def]
    rw [List.map_congr_left (fun k hk => rows16_wd8 D.now R (List.mem_range.1 hk))]
  rw [this] at h2
  omega
theorem GoodD.wf8 {D : WD} (h : GoodD D) {R : Rws} (e : D = wd8 D.now R) : D.wf := by
  have hg : ∀ k, k < 16 → ∀ t ∈ R k, D.now < t.2 ∧ t.2 ≤ D.now + 63 := fun k hk t ht => by
    have := h.g.ok k hk t (by rw [e, rows16_wd8 _ _ hk]; exact ht)
    omega
  have hn := h.now
  rw [e]
  constructor
  · intro i t hi ht
    have hi : i < 8 := hi
    have ht : t < (R i).length := ht
    have := hg i (by omega) _ (nth_mem ht)
    show _ ≤ (nth (R i) t).2 ∧ (nth (R i) t).2 ≤ _
    omega
  · intro i t hi ht
    have hi : i < 8 := hi
    have ht : t < (R (8 + i)).length := ht
    have := hg (8 + i) (by omega) _ (nth_mem ht)
    show _ ≤ (nth (R (8 + i)) t).2 ∧ (nth (R (8 + i)) t).2 ≤ _
    omega
/-- A wheel of one's own behind w, whose box is at zs. -/
def OwnD (w wr : World) (zs : Nat) (b : WV) (D : WD) : Prop :=
  ∃ lo g1 g2 R P Cc, w.heap.size < lo ∧ b = ⟨some ⟨g1, 0, none⟩, some ⟨g2, 0, none⟩, 8, 8⟩ ∧ D = wd8 D.now R ∧ OW lo g1 g2 R P Cc wr ∧ zs ≠ g1 ∧ zs ≠ g2
/-- Block z is neither of the wheel's two lists. -/
def Nob (b : WV) (z : Nat) : Prop := b.a1 ≠ some ⟨z, 0, none⟩ ∧ b.a2 ≠ some ⟨z, 0, none⟩
theorem OwnD.mod {w wr w1 : World} {zs : Nat} {b : WV} {D : WD} {Z : Nat → Prop} (h : OwnD w wr zs b D) (hm : Mod Z wr w1) (hz : ∀ x, Z x → x ≤ w.heap.size ∨ (Ty wr x 25 ∧ Nob b x)) : OwnD w w1 zs b D := by
  obtain ⟨lo, g1, g2, R, P, Cc, hlo, rfl, hD, ho, e1, e2⟩ := h
  refine ⟨lo, g1, g2, R, P, Cc, hlo, rfl, hD, ⟨ho.n.mod hm (fun e => ?_), ho.f.mod hm (fun e => ?_), ho.hr.mod hm (fun k x hk e e2 => ?_), ho.n1, ho.n2, ho.ne, ho.lo1, ho.lo2⟩, e1, e2⟩
  · rcases hz _ e with h5 | h5
    · have := ho.lo1; omega
    · exact h5.2.1 rfl
  · rcases hz _ e with h5 | h5
    · have := ho.lo2; omega
    · exact h5.2.2 rfl
  · rcases hz _ e2 with h5 | h5
    · have := ho.hr.lo k x hk e; omega
    · exact ho.noTy h5.1 (by decide) hk e
theorem OwnD.blw {w wr w1 : World} {zs : Nat} {b : WV} {D : WD} (h : OwnD w wr zs b D) (hb : Blw wr w1) : OwnD w w1 zs b D := h.mod (hb.mod (fun _ => False)) (fun _ h => h.elim)
theorem OwnD.fresh {w wr : World} {zs : Nat} {b : WV} {D : WD} (h : OwnD w wr zs b D) {z : Nat} (hz : wr.heap.size ≤ z) : Nob b z := by
  obtain ⟨lo, g1, g2, R, P, Cc, hlo, rfl, hD, ho, e1, e2⟩ := h
  have h1 := ho.n.lt
  have h2 := ho.f.lt
  exact ⟨fun e => by simp only [Option.some.injEq, Addr.mk.injEq] at e; omega, fun e => by simp only [Option.some.injEq, Addr.mk.injEq] at e; omega⟩
theorem OwnD.at_ {w wr : World} {zs : Nat} {b : WV} {D : WD} (h : OwnD w wr zs b D) (hg : GoodD D) : WOwn (fun x => w.heap.size < x ∧ x < wr.heap.size) wr b D := by
  obtain ⟨lo, g1, g2, R, P, Cc, hlo, rfl, hD, ho, e1, e2⟩ := h
  have hl : ∀ k, k < 16 → (R k).length ≤ 1000 := fun k hk => by
    have h2 := hg.g.len
    have h3 := len_row (S := rows16 D) hk
    rw [hD, rows16_wd8 _ _ hk, ← hD] at h3
    omega
  have := ho.own D.now hl
  rw [← hD] at this
  exact this.mono (fun x hx => ⟨by omega, hx.2⟩)
theorem OwnD.wd {w wr : World} {zs : Nat} {b : WV} {D : WD} (h : OwnD w wr zs b D) : ∃ R, D = wd8 D.now R := by
  obtain ⟨lo, g1, g2, R, P, Cc, hlo, rfl, hD, ho, e1, e2⟩ := h
  exact ⟨R, hD⟩
theorem HasO.ownD {w W W' : World} {zs : Nat} {b : WV} {D : WD} (h : HasO W W' b D) (hw : w.heap.size < W.heap.size) (hz : zs < W.heap.size) : OwnD w W' zs b D ∧ ∀ z, z < W.heap.size → Nob b z := by
  obtain ⟨g1, g2, Rr, P, C, rfl, hR, ho⟩ := h
  have h1 := ho.lo1
  have h2 := ho.lo2
  exact ⟨⟨_, g1, g2, Rr, P, C, hw, rfl, hR, ho, by omega, by omega⟩, fun z hz => ⟨fun e => by simp only [Option.some.injEq, Addr.mk.injEq] at e; omega, fun e => by simp only [Option.some.injEq, Addr.mk.injEq] at e; omega⟩⟩
/-- What stands while a wheel is drawn: its box is at zs, the cursor at C goes on. -/
structure WS (Y : Nat → Prop) (w wr : World) (C k zs : Nat) (b : WV) (D : WD) : Prop where
  mod : Mod (fun x => x = C) w wr
  cur : Cur Y wr C k
  out : Row wr w.heap.size 3 (t3 (.int .i64 0) (.slice none 0 0) (.slice none 0 0))
  zl : w.heap.size < zs
  ty : Ty wr zs 25
  box : Row wr zs 3 (wrow b D)
  own : OwnD w wr zs b D
  good : GoodD D
theorem WS.go {Y : Nat → Prop} {w wr w1 : World} {C k k' zs : Nat} {b : WV} {D : WD} (h : WS Y w wr C k zs b D) (hC : C < w.heap.size) (hc : Cur Y w1 C k') (hm : Mod (fun b => b = C) wr w1) : WS Y w w1 C k' zs b D := by
  have := h.zl
  exact ⟨h.mod.trans hm, hc, h.out.mod hm (by omega), h.zl, h.ty.mod hm (by omega), h.box.mod hm (by omega), h.own.mod hm (fun x e => Or.inl (by omega)), h.good⟩
theorem WS.blw {Y : Nat → Prop} {w wr w1 : World} {C k zs : Nat} {b : WV} {D : WD} (h : WS Y w wr C k zs b D) (hb : Blw wr w1) : WS Y w w1 C k zs b D :=
  ⟨h.mod.trans (hb.mod _), h.cur.blw hb, h.out.blw hb, h.zl, h.ty.blw hb, h.box.blw hb, h.own.blw hb, h.good⟩
theorem WS.le {Y : Nat → Prop} {w wr : World} {C k k' zs : Nat} {b : WV} {D : WD} (h : WS Y w wr C k zs b D) (hk : k ≤ k') : WS Y w wr C k' zs b D := ⟨h.mod, h.cur.le hk, h.out, h.zl, h.ty, h.box, h.own, h.good⟩
theorem WS.small {Y : Nat → Prop} {w wr : World} {C k zs : Nat} {b : WV} {D : WD} (h : WS Y w wr C k zs b D) : D.small := by obtain ⟨R, e⟩ := h.own.wd; exact h.good.small8' e
theorem WS.wf {Y : Nat → Prop} {w wr : World} {C k zs : Nat} {b : WV} {D : WD} (h : WS Y w wr C k zs b D) : D.wf := by obtain ⟨R, e⟩ := h.own.wd; exact h.good.wf8 e
theorem WS.at_ {Y : Nat → Prop} {w wr : World} {C k zs : Nat} {b : WV} {D : WD} (h : WS Y w wr C k zs b D) : WAt (fun x => w.heap.size < x ∧ x < wr.heap.size) wr b D := (h.own.at_ h.good).at
/-- Another box at z is written. -/
theorem WS.other {Y : Nat → Prop} {w wr w1 : World} {C k zs z : Nat} {b : WV} {D : WD} (h : WS Y w wr C k zs b D) (hC : C < w.heap.size) (hY : ∀ x, Y x → x < w.heap.size) (hm : Mod (fun x => x = z) wr w1) (h1 : w.heap.size < z) (h2 : z ≠ zs) (h3 : Ty wr z 25) (h4 : Nob b z) : WS Y w w1 C k zs b D := by
  refine ⟨⟨hm.os.trans h.mod.os, hm.tape.trans h.mod.tape, hm.output.trans h.mod.output, Nat.le_trans h.mod.size hm.size, fun i hi hx => (hm.block i (Nat.lt_of_lt_of_le hi h.mod.size) (by omega)).trans (h.mod.block i hi hx)⟩, h.cur.mod hm (by omega) (fun x hx e => by have := hY x hx; omega), h.out.mod hm (by omega), h.zl, h.ty.mod hm (fun e => h2 e.symm), h.box.mod hm (fun e => h2 e.symm), h.own.mod hm (fun x e => Or.inr (by subst e; exact ⟨h3, h4⟩)), h.good⟩
/-- Its box is written with another wheel. -/
theorem WS.take {Y : Nat → Prop} {w wr w1 : World} {C k zs : Nat} {b b3 : WV} {D D3 : WD} (h : WS Y w wr C k zs b D) (hC : C < w.heap.size) (hY : ∀ x, Y x → x < w.heap.size) (hm : Mod (fun x => x = zs) wr w1) (hb : Row w1 zs 3 (wrow b3 D3)) (ht : Ty w1 zs 25) (ho : OwnD w wr zs b3 D3) (hg : GoodD D3) : WS Y w w1 C k zs b3 D3 := by
  have hzl := h.zl
  refine ⟨⟨hm.os.trans h.mod.os, hm.tape.trans h.mod.tape, hm.output.trans h.mod.output, Nat.le_trans h.mod.size hm.size, fun i hi hx => (hm.block i (Nat.lt_of_lt_of_le hi h.mod.size) (by omega)).trans (h.mod.block i hi hx)⟩, h.cur.mod hm (by omega) (fun x hx e => by have := hY x hx; omega), h.out.mod hm (by omega), h.zl, ht, hb, ho.mod hm (fun x e => Or.inr ?_), hg⟩
  subst e
  obtain ⟨lo, g1, g2, R, P, Cc, hlo, rfl, hD, ho, e1, e2⟩ := ho
  exact ⟨h.ty, fun e => by simp only [Option.some.injEq, Addr.mk.injEq] at e; exact e1 e.1.symm, fun e => by simp only [Option.some.injEq, Addr.mk.injEq] at e; exact e2 e.1.symm⟩
abbrev wput (W : World) (z : Nat) (b : WV) (D : WD) : World := ((W.setCell ⟨z, 0, none⟩ (.int .i64 D.now)).setCell ⟨z, 1, none⟩ (.slice b.a1 D.N.n b.c1)).setCell ⟨z, 2, none⟩ (.slice b.a2 D.F.n b.c2)
theorem wput_mod (W : World) (z : Nat) (b : WV) (D : WD) : Mod (fun x => x = z) W (wput W z b D) := set3_mod (X := fun x => x = z) W rfl _ _ _
theorem wput_row {W : World} {z : Nat} {u0 u1 u2 : Value} (h : Row W z 3 (t3 u0 u1 u2)) (b : WV) (D : WD) : Row (wput W z b D) z 3 (wrow b D) := set3_2 (set3_1 (set3_0 h (.int .i64 D.now)) (.slice b.a1 D.N.n b.c1)) (.slice b.a2 D.F.n b.c2)
theorem wput_ty {W : World} {z : Nat} (h : Ty W z 25) (b : WV) (D : WD) : Ty (wput W z b D) z 25 := ((h.set 0 _).set 1 _).set 2 _
/-- A wheel was got into a box of its own. -/
def Got (Y : Nat → Prop) (w : World) (C k zs : Nat) (b : WV) (D : WD) (wx : World) (zb : Nat) (b3 : WV) (D3 : WD) (r : Bool) : Prop :=
  WS Y w wx C k zs b D ∧ Row wx zb 3 (wrow b3 D3) ∧ zb ≠ zs ∧ w.heap.size < zb ∧ (r = true → OwnD w wx zs b3 D3 ∧ GoodD D3)
theorem got_fin {Y : Nat → Prop} {w wn : World} {C k zs zb : Nat} {b b3 : WV} {D D3 : WD} {r : Bool} {u0 u1 u2 : Value} (hC : C < w.heap.size) (hY : ∀ x, Y x → x < w.heap.size) (h : WS Y w wn C k zs b D) (hz : Row wn zb 3 (t3 u0 u1 u2)) (ht : Ty wn zb 25) (h1 : zb ≠ zs) (h2 : w.heap.size < zb) (h3 : Nob b zb)
    (ho : r = true → OwnD w wn zs b3 D3 ∧ GoodD D3 ∧ Nob b3 zb) : Got Y w C k zs b D (wput wn zb b3 D3) zb b3 D3 r := by
  have hm := wput_mod wn zb b3 D3
  refine ⟨h.other hC hY hm h2 h1 ht h3, wput_row hz b3 D3, h1, h2, fun hr => ?_⟩
  obtain ⟨a1, a2, a3⟩ := ho hr
  exact ⟨a1.mod hm (fun x e => Or.inr (by subst e; exact ⟨ht, a3⟩)), a2⟩
theorem got_take {Y : Nat → Prop} {w wx : World} {C k zs zb : Nat} {b b3 : WV} {D D3 : WD} (hC : C < w.heap.size) (hY : ∀ x, Y x → x < w.heap.size) (h : Got Y w C k zs b D wx zb b3 D3 true) : WS Y w (wput wx zs b3 D3) C k zs b3 D3 := by
  obtain ⟨a, b', c, d, e⟩ := h
  obtain ⟨e1, e2⟩ := e rfl
  exact a.take hC hY (wput_mod wx zs b3 D3) (wput_row a.box b3 D3) (wput_ty a.ty b3 D3) e1 e2
theorem Got.go {Y : Nat → Prop} {w wx w1 : World} {C k k' zs zb : Nat} {b b3 : WV} {D D3 : WD} {r : Bool} (h : Got Y w C k zs b D wx zb b3 D3 r) (hC : C < w.heap.size) (hc : Cur Y w1 C k') (hm : Mod (fun b => b = C) wx w1) : Got Y w C k' zs b D w1 zb b3 D3 r := by
  obtain ⟨a, b', c, d, e⟩ := h
  exact ⟨a.go hC hc hm, b'.mod hm (by omega), c, d, fun hr => ⟨(e hr).1.mod hm (fun x e => Or.inl (by omega)), (e hr).2⟩⟩
theorem rowsz (D : WD) : ∀ k, 16 ≤ k → rows16 D k = [] := fun k hk => rows16_out D k hk
/-- What SetTimer's answer is worth. -/
theorem set_good {D R3 : WD} {id wait : Int} {r : Bool} (h : setOut D id wait R3 r) (hr : r = true) : GoodD R3 := by
  rcases h with ⟨hp, rfl, _⟩ | ⟨_, _, rfl⟩
  · exact (hp.1.g.put hp.2.2.2).wd hp.1.now.1 hp.1.now.2
  · cases hr
theorem run_good {D R3 : WD} {t : Int} {l : List Int} {r : Bool} (h : runOut D t R3 l r) (hr : r = true) : GoodD R3 := by
  rcases h with ⟨hp, rfl, _, _⟩ | ⟨_, _, _, rfl⟩
  · have h1 := (hp.1.g.run t.toNat).1
    have e : D.now + (t.toNat : Int) = D.now + t := by have := hp.2.1; omega
    rw [e] at h1
    exact h1.wd (by have := hp.1.now; have := hp.2.1; omega) hp.2.2.2
  · cases hr
end Go.Proofs.Ytkmkidahaagbpaa
/- More of what a reader of bytes answers. -/
namespace Go.Proofs.Ytkmkidahaagbpaa
open Go.RowKit
set_option linter.unusedSimpArgs false
set_option linter.unusedVariables false
theorem one_any (Y : Nat → Prop) (C k : Nat) (N : Int) (w : World) (hk : k ≤ 900000) (hN : 1 < N) (h : Cur Y w C k) :
    Calls Try.prog 75 #[.pointer (some ⟨C, 0, none⟩), .int .i64 N] w fun e w' => ∃ r, e = .returned (.bool r) ∧ Cur Y w' C (k + 2) ∧ Mod (fun b => b = C) w w' := by
  go_enter Try.func75, Try.ntmps75
  go_wp2_with fail
  refine (pick_any Y C k N _ hk hN h).mono ?_
  rintro e w1 ⟨x, rfl, hx, hc, hm⟩
  clear h
  go_wp2
  go_ret
  exact ⟨_, rfl, hc, hm⟩
theorem among_mem (Y Y2 : Nat → Prop) (C k : Nat) (ao : Option Addr) (n c : Nat) (f : Nat → Int) (w : World) (hk : k ≤ 900000) (hn : 1 < n) (hI : IntsAt Y2 w ao n f) (hY2 : ∀ b, Y2 b → b ≠ C) (h : Cur Y w C k) :
    Calls Try.prog 47 #[.pointer (some ⟨C, 0, none⟩), .slice ao n c] w fun e w' => ∃ i : Nat, i < n ∧ e = .returned (.int .i64 (f i)) ∧ Cur Y w' C (k + 2) ∧ Mod (fun b => b = C) w w' := by
  have HI : Hid (IntsAt Y2 w ao n f) := hI
  clear hI
  go_enter Try.func47, Try.ntmps47
  go_wp2_with fail
  refine (pick_any Y C k n _ hk (by omega) h).mono ?_
  rintro e w1 ⟨x, rfl, hx, c1, m1⟩
  obtain ⟨b, o, rfl, -, q⟩ := (HI.out.mod m1 (fun b hb => hY2 b hb)).2 x (by omega)
  clear h
  go_wp2
  go_ret
  exact ⟨x, by omega, rfl, c1, m1⟩
theorem ints_lit (W : World) (l : List Int) (hl : l.length ≤ 1000) : IntsAt (fun b => b = W.heap.size) (W.alloc (.cells (l.map (Value.int .i64)).toArray 3)) (some ⟨W.heap.size, 0, none⟩) l.length (fun i => l.getD i 0) := by
  have r : Row (W.alloc (.cells (l.map (Value.int .i64)).toArray 3)) W.heap.size l.length (fun i => .int .i64 (l.getD i 0)) := ⟨_, 3, heap_alloc_new _ _, by simp, fun i hi => by simp [List.getD, hi]⟩
  exact ⟨by omega, fun i hi => ⟨W.heap.size, 0, rfl, rfl, by rw [Nat.zero_add, r.cell hi]⟩⟩
theorem wrap1 (x : Nat) (h : (x : Int) < 1000) : IntKind.i64.wrap (1 + (x : Int)) = 1 + (x : Int) := by rw [IntKind.wrap_i64] <;> omega
def WSx (Y : Nat → Prop) (w wr : World) (C k zs : Nat) : Prop := ∃ b D, WS Y w wr C k zs b D
theorem WSx.le {Y : Nat → Prop} {w wr : World} {C k k' zs : Nat} (h : WSx Y w wr C k zs) (hk : k ≤ k') : WSx Y w wr C k' zs := by obtain ⟨b, D, h⟩ := h; exact ⟨b, D, h.le hk⟩
/-- What was drawn, ahead of the answer. -/
structure WF (Y : Nat → Prop) (w wr : World) (C k zs : Nat) (b : WV) (D : WD) : Prop where
  mod : Mod (fun x => x = C) w wr
  cur : Cur Y wr C k
  out : Row wr w.heap.size 3 (t3 (.int .i64 0) (.slice none 0 0) (.slice none 0 0))
  box : Row wr zs 3 (wrow b D)
  own : WOwn (fun x => w.heap.size < x ∧ x < wr.heap.size) wr b D
  wf : D.wf
  small : D.small
theorem WS.fin {Y : Nat → Prop} {w wr : World} {C k zs : Nat} {b : WV} {D : WD} (h : WS Y w wr C k zs b D) : WF Y w wr C k zs b D := ⟨h.mod, h.cur, h.out, h.box, h.own.at_ h.good, h.wf, h.small⟩
theorem Mod.newer {X : Nat → Prop} {a b c : World} {z : Nat} (h : Mod X a b) (k : Mod (fun x => x = z) b c) (hz : a.heap.size ≤ z) : Mod X a c :=
  ⟨k.os.trans h.os, k.tape.trans h.tape, k.output.trans h.output, Nat.le_trans h.size k.size, fun i hi hx => (k.block i (Nat.lt_of_lt_of_le hi h.size) (by omega)).trans (h.block i hi hx)⟩
/-- What wheel answers. -/
def Drawn (Y : Nat → Prop) (w w' : World) (C k : Nat) (b : WV) (D : WD) : Prop := WOwn (fun x => w.heap.size < x ∧ x < w'.heap.size) w' b D ∧ D.wf ∧ D.small ∧ Cur Y w' C k ∧ Mod (fun b => b = C) w w'
theorem WF.drawn {Y : Nat → Prop} {w wr : World} {C k k' zs : Nat} {b : WV} {D : WD} (h : WF Y w wr C k zs b D) (hC : C < w.heap.size) (hY : ∀ x, Y x → x < w.heap.size) (hk : k ≤ k') : Drawn Y w (wput wr w.heap.size b D) C k' b D := by
  have hm := wput_mod wr w.heap.size b D
  have hs := hm.size
  exact ⟨(h.own.mod hm (fun x hx e => by omega)).mono (fun x hx => ⟨hx.1, Nat.lt_of_lt_of_le hx.2 hs⟩), h.wf, h.small, (h.cur.mod hm (by omega) (fun x hx e => by have := hY x hx; omega)).le hk, h.mod.newer hm (Nat.le_refl _)⟩
theorem OwnD.nob {w wr : World} {zs : Nat} {b : WV} {D : WD} (h : OwnD w wr zs b D) : Nob b zs := by
  obtain ⟨lo, g1, g2, R, P, Cc, hlo, rfl, hD, ho, e1, e2⟩ := h
  exact ⟨fun e => by simp only [Option.some.injEq, Addr.mk.injEq] at e; exact e1 e.1.symm, fun e => by simp only [Option.some.injEq, Addr.mk.injEq] at e; exact e2 e.1.symm⟩
/-- Another Now. -/
theorem WS.now {Y : Nat → Prop} {w wr : World} {C k zs : Nat} {b : WV} {D : WD} (h : WS Y w wr C k zs b D) (hC : C < w.heap.size) (hY : ∀ x, Y x → x < w.heap.size) (y : Int) : WF Y w (wr.setCell ⟨zs, 0, none⟩ (.int .i64 y)) C k zs b ⟨y, D.N, D.F⟩ := by
  have hm : Mod (fun x => x = zs) wr (wr.setCell ⟨zs, 0, none⟩ (.int .i64 y)) := Mod.setCell (X := fun x => x = zs) _ (p := ⟨zs, 0, none⟩) rfl _
  have hz := h.zl
  obtain ⟨X1, X2, h1, h2, c, l⟩ := ((h.own.mod hm (fun x e => Or.inr (by subst e; exact ⟨h.ty, h.own.nob⟩))).at_ h.good).ex
  exact ⟨h.mod.newer hm (by omega), h.cur.mod hm (by omega) (fun x hx e => by have := hY x hx; omega), h.out.mod hm (by omega), set3_0 h.box _, ⟨X1, X2, h1, h2, c, l⟩, h.wf, h.small⟩
theorem hr_upd {lo : Nat} {R : Rws} {P : Nat → Option Addr} {C : Nat → Nat} {w w1 : World} (h : HR lo R P C w) {k : Nat} (hk : k < 16) (hlo : lo ≤ w.heap.size) (hm : Mod (fun b => P k = some ⟨b, 0, none⟩) w w1) {a : Option Addr} {l : List Tm} {c : Nat} (hB : LB (fun b => P k = some ⟨b, 0, none⟩ ∨ w.heap.size ≤ b) w1 a c l) :
    HR lo (updN R k l) (updN P k a) (updN C k c) w1 := by
  refine ⟨fun k' hk' => ?_, fun k' b hk' e => ?_, fun k1 k2 b h1 h2 hne e1 e2 => ?_⟩
  · by_cases e : k' = k
    · subst e
      simp only [updN, if_true]
      exact ⟨hB.1, fun g hg => by
        rcases Buf.rowE hB with ⟨h0, _⟩ | ⟨g', f', h0, _⟩
        · rw [h0] at hg; simp [Value.ownBlock] at hg
        · rw [h0] at hg ⊢; simp [Value.ownBlock] at hg; subst hg; rfl⟩
    · simp only [updN, if_neg e]
      exact (h.buf k' hk').mod hm (fun b hb e2 => h.dis k' k b hk' hk e hb e2)
  · unfold updN at e
    split at e
    · rcases hB.ge e with h5 | h5
      · exact h.lo k b hk h5
      · omega
    · exact h.lo k' b hk' e
  · unfold updN at e1 e2
    split at e1
    · rename_i g1
      rw [if_neg (by omega)] at e2
      rcases hB.ge e1 with h5 | h5
      · exact h.dis k2 k b h2 hk (by omega) e2 h5
      · have := h.lt h2 e2; omega
    · rename_i g1
      split at e2
      · rcases hB.ge e2 with h5 | h5
        · exact h.dis k1 k b h1 hk g1 e1 h5
        · have := h.lt h1 e1; omega
      · exact h.dis k1 k2 b h1 h2 hne e1 e2
/-- A row of Near that was appended to. -/
theorem OW.set1 {lo g1 g2 : Nat} {R : Rws} {P : Nat → Option Addr} {C : Nat → Nat} {w w1 : World} (h : OW lo g1 g2 R P C w) {j : Nat} (hj : j < 8) (hlo : lo ≤ w.heap.size) (hm : Mod (fun b => P j = some ⟨b, 0, none⟩) w w1) {a : Option Addr} {l : List Tm} {c : Nat} (hB : LB (fun b => P j = some ⟨b, 0, none⟩ ∨ w.heap.size ≤ b) w1 a c l) :
    OW lo g1 g2 (updN R j l) (updN P j a) (updN C j c) (w1.setCell ⟨g1, j, none⟩ (.slice a l.length c)) := by
  have z1 := h.n.lt
  have z2 := h.f.lt
  have hne := h.ne
  have ms : Mod (fun b => b = g1) w1 (w1.setCell ⟨g1, j, none⟩ (.slice a l.length c)) := Mod.setCell (X := fun b => b = g1) _ (p := ⟨g1, j, none⟩) rfl _
  have hu := hr_upd h.hr (k := j) (by omega) hlo hm hB
  have hP : ∀ g, g < w.heap.size → (∀ k, k < 16 → P k ≠ some ⟨g, 0, none⟩) → ∀ k, k < 16 → updN P j a k ≠ some ⟨g, 0, none⟩ := fun g hg hn k hk e => by
    unfold updN at e
    split at e
    · rcases hB.ge e with h5 | h5
      · exact hn j (by omega) h5
      · omega
    · exact hn k hk e
  refine ⟨((h.n.mod hm (h.n1 j (by omega))).set j _).congr (fun i hi => ?_), ((h.f.mod hm (h.n2 j (by omega))).mod ms (fun e => hne e.symm)).congr (fun i hi => ?_), hu.mod ms (fun k b hk e e2 => hP g1 z1 h.n1 k hk (e2 ▸ e)), hP g1 z1 h.n1, hP g2 z2 h.n2, hne, h.lo1, h.lo2⟩
  · unfold updN
    by_cases e : i = j
    · subst e; simp
    · simp [e]
  · have e : ¬ 8 + i = j := by omega
    simp [updN, e]
/-- One more timer behind the first row. -/
def moreR (now : Int) (R : Rws) : Rws := updN R 0 (R 0 ++ [(99, now + 1)])
theorem WS.more {Y : Nat → Prop} {w wr : World} {C k zs : Nat} {b : WV} {D : WD} (h : WS Y w wr C k zs b D) (hC : C < w.heap.size) (hY : ∀ x, Y x → x < w.heap.size) :
    ∃ g1 g2 R p n c, b = ⟨some ⟨g1, 0, none⟩, some ⟨g2, 0, none⟩, 8, 8⟩ ∧ D = wd8 D.now R ∧ wr.cell? ⟨g1, 0, none⟩ = some (.slice p n c) ∧ wr.frozen? ⟨g1, 0, none⟩ = false ∧ g1 ≠ zs ∧ g1 < wr.heap.size ∧
      ∃ a' c' w', (Builtin.append_ #[31, 31] 31 #[.slice p n c, .slice (some ⟨wr.heap.size, 0, none⟩) 1 1]).run Try.prog (wr.alloc (.cells #[.int .i64 99, .int .i64 (D.now + 1)] 39)) = .ok (.slice a' (n + 1) c') w' ∧
        Row w' zs 3 (wrow b D) ∧ w'.cell? ⟨g1, 0, none⟩ = some (.slice p n c) ∧ w'.frozen? ⟨g1, 0, none⟩ = false ∧ WF Y w (w'.setCell ⟨g1, 0, none⟩ (.slice a' (n + 1) c')) C k zs b (wd8 D.now (moreR D.now R)) := by
  obtain ⟨lo, g1, g2, R, P, Cc, hlo, rfl, hD, ho, e1, e2⟩ := h.own
  have hal : Blw wr (wr.alloc (.cells #[.int .i64 99, .int .i64 (D.now + 1)] 39)) := (Blw.refl _).alloc _
  have hoa := ho.blw hal
  have hlen : ∀ k, k < 16 → (R k).length ≤ 20 := fun k hk => by
    have h2 := h.good.g.len
    have h3 := len_row (S := rows16 D) hk
    rw [hD, rows16_wd8 _ _ hk, ← hD] at h3
    omega
  have hl0 := hlen 0 (by omega)
  obtain ⟨a', c', w', hrun, hB, hm⟩ := LB.app (hoa.hr.buf 0 (by omega)) (m := [(99, D.now + 1)]) 1 (one_tm wr (99, D.now + 1)) (by simp; omega) 31
  simp only [List.length_append, List.length_singleton] at hrun hB
  have hmP : Mod (fun b => P 0 = some ⟨b, 0, none⟩) (wr.alloc (.cells #[.int .i64 99, .int .i64 (D.now + 1)] 39)) w' := hm.mono (fun b e => (hoa.hr.buf 0 (by omega)).2 b e)
  have hzP : P 0 ≠ some ⟨zs, 0, none⟩ := ho.noTy h.ty (by decide) (by omega)
  have hr1 := ho.n.cell (i := 0) (by omega)
  have hf1 := ho.n.frozen 0
  have hz := h.zl
  have hls : lo ≤ wr.heap.size := Nat.le_trans ho.lo1 (Nat.le_of_lt ho.n.lt)
  have hla : lo ≤ (wr.alloc (.cells #[.int .i64 99, .int .i64 (D.now + 1)] 39)).heap.size := by rw [World.size_alloc]; omega
  have hO := hoa.set1 (j := 0) (by omega) hla hmP (hB.mono (fun b hb => hb.1.elim Or.inl (fun e => Or.inr (by omega))))
  have ms : Mod (fun b => b = g1) w' (w'.setCell ⟨g1, 0, none⟩ (.slice a' (R 0 ++ [(99, D.now + 1)]).length c')) := Mod.setCell (X := fun b => b = g1) _ (p := ⟨g1, 0, none⟩) rfl _
  have hs' := hm.size
  have hss := ms.size
  have hsa : wr.heap.size ≤ w'.heap.size := by rw [World.size_alloc] at hs'; omega
  have hg1 := ho.lo1
  have hPlo : ∀ b, P 0 = some ⟨b, 0, none⟩ → lo ≤ b := fun b e => ho.hr.lo 0 b (by omega) e
  have mAll : Mod (fun b => lo ≤ b) wr (w'.setCell ⟨g1, 0, none⟩ (.slice a' (R 0 ++ [(99, D.now + 1)]).length c')) := ((hal.mod _).trans (hmP.mono (fun b e => hPlo b e))).trans (ms.mono (fun b e => by omega))
  have m2 : Mod (fun b => P 0 = some ⟨b, 0, none⟩) wr w' := (hal.mod _).trans hmP
  have hml : moreR D.now R = updN R 0 (R 0 ++ [(99, D.now + 1)]) := rfl
  have hlen2 : ∀ k, k < 16 → (updN R 0 (R 0 ++ [(99, D.now + 1)]) k).length ≤ 1000 := fun k hk => by
    unfold updN
    split
    · simp; omega
    · have := hlen k hk; omega
  have hown := hO.own D.now hlen2
  have hnow := h.good.now
  refine ⟨g1, g2, R, P 0, (R 0).length, Cc 0, rfl, hD, hr1, hf1, fun e => e1 e.symm, ho.n.lt, a', c', w', hrun, h.box.mod m2 hzP, m2.cell hr1 (ho.n1 0 (by omega)), (World.frozen?_of_block (m2.block g1 ho.n.lt (ho.n1 0 (by omega)))).trans hf1, ?_⟩
  rw [List.length_append, List.length_singleton] at mAll hown hO hss
  have hmw : Mod (fun x => x = C) w (w'.setCell ⟨g1, 0, none⟩ (.slice a' ((R 0).length + 1) c')) :=
    ⟨mAll.os.trans h.mod.os, mAll.tape.trans h.mod.tape, mAll.output.trans h.mod.output, Nat.le_trans h.mod.size mAll.size, fun i hi hx => (mAll.block i (Nat.lt_of_lt_of_le hi h.mod.size) (by omega)).trans (h.mod.block i hi hx)⟩
  refine ⟨hmw, h.cur.mod mAll (by omega) (fun x hx e => by have := hY x hx; omega), h.out.mod mAll (by omega), ?_, hown.mono (fun x hx => ⟨by omega, hx.2⟩), ?_, ?_⟩
  · have hb2 := (h.box.mod m2 hzP).mod (Mod.setCell (X := fun b => b = g1) w' (p := ⟨g1, 0, none⟩) rfl (.slice a' ((R 0).length + 1) c')) (fun e => e1 e)
    rw [hD] at hb2
    exact hb2
  · have hg : ∀ k, k < 16 → ∀ t ∈ R k, D.now < t.2 ∧ t.2 ≤ D.now + 63 := fun k hk t ht => by
      have := h.good.g.ok k hk t (by rw [hD, rows16_wd8 _ _ hk]; exact ht)
      omega
    have hg2 : ∀ k, k < 16 → ∀ t ∈ moreR D.now R k, D.now < t.2 ∧ t.2 ≤ D.now + 63 := fun k hk t ht => by
      unfold moreR updN at ht
      split at ht
      · rcases List.mem_append.1 ht with h5 | h5
        · exact hg 0 (by omega) t h5
        · rw [List.mem_singleton.1 h5]; exact ⟨by show _ < D.now + 1; omega, by show D.now + 1 ≤ _; omega⟩
      · exact hg k hk t ht
    constructor
    · intro i t hi ht
      have hi : i < 8 := hi
      have ht : t < (moreR D.now R i).length := ht
      have := hg2 i (by omega) _ (nth_mem ht)
      show _ ≤ (nth (moreR D.now R i) t).2 ∧ (nth (moreR D.now R i) t).2 ≤ _
      omega
    · intro i t hi ht
      have hi : i < 8 := hi
      have ht : t < (moreR D.now R (8 + i)).length := ht
      have := hg2 (8 + i) (by omega) _ (nth_mem ht)
      show _ ≤ (nth (moreR D.now R (8 + i)) t).2 ∧ (nth (moreR D.now R (8 + i)) t).2 ≤ _
      omega
  · refine small8 ?_
    have : (allR (moreR D.now R)).length ≤ 16 * 21 := by
      unfold allR
      have : ∀ L : List Nat, (∀ k ∈ L, k < 16) → (L.flatMap (moreR D.now R)).length ≤ L.length * 21 := by
        intro L
        induction L with
        | nil => simp
        | cons a L ih =>
          intro hL
          have h1 := ih (fun k hk => hL k (List.mem_cons_of_mem _ hk))
          have h2 : (moreR D.now R a).length ≤ 21 := by
            have h3 := hlen a (hL a (List.mem_cons_self ..))
            unfold moreR updN
            split
            · simp; omega
            · omega
          simp only [List.flatMap_cons, List.length_append, List.length_cons]
          omega
      have h3 := this (List.range 16) (fun k hk => List.mem_range.1 hk)
      simpa using h3
    omega
end Go.Proofs.Ytkmkidahaagbpaa
