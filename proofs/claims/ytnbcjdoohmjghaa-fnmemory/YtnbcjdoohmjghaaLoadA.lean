/- 'spec.LoadAll' and 'impl.LoadAll'. -/
import Derived.Test.YtnbcjdoohmjghaaStoreB
namespace Go.Proofs.Ytnbcjdoohmjghaa
open Go.RowKit
set_option linter.unusedSimpArgs false
/-- A function that answers numbers and a bool, in new memory. -/
abbrev GivesI (out : Nat → (Nat → Int) → Bool → Prop) (w : World) (e : Ending) (w' : World) : Prop :=
  ∃ (ao : Option Addr) (n c : Nat) (f : Nat → Int) (b : Bool), e = .returned (.tuple #[.slice ao n c, .bool b]) ∧ out n f b ∧ IntsOwn (fun b => w.heap.size ≤ b ∧ b < w'.heap.size) w' ao n f ∧ Blw w w'
/-- The words from a on. -/
def wordsFrom (c : Nat → Nat → Int) (a : Nat) : Nat → Int := fun i => c ((a + i) / 4) ((a + i) % 4)
/-- What LoadAll answers. -/
def laOut (M : MD) (at_ many : Int) (n : Nat) (f : Nat → Int) (b : Bool) : Prop :=
  (M.Good ∧ stretch at_ many ∧ n = many.toNat ∧ f = wordsFrom M.v2 at_.toNat ∧ b = true) ∨ (¬ (M.Good ∧ stretch at_ many) ∧ n = 0 ∧ f = (fun _ => 0) ∧ b = false)
theorem laOut_same {M : MD} {at_ many : Int} {n n' : Nat} {f f' : Nat → Int} {b c : Bool} (h : laOut M at_ many n f b) (k : laOut M at_ many n' f' c) : n = n' ∧ f = f' ∧ b = c := by
  rcases h with ⟨g, s, rfl, rfl, rfl⟩ | ⟨g, rfl, rfl, rfl⟩
  · rcases k with ⟨_, _, rfl, rfl, rfl⟩ | ⟨g', rfl, rfl, rfl⟩
    · exact ⟨rfl, rfl, rfl⟩
    · exact absurd ⟨g, s⟩ g'
  · rcases k with ⟨g', s, rfl, rfl, rfl⟩ | ⟨g', rfl, rfl, rfl⟩
    · exact absurd ⟨g', s⟩ g
    · exact ⟨rfl, rfl, rfl⟩
theorem laOut_small {M : MD} {at_ many : Int} {n : Nat} {f : Nat → Int} {b : Bool} (h : laOut M at_ many n f b) : n ≤ 8 := by
  rcases h with ⟨g, s, rfl, rfl, rfl⟩ | ⟨g, rfl, rfl, rfl⟩
  · have := s.2.1; omega
  · omega
theorem zero_givesI {out : Nat → (Nat → Int) → Bool → Prop} {w w1 : World} (ho : out 0 (fun _ => 0) false) (hb : Blw w w1) : GivesI out w (.returned (.tuple #[.slice none 0 0, .bool false])) w1 :=
  ⟨none, 0, 0, _, false, rfl, ho, ⟨Nat.zero_le _, fun h => absurd h (Nat.lt_irrefl 0)⟩, hb⟩
/-- The list that the model appends to. -/
structure Put (Y : Nat → Prop) (w wr : World) (m : MV) (M : MD) (v : Value) (k : Nat) (f : Nat → Int) : Prop where
  own : wr.ownsRow 0 3 1 v k ((List.range k).map fun i => .int .i64 (f i))
  blk : ∀ g, v.ownBlock = some g → w.heap.size < g ∧ g < wr.heap.size
  blw : Blw w wr
  box : Row wr w.heap.size 3 (fun i => if i = 0 then .slice m.a1 M.n1 m.c1 else if i = 1 then .slice m.a2 M.n2 m.c2 else .slice m.a3 M.n3 m.c3)
  h : MemAt Y wr m M
theorem put_next {Y : Nat → Prop} {w wr W w' : World} {m : MV} {M : MD} {v : Value} {k g cap : Nat} {f : Nat → Int} (P : Put Y w wr m M v k f) (hb : Blw wr W) (hY : ∀ b, Y b → b < w.heap.size)
    (own' : w'.ownsRow 0 3 1 (.slice (some ⟨g, 0, none⟩) (k + 1) cap) (k + 1) (((List.range k).map fun i => .int .i64 (f i)) ++ [.int .i64 (f k)])) (gr : W.grownBy w' v.ownBlock) (hg : v.ownBlock = some g ∨ g = W.heap.size) (hgl : g < w'.heap.size) :
    Put Y w w' m M (.slice (some ⟨g, 0, none⟩) (k + 1) cap) (k + 1) f := by
  have hm : Mod (fun x => v.ownBlock = some x) W w' := grown_mod gr
  have bl := P.box.lt
  have hs := hb.size
  have nb : ∀ b, b ≤ w.heap.size → ¬ v.ownBlock = some b := fun b h1 h2 => by have := (P.blk b h2).1; omega
  refine ⟨?_, fun x hx => ?_, Mod.blw (P.blw.trans hb) hm (fun i hi => by have := (P.blk i hi).1; omega), (P.box.blw hb).mod hm (nb _ (Nat.le_refl _)), (P.h.blw hb).mod hm (fun b hb => nb b (by have := hY b hb; omega))⟩
  · rw [List.range_succ, List.map_append]
    exact own'
  · simp only [Value.ownBlock, Option.some.injEq] at hx
    subst hx
    rcases hg with hg | hg
    · exact ⟨(P.blk _ hg).1, hgl⟩
    · exact ⟨by omega, hgl⟩
theorem put_ints {Y : Nat → Prop} {w wr : World} {m : MV} {M : MD} {v : Value} {k : Nat} {f : Nat → Int} (P : Put Y w wr m M v k f) (hk : k ≤ 8) : ∃ ao cap, v = .slice ao k cap ∧ IntsOwn (fun b => w.heap.size ≤ b ∧ b < wr.heap.size) wr ao k f := by
  have own := P.own
  have blk := P.blk
  rcases P.own.2 with ⟨e1, e2⟩ | ⟨g, cap, cur, rfl, r⟩
  · subst e1
    obtain rfl : k = 0 := by simpa using e2
    exact ⟨none, 0, rfl, Nat.zero_le _, fun h => absurd h (Nat.lt_irrefl 0)⟩
  · refine ⟨_, cap, rfl, by omega, fun h => ⟨g, ?_, rfl, owned_row own (fun i hi => by simp [hi]) h⟩⟩
    have := blk g rfl
    exact ⟨by omega, this.2⟩
set_option maxRecDepth 10000 in
set_option maxHeartbeats 1600000 in
theorem specLoadAll_any (m : MV) (M : MD) (Y : Nat → Prop) (w : World) (at_ many : Int) (h : MemAt Y w m M) (hY : ∀ b, Y b → b < w.heap.size) :
    Calls Try.prog 39 #[m.val M, .int .i64 at_, .int .i64 many] w (GivesI (laOut M at_ many) w) := by
  obtain ⟨i0, hi, hz0, hz1, hz2⟩ := info_parts tinfo3
  go_enter Try.func39, Try.ntmps39
  go_wp2_with fail
  have hb0 : Blw w (w.alloc (.cells #[.slice m.a1 M.n1 m.c1, .slice m.a2 M.n2 m.c2, .slice m.a3 M.n3 m.c3] 26)) := (Blw.refl _).alloc _
  have rA := box3 w (.slice m.a1 M.n1 m.c1) (.slice m.a2 M.n2 m.c2) (.slice m.a3 M.n3 m.c3) 26
  refine (goodS_any m M Y _ (h.blw hb0)).mono ?_
  rintro e w1 ⟨b, rfl, hgd, hb1⟩
  replace rA := rA.blw hb1
  replace hb1 := hb0.trans hb1
  replace h := h.blw hb1
  clear hb0
  have HG : Hid (b = true ↔ M.Good) := hgd
  have HY : Hid (∀ b, Y b → b < w.heap.size) := hY
  clear hgd hY
  cases b
  · have NG : Hid (¬ M.Good) := fun g => absurd (HG.out.2 g) (by decide)
    clear HG rA h
    go_wp2
    go_ret2
    exact zero_givesI (Or.inr ⟨fun g => NG.out g.1, rfl, rfl, rfl⟩) hb1
  · have GD : Hid M.Good := HG.out.1 rfl
    clear HG
    by_cases hst : stretch at_ many
    · have HT : Hid (stretch at_ many) := hst
      clear hst
      go_wp2_with fail
      refine (l1Place_yes _ _ _ HT.out).mono ?_
      rintro e w1 ⟨rfl, rfl⟩
      go_wp2_with fail
      obtain ⟨a, rfl⟩ := Int.eq_ofNat_of_zero_le HT.out.1.1
      obtain ⟨n, rfl⟩ := Int.eq_ofNat_of_zero_le HT.out.2.1.1
      have ha : a + n ≤ 48 := by have := HT.out.2.2; omega
      have hn8 : n ≤ 8 := by have := HT.out.2.1.2; omega
      have P0 : Hid (Put Y w w1 m M (.slice none 0 0) 0 (wordsFrom M.v2 a)) := ⟨⟨by simp, Or.inl ⟨rfl, rfl⟩⟩, fun g hg => by simp [Value.ownBlock] at hg, hb1, rA, h⟩
      clear rA h hb1
      go_loopw [8, 9] (fun v i wr => ∃ k : Nat, k ≤ n ∧ i = .int .i64 k ∧ Put Y w wr m M v k (wordsFrom M.v2 a)) (fun _ i _ => n - (intOf i).toNat)
      case atStart => exact ⟨0, by omega, rfl, P0.out⟩
      case round =>
        obtain ⟨k, hk, rfl, I⟩ := hrel
        clear P0
        by_cases hlt : k < n
        · obtain ⟨q0, q1, q2⟩ := get3 I.box
          have hlt' : (k : Int) < n := by omega
          go_wp2_with fail
          clear q0 q1 q2
          have ek : ((a : Int) + (k : Int)) = ((a + k : Nat) : Int) := by omega
          rw [ek]
          clear ek
          refine (l1Load_any m M Y _ (a + k) (by omega) GD.out I.h).mono ?_
          rintro e w4 ⟨rfl, hb4⟩
          have hb5 : Blw w4 (w4.alloc (.cells #[.int .i64 (M.v2 ((a + k) / 4) ((a + k) % 4))] 3)) := (Blw.refl _).alloc _
          have HO : Hid ((w4.alloc (.cells #[.int .i64 (M.v2 ((a + k) / 4) ((a + k) % 4))] 3)).ownsRow 0 3 1 _ k ((List.range k).map fun i => .int .i64 (wordsFrom M.v2 a i))) := ownsRow_mod I.own ((hb4.trans hb5).mod (fun _ => False)) (fun _ _ => id)
          have HSrc : Hid (∀ j u, [Value.int .i64 (M.v2 ((a + k) / 4) ((a + k) % 4))][j]? = some u → (w4.alloc (.cells #[.int .i64 (M.v2 ((a + k) / 4) ((a + k) % 4))] 3)).cell? ((⟨w4.heap.size, 0, none⟩ : Addr).add j) = some u) := fun j u hj => by
            match j, hj with
            | 0, hj => rw [← hj]; go_cell
            | j + 1, hj => simp at hj
          have HN : Hid _ := fun g cap w' => put_next (g := g) (cap := cap) (w' := w') I (hb4.trans hb5) HY.out
          clear I hb4 hb5
          go_wp2_with (at_builtin; refine wpList_append_lies _ rfl (.tmp 24) (.tmp 30) 27 rfl 0 3 i0 (.int .i64 0) 1 8 Try.underlying27 hi hz0 hz1 hz2 rfl (by decide) _ k _ rfl HO.out ⟨w4.heap.size, 0, none⟩ 1 1 [.int .i64 (M.v2 ((a + k) / 4) ((a + k) % 4))] rfl (by simp) HSrc.out (fun u hu => by simp only [List.mem_singleton] at hu; subst hu; rfl) (by omega) (by unfold maxLen; omega) (by omega) (by omega) _ rfl ?_; intro g cap w' own' gr hg hgl; have I' := HN.out g cap w' own' gr hg hgl; clear own' gr hg hgl; simp only [Nat.zero_add])
          clear HN HO HSrc
          go_roundw
          case rel => exact ⟨k + 1, by omega, by go_num, I'⟩
          case measure => simp [intOf]; omega
        · obtain rfl : k = n := by omega
          obtain ⟨ao, cap, rfl, own⟩ := put_ints I hn8
          have hbI := I.blw
          clear I
          go_wp2
          go_ret2
          exact ⟨ao, k, cap, _, true, rfl, Or.inl ⟨GD.out, HT.out, by simp, rfl, rfl⟩, own, hbI⟩
    · have NX : Hid (¬ stretch at_ many) := hst
      clear hst rA h
      go_wp2_with fail
      refine (l1Place_no _ _ _ NX.out).mono ?_
      rintro e w1 ⟨rfl, rfl⟩
      go_wp2
      go_ret2
      exact zero_givesI (Or.inr ⟨fun g => NX.out g.2, rfl, rfl, rfl⟩) hb1
end Go.Proofs.Ytnbcjdoohmjghaa
