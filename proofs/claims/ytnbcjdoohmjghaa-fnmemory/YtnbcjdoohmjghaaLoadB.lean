/- 'impl.LoadAll'. -/
import Derived.Test.YtnbcjdoohmjghaaLoadA
namespace Go.Proofs.Ytnbcjdoohmjghaa
open Go.RowKit
set_option linter.unusedSimpArgs false
theorem held_facts' {w w1 wz : World} {cs : Array Value} {f g : Nat → Value} {o : Obj} (hb1 : Blw w w1) (q1 : Row wz w1.heap.size 108 (fun i => if 0 ≤ i ∧ i < 0 + cs.size then g (i - 0) else f i)) (q2 : Mod (fun x => x = w1.heap.size) (w1.alloc o) wz) (z1 : cs.size = 108) :
    Row wz w1.heap.size 108 g ∧ Blw w wz :=
  have h0 : Blw w1 (w1.alloc o) := (Blw.refl _).alloc _
  ⟨held_row q1 z1, Mod.blw (hb1.trans h0) q2 (fun i hi => by have := hb1.size; omega)⟩
set_option maxRecDepth 10000 in
set_option maxHeartbeats 1600000 in
theorem implLoadAll_any (m : MV) (M : MD) (Y : Nat → Prop) (w : World) (at_ many : Int) (h : MemAt Y w m M) :
    Calls Try.prog 38 #[m.val M, .int .i64 at_, .int .i64 many] w (GivesI (laOut M at_ many) w) := by
  go_enter Try.func38, Try.ntmps38
  go_wp2_with fail
  have hb0 : Blw w (w.alloc (.cells #[.slice m.a1 M.n1 m.c1, .slice m.a2 M.n2 m.c2, .slice m.a3 M.n3 m.c3] 26)) := (Blw.refl _).alloc _
  refine (holdMemory_any m M Y _ (h.blw hb0)).mono ?_
  rintro e w1 ⟨hr, hb1⟩
  replace hb1 := hb0.trans hb1
  have r79 := row79 w1
  have zw := hb1.size
  clear h hb0
  rcases hr with ⟨good, cs, z1, z2, rfl⟩ | ⟨bad, rfl⟩
  · have hi : (Try.prog.info? 98).map (·.size) = some cs.size := by rw [z1]; exact info79
    have one := one_cells' z1 z2
    have GD : Hid M.Good := good
    clear good
    go_wp2_with (refine wpList_store_row rfl 98 (.tmp 8) (.tmp 15) rfl w1.heap.size 0 cs rfl rfl 108 _ (hcell M.v1 M.v2 M.d) r79 (by omega) hi one (fun j hj => z2 j (by omega)) ?_; intro wz qz1 qz2 qz3; have hz := held_facts' hb1 qz1 qz2 z1; obtain ⟨rH, hbz⟩ := hz; clear qz1 qz2 qz3)
    have zlt := rH.lt
    clear r79 hi one z1 z2 hb1
    by_cases hst : stretch at_ many
    · have HT : Hid (stretch at_ many) := hst
      clear hst
      refine (isStretch_yes _ _ _ HT.out).mono ?_
      rintro e wz ⟨rfl, rfl⟩
      obtain ⟨a, rfl⟩ := Int.eq_ofNat_of_zero_le HT.out.1.1
      obtain ⟨n, rfl⟩ := Int.eq_ofNat_of_zero_le HT.out.2.1.1
      have ha : a + n ≤ 48 := by have := HT.out.2.2; omega
      have hn8 : n ≤ 8 := by have := HT.out.2.1.2; omega
      have hmk := mkInts n (by omega)
      go_wp2_with fail
      clear hmk
      have hA : Blw wz (wz.alloc (.cells (madeCells #[.int .i64 0] n) 3)) := (Blw.refl _).alloc _
      have HZ : Hid (Row _ w1.heap.size 108 (hcell M.v1 M.v2 M.d) ∧ Blw w _) := And.intro (rH.blw hA) (hbz.trans hA)
      have HR : Hid (Row _ wz.heap.size n (fun _ => .int .i64 0)) := Row.made wz (.int .i64 0) n 3
      have zz := hbz.size
      clear rH hbz hA
      generalize w1.heap.size = z at *
      go_loopw [29] (fun i wr => ∃ k : Nat, k ≤ n ∧ i = .int .i64 k ∧ Row wr z 108 (hcell M.v1 M.v2 M.d) ∧ Row wr wz.heap.size n (fun t => Value.int .i64 (if t < k then wordsFrom M.v2 a t else 0)) ∧ Blw w wr) (fun i _ => n - (intOf i).toNat)
      case atStart => exact ⟨0, by omega, rfl, HZ.out.1, Row.congr HR.out (fun i _ => by simp), HZ.out.2⟩
      case round =>
        obtain ⟨k, hk, rfl, rH, rN, hb⟩ := hrel
        clear HZ HR
        by_cases hlt : k < n
        · have hlt' : (k : Int) < n := by omega
          go_wp2_with fail
          have ek : ((a : Int) + (k : Int)) = ((a + k : Nat) : Int) := by omega
          rw [ek]
          clear ek
          refine (wordAt_any _ _ _ _ (a + k) _ (by omega) rH).mono ?_
          rintro e wr ⟨rfl, rfl⟩
          have g2 : wr.cell? ⟨wz.heap.size, k, none⟩ = some (.int .i64 0) := by simpa using rN.cell hlt
          have g3 := rN.frozen k
          have J : Hid (Row (wr.setCell ⟨wz.heap.size, k, none⟩ (.int .i64 (M.v2 ((a + k) / 4) ((a + k) % 4)))) z 108 (hcell M.v1 M.v2 M.d) ∧ Row (wr.setCell ⟨wz.heap.size, k, none⟩ (.int .i64 (M.v2 ((a + k) / 4) ((a + k) % 4)))) wz.heap.size n (fun t => Value.int .i64 (if t < k + 1 then wordsFrom M.v2 a t else 0)) ∧ Blw w (wr.setCell ⟨wz.heap.size, k, none⟩ (.int .i64 (M.v2 ((a + k) / 4) ((a + k) % 4))))) :=
            ⟨rH.setOther (by show z ≠ wz.heap.size; omega) _, (rN.set k _).congr (fun t ht => by
              by_cases e : t = k
              · subst e; simp [wordsFrom]
              · have e2 : (t < k + 1) = (t < k) := by simp; omega
                simp [e, e2]), hb.setCell (by show w.heap.size ≤ wz.heap.size; omega) _⟩
          clear rH rN hb
          go_wp2
          go_roundw
          case rel => exact ⟨k + 1, by omega, by go_num, J.out⟩
          case measure => simp [intOf]; omega
        · obtain rfl : k = n := by omega
          have rlt := rN.lt
          go_wp2
          go_ret2
          exact ⟨_, k, _, wordsFrom M.v2 a, true, rfl, Or.inl ⟨GD.out, HT.out, by simp, rfl, rfl⟩, ⟨by omega, fun _ => ⟨_, ⟨by omega, rlt⟩, rfl, rN.congr (fun t ht => by simp [ht])⟩⟩, hb⟩
    · have NX : Hid (¬ stretch at_ many) := hst
      clear hst rH
      refine (isStretch_no _ _ _ NX.out).mono ?_
      rintro e wz ⟨rfl, rfl⟩
      go_wp2
      go_ret2
      exact zero_givesI (Or.inr ⟨fun g => NX.out g.2, rfl, rfl, rfl⟩) hbz
  · have NG : Hid (¬ M.Good) := bad
    clear bad
    go_wp2_with (refine wpList_store_row rfl 98 (.tmp 8) (.tmp 15) rfl w1.heap.size 0 Try.zeroCells98 rfl rfl 108 _ (hcell zeros zeros (fun _ => false)) r79 (by rw [size79]; omega) (by rw [size79]; exact info79) one79 cell79 ?_; intro wz qz1 qz2 qz3; have hz := held_facts' hb1 qz1 qz2 size79; obtain ⟨rH, hbz⟩ := hz; clear qz1 qz2 qz3 rH)
    go_ret2
    exact zero_givesI (Or.inr ⟨fun g => NG.out g.1, rfl, rfl, rfl⟩) hbz
end Go.Proofs.Ytnbcjdoohmjghaa
