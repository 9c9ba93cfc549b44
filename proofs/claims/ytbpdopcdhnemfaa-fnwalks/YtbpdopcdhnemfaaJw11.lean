/- Merged by program, in this order: Wo, Wm, Wq, Wir, Draw, One, DrawW, DrawWs. -/
import Derived.Laws.BitsAllLaws
import Derived.Test.YtbpdopcdhnemfaaJw10
/- The walker in memory of the call's own: of a played walker. -/
namespace Go.Proofs.Ytbpdopcdhnemfaa
open Go.RowKit
set_option linter.unusedSimpArgs false
set_option linter.unusedVariables false
theorem eqnilTIn7 (d t : Nat) (e : TypeId) (ht : Try.prog.underlying t = some (.slice e)) (w : World) : (Op.equalIn (d + 1) t (.slice none 0 0) (.slice none 0 0)).run Try.prog w = .ok true w := by
  simp [Op.equalIn, run_underlying ht]
theorem eqnilT7 (t : Nat) (e : TypeId) (ht : Try.prog.underlying t = some (.slice e)) (w : World) : (binOp .eql t (.slice none 0 0) (.slice none 0 0)).run Try.prog w = .ok (.bool true) w := by
  have h1 : (Op.equal t (.slice none 0 0) (.slice none 0 0)).run Try.prog w = .ok true w := by
    exact eqnilTIn7 9999 t e ht w
  simp only [binOp]
  simp [h1]
theorem shortEq (d : Nat) (a b c a' b' c' : Int) (w : World) : (Op.equalIn (d + 2) 129 (.agg #[.int .i64 a, .int .i64 b, .int .i64 c]) (.agg #[.int .i64 a', .int .i64 b', .int .i64 c'])).run Try.prog w = .ok ((a == a') && ((b == b') && (c == c'))) w := by
  have u : Try.prog.underlying 129 = some (.struct (Try.prog.fieldsOf 129)) := by kernel_rfl
  have hp : Try.prog.stoodInHeld 129 = false := by kernel_rfl
  have hf : (Try.prog.fieldsOf 129).map (fun f => (f.name, f.type, f.offset)) = #[("At", 3, 0), ("Page", 3, 1), ("May", 3, 2)] := by kernel_rfl
  have p0 : ∀ w, (part 3 #[Value.int .i64 a, .int .i64 b, .int .i64 c] 0).run Try.prog w = .ok (.int .i64 a) w := fun w => by kernel_rfl
  have p1 : ∀ w, (part 3 #[Value.int .i64 a, .int .i64 b, .int .i64 c] 1).run Try.prog w = .ok (.int .i64 b) w := fun w => by kernel_rfl
  have p2 : ∀ w, (part 3 #[Value.int .i64 a, .int .i64 b, .int .i64 c] 2).run Try.prog w = .ok (.int .i64 c) w := fun w => by kernel_rfl
  have q0 : ∀ w, (part 3 #[Value.int .i64 a', .int .i64 b', .int .i64 c'] 0).run Try.prog w = .ok (.int .i64 a') w := fun w => by kernel_rfl
  have q1 : ∀ w, (part 3 #[Value.int .i64 a', .int .i64 b', .int .i64 c'] 1).run Try.prog w = .ok (.int .i64 b') w := fun w => by kernel_rfl
  have q2 : ∀ w, (part 3 #[Value.int .i64 a', .int .i64 b', .int .i64 c'] 2).run Try.prog w = .ok (.int .i64 c') w := fun w => by kernel_rfl
  have H : ∀ x y w, (Op.equalIn (d + 1) 3 (.int .i64 x) (.int .i64 y)).run Try.prog w = .ok (x == y) w := fun x y w => run_equalIn_int w d 3 .i64 .i64 x y Try.underlying3
  by_cases h0 : a = a' <;> by_cases h1 : b = b' <;> by_cases h2 : c = c' <;> simp [go_sem, h0, h1, h2]
theorem shortNe (a b c : Int) (w : World) : (binOp .neq 129 (.agg #[.int .i64 a, .int .i64 b, .int .i64 c]) (.agg #[.int .i64 a, .int .i64 b, .int .i64 c])).run Try.prog w = .ok (.bool false) w := by
  rw [run_neq_struct, shortEq 9998 a b c a b c w]
  simp
set_option maxRecDepth 10000 in
set_option maxHeartbeats 1600000 in
theorem cloneSh_any (ao : Option Addr) (n c : Nat) (F : Nat → Nat → Int) (Y : Nat → Prop) (w : World) (hn : n ≤ 1000) (hR : Room ao n c) (h : KAt 3 Y w ao n F) :
    Calls Try.prog 159 #[.slice ao n c] w fun e w' => ∃ a' c', e = .returned (.slice a' n c') ∧ KOwn 3 (fun x => w.heap.size ≤ x ∧ x < w'.heap.size) w' a' n F ∧ Room a' n c' ∧ c' ≤ 9223372036854775807 ∧ Blw w w' := by
  rcases hR with ⟨rfl, rfl, rfl⟩ | ⟨b, rfl, hc⟩
  · have hnil := eqnilT7 30 129 Try.underlying30
    clear h
    go_enter Try.func159, Try.ntmps159
    go_wp2
    exact bodyPost_ret (v := .slice none 0 0) (by simp [results, Try.results159, go_sem]) rfl ⟨none, 0, rfl, KOwn.nil _ _ _ _ _, Or.inl ⟨rfl, rfl, rfl⟩, by omega, Blw.refl _⟩
  · have hA : Blw w (w.alloc (.cells #[] 129)) := (Blw.refl _).alloc _
    have hE : (w.alloc (.cells #[] 129)).heap[w.heap.size]? = some (.cells #[] 129 (0, 0)) := heap_alloc_new w _
    have hsz : (w.alloc (.cells #[] 129)).heap.size = w.heap.size + 1 := by simp
    obtain ⟨a1, cap, w2, hrun, hB, hM⟩ := cloneK hE (h.blw hA) hn c
    obtain ⟨ax, px, ex, hrm, hcp, hx⟩ := Buf.ways hB (by omega)
    cases ex
    have s2 := hM.size
    have HRN : Hid _ := hrun
    have FIN : Hid (∃ a' c', Ending.returned (Value.slice a1 n cap) = .returned (.slice a' n c') ∧ KOwn 3 (fun x => w.heap.size ≤ x ∧ x < w2.heap.size) w2 a' n F ∧ Room a' n c' ∧ c' ≤ 9223372036854775807 ∧ Blw w w2) := ⟨a1, cap, rfl, hx.mono (fun b hb => by have := hsz; omega), hrm, hcp, Mod.blw hA hM (fun i hi => by omega)⟩
    have hnil := eqnil 30 129 b 0 n c Try.underlying30
    clear hrun hB hx hM h hA hE hsz s2 hrm hcp
    go_enter Try.func159, Try.ntmps159
    go_wp2_with (first | (at_builtin; refine wpList_app (.tmp 5) (.tmp 6) 30 (by rfl) ?_; refine ⟨_, _, HRN.out, ?_⟩) | fail)
    exact bodyPost_ret (v := .slice a1 n cap) (by simp [results, Try.results159, go_sem]) rfl FIN.out
theorem cs7 {W : World} {x0 x1 x2 : Value} {zs zb z5 : Nat} {v : KV} {D : KD} {c : Nat → Int} {u : Value} (hs : Row W zs 3 (fun i => if i = 0 then x0 else if i = 1 then x1 else x2)) (hb : Row W zb 4 (kb v D)) (h5 : Row W z5 5 (row5f c u)) : W.cell? ⟨zs, 0, none⟩ = some x0 ∧ W.cell? ⟨zs, 1, none⟩ = some x1 ∧ W.cell? ⟨zs, 2, none⟩ = some x2 ∧ W.cell? ⟨zb, 2, none⟩ = some (.slice v.a D.n v.q) ∧ W.cell? ⟨z5, 0, none⟩ = some (.int .i64 (c 0)) ∧ W.cell? ⟨z5, 1, none⟩ = some (.int .i64 (c 1)) ∧ W.cell? ⟨z5, 2, none⟩ = some (.int .i64 (c 2)) ∧ W.cell? ⟨z5, 3, none⟩ = some (.int .i64 (c 3)) ∧ W.cell? ⟨z5, 4, none⟩ = some u :=
  ⟨(get3s hs).1, (get3s hs).2.1, (get3s hs).2.2, (get4 hb).2.2.1, get5 h5⟩
theorem cs10 {W : World} {zb z5 : Nat} {v : KV} {D : KD} {c : Nat → Int} {u : Value} (hb : Row W zb 4 (kb v D)) (h5 : Row W z5 5 (row5f c u)) : W.cell? ⟨zb, 2, none⟩ = some (.slice v.a D.n v.q) ∧ W.cell? ⟨zb, 3, none⟩ = some (.int .i64 D.h) ∧ W.cell? ⟨z5, 0, none⟩ = some (.int .i64 (c 0)) ∧ W.cell? ⟨z5, 1, none⟩ = some (.int .i64 (c 1)) ∧ W.cell? ⟨z5, 2, none⟩ = some (.int .i64 (c 2)) ∧ W.cell? ⟨z5, 3, none⟩ = some (.int .i64 (c 3)) ∧ W.cell? ⟨z5, 4, none⟩ = some u :=
  ⟨(get4 hb).2.2.1, (get4 hb).2.2.2, get5 h5⟩
set_option maxRecDepth 10000 in
set_option maxHeartbeats 6400000 in
theorem ownW0_any (vb : BV) (va : Option Addr) (vq : Nat) (c : Nat → Int) (kn : Nat) (p m : Nat → Nat → Int) (n : Nat) (F : Nat → Nat → Int) (h : Int) (Y : Nat → Prop) (w : World) (hG : WG ⟨⟨4, c, ⟨kn, fun _ => 4, p, m⟩⟩, n, F, h⟩) (hY : ∀ x, Y x → x < w.heap.size) (hR : Room va n vq) (hq : vq ≤ 9223372036854775807) (hA : WkAt Y w ⟨vb, va, vq⟩ ⟨⟨4, c, ⟨kn, fun _ => 4, p, m⟩⟩, n, F, h⟩) :
    Calls Try.prog 94 #[(KV.val ⟨vb, va, vq⟩ ⟨⟨4, c, ⟨kn, fun _ => 4, p, m⟩⟩, n, F, h⟩)] w fun e w' => ∃ v' : KV, e = .returned (.tuple #[KV.val v' ⟨⟨4, c, ⟨kn, fun _ => 4, p, m⟩⟩, n, F, h⟩, .bool true]) ∧ WkAt (fun x => w.heap.size ≤ x ∧ x < w'.heap.size) w' v' ⟨⟨4, c, ⟨kn, fun _ => 4, p, m⟩⟩, n, F, h⟩ ∧ Room v'.a n v'.q ∧ v'.q ≤ 9223372036854775807 ∧ Blw w w' := by
  have hn : n ≤ 4 := hG.n4
  have hh0 : 0 ≤ h ∧ h ≤ 1000 := hG.h0
  have hk4 : kn ≤ 4 := hG.g.k.2
  have hg0 : BD.Good ⟨4, c, ⟨kn, fun _ => 4, p, m⟩⟩ := hG.g
  have htop : ∀ i, i < 4 → -1 ≤ c i ∧ c i ≤ (kn : Int) - 1 := fun i hi => hG.g.top i hi
  have HSH : Hid (∀ j, j < n → ∃ a : Nat, a < 16 ∧ F j 0 = a ∧ F j 1 = lfP c p a ∧ F j 2 = lfP c m a) := fun j hj => by
    obtain ⟨a, h1, h2, h3, h4, -⟩ := hG.sh j hj
    exact ⟨a, h1, h2, h3, h4⟩
  have HDS : Hid (∀ i j, i < n → j < n → F i 0 = F j 0 → i = j) := fun i j hi hj e => hG.ds i j hi hj e
  have HTOP : Hid (∀ i, i < 4 → -1 ≤ c i ∧ c i ≤ (kn : Int) - 1) := htop
  have HGD : Hid (BD.Good ⟨4, c, ⟨kn, fun _ => 4, p, m⟩⟩) := hg0
  have HRM : Hid (Room va n vq ∧ vq ≤ 9223372036854775807) := ⟨hR, hq⟩
  clear hG htop hg0 hR hq
  have hb0 : Blw w ((w.alloc (.cells #[.slice vb.a1 4 vb.c1, .slice vb.a2 kn vb.c2, .slice va n vq, .int .i64 h] 32)).alloc (.cells #[.slice none 0 0, .slice none 0 0, .slice none 0 0, .int .i64 0] 32)) := ((Blw.refl _).alloc _).alloc _
  have r1 := box4 (w.alloc (.cells #[.slice vb.a1 4 vb.c1, .slice vb.a2 kn vb.c2, .slice va n vq, .int .i64 h] 32)) (.slice none 0 0) (.slice none 0 0) (.slice none 0 0) (.int .i64 0) 32
  rw [World.size_alloc] at r1
  have R0 : Hid (Row ((w.alloc (.cells #[.slice vb.a1 4 vb.c1, .slice vb.a2 kn vb.c2, .slice va n vq, .int .i64 h] 32)).alloc (.cells #[.slice none 0 0, .slice none 0 0, .slice none 0 0, .int .i64 0] 32)) w.heap.size 4 (kb ⟨vb, va, vq⟩ ⟨⟨4, c, ⟨kn, fun _ => 4, p, m⟩⟩, n, F, h⟩)) := (box4 w _ _ _ _ 32).blw ((Blw.refl _).alloc _)
  have R1 : Hid (Row ((w.alloc (.cells #[.slice vb.a1 4 vb.c1, .slice vb.a2 kn vb.c2, .slice va n vq, .int .i64 h] 32)).alloc (.cells #[.slice none 0 0, .slice none 0 0, .slice none 0 0, .int .i64 0] 32)) (w.heap.size + 1) 4 (fun i => if i = 0 then .slice none 0 0 else if i = 1 then .slice none 0 0 else if i = 2 then .slice none 0 0 else .int .i64 0)) := r1
  have HA : Hid (WkAt Y ((w.alloc (.cells #[.slice vb.a1 4 vb.c1, .slice vb.a2 kn vb.c2, .slice va n vq, .int .i64 h] 32)).alloc (.cells #[.slice none 0 0, .slice none 0 0, .slice none 0 0, .int .i64 0] 32)) ⟨vb, va, vq⟩ ⟨⟨4, c, ⟨kn, fun _ => 4, p, m⟩⟩, n, F, h⟩) := hA.blw hb0
  have HB : Hid (Blw w ((w.alloc (.cells #[.slice vb.a1 4 vb.c1, .slice vb.a2 kn vb.c2, .slice va n vq, .int .i64 h] 32)).alloc (.cells #[.slice none 0 0, .slice none 0 0, .slice none 0 0, .int .i64 0] 32))) := hb0
  have HS : Hid (((w.alloc (.cells #[.slice vb.a1 4 vb.c1, .slice vb.a2 kn vb.c2, .slice va n vq, .int .i64 h] 32)).alloc (.cells #[.slice none 0 0, .slice none 0 0, .slice none 0 0, .int .i64 0] 32)).heap.size = w.heap.size + 2) := by show _ = _; simp
  clear hb0 r1 hA
  go_enter Try.func94, Try.ntmps94
  obtain ⟨p0, p1, p2, p3⟩ := get4 R0.out
  go_wp2_with fail
  clear p0 p1 p2 p3
  generalize ((w.alloc (.cells #[.slice vb.a1 4 vb.c1, .slice vb.a2 kn vb.c2, .slice va n vq, .int .i64 h] 32)).alloc (.cells #[.slice none 0 0, .slice none 0 0, .slice none 0 0, .int .i64 0] 32)) = W0 at *
  refine (hold_any vb ⟨4, c, ⟨kn, fun _ => 4, p, m⟩⟩ Y _ HA.out.t (fun x hx => by have := hY x hx; have := HS.out; omega)).mono ?_
  rintro e w1 ⟨⟨zl, -, rfl, hrl, -⟩ | ⟨hng, -⟩, hb1⟩
  case inr => exact absurd HGD.out hng
  have hA5 : Blw w1 (w1.alloc (.cells (held5 c zl kn) 136)) := (Blw.refl _).alloc _
  have RH : Hid (Row (w1.alloc (.cells (held5 c zl kn) 136)) w1.heap.size 5 (row5f c (.slice (some ⟨zl, 0, none⟩) kn kn))) := row5 w1 (.int .i64 (c 0)) (.int .i64 (c 1)) (.int .i64 (c 2)) (.int .i64 (c 3)) (.slice (some ⟨zl, 0, none⟩) kn kn) 136
  have RL : Hid (Row (w1.alloc (.cells (held5 c zl kn) 136)) zl (kn * 8) (lc p m)) := hrl.blw hA5
  replace R0 : Hid (Row (w1.alloc (.cells (held5 c zl kn) 136)) w.heap.size 4 (kb ⟨vb, va, vq⟩ ⟨⟨4, c, ⟨kn, fun _ => 4, p, m⟩⟩, n, F, h⟩)) := R0.out.blw (hb1.trans hA5)
  replace R1 : Hid (Row (w1.alloc (.cells (held5 c zl kn) 136)) (w.heap.size + 1) 4 (fun i => if i = 0 then .slice none 0 0 else if i = 1 then .slice none 0 0 else if i = 2 then .slice none 0 0 else .int .i64 0)) := R1.out.blw (hb1.trans hA5)
  replace HA : Hid (WkAt Y (w1.alloc (.cells (held5 c zl kn) 136)) ⟨vb, va, vq⟩ ⟨⟨4, c, ⟨kn, fun _ => 4, p, m⟩⟩, n, F, h⟩) := HA.out.blw (hb1.trans hA5)
  have HS1 : Hid (w.heap.size + 2 ≤ w1.heap.size) := by have := HS.out; have := hb1.size; show _ ≤ _; omega
  replace HB : Hid (Blw w (w1.alloc (.cells (held5 c zl kn) 136))) := HB.out.trans (hb1.trans hA5)
  clear hb1 hA5 hrl HS
  have d1 : ¬ (n : Int) > 4 := by omega
  have d2 : ¬ h < 0 := by omega
  have d3 : ¬ h > 1000 := by omega
  obtain ⟨p0, p1, p2, p3⟩ := get4 R0.out
  go_upto_region 4 with fail
  clear d1 d2 d3
  generalize (w1.alloc (.cells (held5 c zl kn) 136)) = W at *
  have HZ5 : Hid (w.heap.size + 2 ≤ w1.heap.size) := HS1.out
  replace HS1 : Hid (w.heap.size + 2 ≤ W.heap.size) := by have := HS1.out; have := RH.out.lt; show _ ≤ _; omega
  generalize w1.heap.size = z5 at *
  go_wp2_with fail
  clear p0 p1 p2 p3
  go_loopw [36] (fun i wr => ∃ j : Nat, j ≤ n ∧ i = .int .i64 j ∧ Blw W wr) (fun i _ => n - (intOf i).toNat)
  case atStart => exact ⟨0, Nat.zero_le _, rfl, Blw.refl _⟩
  case round =>
    obtain ⟨j, hj, rfl, hbl⟩ := hrel
    by_cases hlt : j < n
    · have hlt' : (j : Int) < (n : Int) := by omega
      obtain ⟨a, ha, e0, e1, e2⟩ := HSH.out j hlt
      obtain ⟨gb, rfl, hcap⟩ : ∃ gb, va = some ⟨gb, 0, none⟩ ∧ n ≤ vq := by
        rcases HRM.out.1 with ⟨-, e, -⟩ | ⟨gb, e, e2⟩
        · omega
        · exact ⟨gb, e, e2⟩
      have hjq : (j : Int) ≤ (vq : Int) := by omega
      have hj0 : (0 : Int) ≤ (j : Int) := by omega
      have hvq := HRM.out.2
      have HNO : Hid (∀ t, t < j → F t 0 ≠ (a : Int)) := fun t ht e => by have := HDS.out t j (by omega) hlt (e.trans e0.symm); omega
      have hA3 : Blw wr (wr.alloc (.cells #[.int .i64 (a : Int), .int .i64 (lfP c p a), .int .i64 (lfP c m a)] 129)) := (Blw.refl _).alloc _
      have HBL : Hid (Blw W (wr.alloc (.cells #[.int .i64 (a : Int), .int .i64 (lfP c p a), .int .i64 (lfP c m a)] 129)).drew) := (hbl.trans hA3).drew
      have RS : Hid (Row (wr.alloc (.cells #[.int .i64 (a : Int), .int .i64 (lfP c p a), .int .i64 (lfP c m a)] 129)).drew wr.heap.size 3 (fun i => if i = 0 then .int .i64 (a : Int) else if i = 1 then .int .i64 (lfP c p a) else .int .i64 (lfP c m a))) := (box3s wr _ _ _ 129).blw ((Blw.refl _).drew)
      obtain ⟨bl, o, hbo, -, g⟩ := (HA.out.k.blw hbl).2 j hlt
      cases hbo
      replace g : ∀ c, c < 3 → wr.cell? ⟨gb, 0 + j * 3 + c, none⟩ = some (.int .i64 (F j c)) := g
      have g0 := g 0 (by omega)
      have g1 := g 1 (by omega)
      have g2 := g 2 (by omega)
      rw [Nat.zero_add, Nat.add_zero, e0] at g0
      rw [Nat.zero_add, e1] at g1
      rw [Nat.zero_add, e2] at g2
      clear g hbl hA3 e0 e1 e2 hj
      go_upto_region 7 with fail
      clear g0 g1 g2
      generalize (wr.alloc (.cells #[.int .i64 (a : Int), .int .i64 (lfP c p a), .int .i64 (lfP c m a)] 129)) = wp at *
      generalize wr.heap.size = zs at *
      have hN : ∀ w', (binOp .neq 129 (.agg #[.int .i64 (a : Int), .int .i64 (lfP c p a), .int .i64 (lfP c m a)]) (.agg #[.int .i64 (a : Int), .int .i64 (lfP c p a), .int .i64 (lfP c m a)])).run Try.prog w' = .ok (.bool false) w' := fun w' => shortNe _ _ _ w'
      refine wp_region_noPanic ?_
      refine wp_region_held_drew (S := (fun w' => w'.cell? ⟨zs, 0, none⟩ = some (.int .i64 (a : Int)) ∧ w'.cell? ⟨zs, 1, none⟩ = some (.int .i64 (lfP c p a)) ∧ w'.cell? ⟨zs, 2, none⟩ = some (.int .i64 (lfP c m a)) ∧ w'.cell? ⟨w.heap.size, 2, none⟩ = some (.slice (some ⟨gb, 0, none⟩) n vq) ∧ w'.cell? ⟨z5, 0, none⟩ = some (.int .i64 (c 0)) ∧ w'.cell? ⟨z5, 1, none⟩ = some (.int .i64 (c 1)) ∧ w'.cell? ⟨z5, 2, none⟩ = some (.int .i64 (c 2)) ∧ w'.cell? ⟨z5, 3, none⟩ = some (.int .i64 (c 3)) ∧ w'.cell? ⟨z5, 4, none⟩ = some (.slice (some ⟨zl, 0, none⟩) kn kn))) (by kernel_rfl) (cs7 RS.out (R0.out.blw HBL.out) (RH.out.blw HBL.out)) (fun hB => ?_)
      clear hB
      generalize wp.drew = wd at *
      refine wpAnyH_take (i := 0) (oi := { dst := some 41, op := Op.fieldAddr 129 (Operand.tmp 7) 0, type := 0, pos := _, after := #[], guard := none }) (v := (.pointer (some ⟨zs, 0, none⟩))) rfl (by kernel_rfl) (by kernel_rfl) (by kernel_rfl) (fun _ _ _ h => h) (Or.inl ⟨by rfl, fun w' hS => by (try dsimp only at hS); go_simp⟩) (cs7 RS.out (R0.out.blw HBL.out) (RH.out.blw HBL.out)) ?_
      simp only [Act.put, List.setIfInBounds_toArray, List.set_cons_zero, List.set_cons_succ]
      refine wpAnyH_take (i := 1) (oi := { dst := some 42, op := Op.load 3 (Operand.tmp 41), type := 3, pos := _, after := #[{ on := 0, ground := Ground.data }], guard := none }) (v := (.int .i64 (a : Int))) rfl (by kernel_rfl) (by kernel_rfl) (by kernel_rfl) (fun _ _ _ h => h) (Or.inl ⟨by rfl, fun w' hS => by (try dsimp only at hS); go_simp⟩) (cs7 RS.out (R0.out.blw HBL.out) (RH.out.blw HBL.out)) ?_
      simp only [Act.put, List.setIfInBounds_toArray, List.set_cons_zero, List.set_cons_succ]
      refine wpAnyH_ready (rs := [2]) (by kernel_rfl) (by simp) ?_
      refine AllReadyH.cons (o := { dst := some 43, op := Op.call { callee := Callee.value (Operand.func 101), args := #[Operand.tmp 42], argTypes := #[3] }, type := 4, pos := _, after := #[{ on := 1, ground := Ground.data }], guard := none }) rfl (fun K hK => ?_) AllReadyH.nil
      go_simp
      refine (isPlace_yes (a : Int) _ (by unfold pgOK; omega)).mono ?_
      rintro e y1 ⟨rfl, hw⟩
      replace hw := hw.symm
      subst hw
      refine hK.out _ _ (cs7 RS.out (R0.out.blw HBL.out) (RH.out.blw HBL.out)) (fun hB => ?_)
      clear hK K hB
      try simp only [Act.put, List.setIfInBounds_toArray, List.set_cons_zero, List.set_cons_succ]
      refine wpAnyH_take (i := 3) (oi := { dst := some 44, op := Op.unOp UnOp.not 4 (Operand.tmp 43), type := 4, pos := _, after := #[{ on := 2, ground := Ground.data }], guard := none }) (v := (.bool false)) rfl (by kernel_rfl) (by kernel_rfl) (by kernel_rfl) (fun _ _ _ h => h) (Or.inl ⟨by rfl, fun w' hS => by (try dsimp only at hS); go_simp⟩) (cs7 RS.out (R0.out.blw HBL.out) (RH.out.blw HBL.out)) ?_
      simp only [Act.put, List.setIfInBounds_toArray, List.set_cons_zero, List.set_cons_succ]
      refine wpAnyH_take (i := 4) (oi := { dst := some 45, op := Op.move (Operand.tmp 44), type := 4, pos := _, after := #[{ on := 3, ground := Ground.data }, { on := 2, ground := Ground.chain }], guard := none }) (v := (.bool false)) rfl (by kernel_rfl) (by kernel_rfl) (by kernel_rfl) (fun _ _ _ h => h) (Or.inl ⟨by rfl, fun w' hS => by (try dsimp only at hS); go_simp⟩) (cs7 RS.out (R0.out.blw HBL.out) (RH.out.blw HBL.out)) ?_
      simp only [Act.put, List.setIfInBounds_toArray, List.set_cons_zero, List.set_cons_succ]
      refine wpAnyH_take (i := 5) (oi := { dst := some 46, op := Op.load 129 (Operand.tmp 7), type := 129, pos := _, after := #[{ on := 4, ground := Ground.guard }], guard := some (4, false) }) (v := (.agg #[.int .i64 (a : Int), .int .i64 (lfP c p a), .int .i64 (lfP c m a)])) rfl (by kernel_rfl) (by kernel_rfl) (by kernel_rfl) (fun _ _ _ h => h) (Or.inl ⟨by rfl, fun w' hS => by (try dsimp only at hS); go_simp⟩) (cs7 RS.out (R0.out.blw HBL.out) (RH.out.blw HBL.out)) ?_
      simp only [Act.put, List.setIfInBounds_toArray, List.set_cons_zero, List.set_cons_succ]
      refine wpAnyH_take (i := 6) (oi := { dst := some 47, op := Op.load 136 (Operand.tmp 4), type := 136, pos := _, after := #[{ on := 4, ground := Ground.guard }], guard := some (4, false) }) (v := (.agg (held5 c zl kn))) rfl (by kernel_rfl) (by kernel_rfl) (by kernel_rfl) (fun _ _ _ h => h) (Or.inl ⟨by rfl, fun w' hS => by (try dsimp only at hS); go_simp⟩) (cs7 RS.out (R0.out.blw HBL.out) (RH.out.blw HBL.out)) ?_
      simp only [Act.put, List.setIfInBounds_toArray, List.set_cons_zero, List.set_cons_succ]
      refine wpAnyH_take (i := 7) (oi := { dst := some 48, op := Op.fieldAddr 129 (Operand.tmp 7) 0, type := 0, pos := _, after := #[{ on := 4, ground := Ground.guard }], guard := some (4, false) }) (v := (.pointer (some ⟨zs, 0, none⟩))) rfl (by kernel_rfl) (by kernel_rfl) (by kernel_rfl) (fun _ _ _ h => h) (Or.inl ⟨by rfl, fun w' hS => by (try dsimp only at hS); go_simp⟩) (cs7 RS.out (R0.out.blw HBL.out) (RH.out.blw HBL.out)) ?_
      simp only [Act.put, List.setIfInBounds_toArray, List.set_cons_zero, List.set_cons_succ]
      refine wpAnyH_take (i := 8) (oi := { dst := some 49, op := Op.load 3 (Operand.tmp 48), type := 3, pos := _, after := #[{ on := 7, ground := Ground.data }, { on := 4, ground := Ground.guard }], guard := some (4, false) }) (v := (.int .i64 (a : Int))) rfl (by kernel_rfl) (by kernel_rfl) (by kernel_rfl) (fun _ _ _ h => h) (Or.inl ⟨by rfl, fun w' hS => by (try dsimp only at hS); go_simp⟩) (cs7 RS.out (R0.out.blw HBL.out) (RH.out.blw HBL.out)) ?_
      simp only [Act.put, List.setIfInBounds_toArray, List.set_cons_zero, List.set_cons_succ]
      refine wpAnyH_ready (rs := [9]) (by kernel_rfl) (by simp) ?_
      refine AllReadyH.cons (o := { dst := some 50, op := Op.call { callee := Callee.value (Operand.func 157), args := #[Operand.tmp 47, Operand.tmp 49], argTypes := #[136, 3] }, type := 129, pos := _, after := #[{ on := 6, ground := Ground.data }, { on := 8, ground := Ground.data }, { on := 4, ground := Ground.chain }, { on := 4, ground := Ground.guard }], guard := some (4, false) }) rfl (fun K hK => ?_) AllReadyH.nil
      go_simp
      refine (shortTo_any c zl kn p m a _ hk4 HTOP.out ha (RL.out.blw HBL.out)).mono ?_
      rintro e y2 ⟨rfl, hb⟩
      replace RS : Hid (Row y2 zs 3 (fun i => if i = 0 then .int .i64 (a : Int) else if i = 1 then .int .i64 (lfP c p a) else .int .i64 (lfP c m a))) := RS.out.blw hb
      replace HBL : Hid (Blw W y2) := HBL.out.trans hb
      clear hb
      refine hK.out _ _ (cs7 RS.out (R0.out.blw HBL.out) (RH.out.blw HBL.out)) (fun hB => ?_)
      clear hK K hB
      try simp only [Act.put, List.setIfInBounds_toArray, List.set_cons_zero, List.set_cons_succ]
      refine wpAnyH_take (i := 10) (oi := { dst := some 51, op := Op.binOp BinOp.neq 129 (Operand.tmp 46) (Operand.tmp 50) 129, type := 4, pos := _, after := #[{ on := 5, ground := Ground.data }, { on := 9, ground := Ground.data }, { on := 4, ground := Ground.guard }], guard := some (4, false) }) (v := (.bool false)) rfl (by kernel_rfl) (by kernel_rfl) (by kernel_rfl) (fun _ _ _ h => h) (Or.inl ⟨by rfl, fun w' hS => by (try dsimp only at hS); go_simp⟩) (cs7 RS.out (R0.out.blw HBL.out) (RH.out.blw HBL.out)) ?_
      simp only [Act.put, List.setIfInBounds_toArray, List.set_cons_zero, List.set_cons_succ]
      refine wpAnyH_take (i := 11) (oi := { dst := some 52, op := Op.pick (Operand.tmp 45) (Operand.const (Value.bool true)) (Operand.tmp 51), type := 4, pos := _, after := #[{ on := 4, ground := Ground.data }, { on := 10, ground := Ground.data }], guard := none }) (v := (.bool false)) rfl (by kernel_rfl) (by kernel_rfl) (by kernel_rfl) (fun _ _ _ h => h) (Or.inl ⟨by rfl, fun w' hS => by (try dsimp only at hS); go_simp⟩) (cs7 RS.out (R0.out.blw HBL.out) (RH.out.blw HBL.out)) ?_
      simp only [Act.put, List.setIfInBounds_toArray, List.set_cons_zero, List.set_cons_succ]
      refine wpAnyH_take (i := 12) (oi := { dst := some 53, op := Op.move (Operand.tmp 52), type := 4, pos := _, after := #[{ on := 11, ground := Ground.data }, { on := 9, ground := Ground.chain }], guard := none }) (v := (.bool false)) rfl (by kernel_rfl) (by kernel_rfl) (by kernel_rfl) (fun _ _ _ h => h) (Or.inl ⟨by rfl, fun w' hS => by (try dsimp only at hS); go_simp⟩) (cs7 RS.out (R0.out.blw HBL.out) (RH.out.blw HBL.out)) ?_
      simp only [Act.put, List.setIfInBounds_toArray, List.set_cons_zero, List.set_cons_succ]
      refine wpAnyH_take (i := 13) (oi := { dst := some 54, op := Op.fieldAddr 32 (Operand.tmp 1) 1, type := 0, pos := _, after := #[{ on := 12, ground := Ground.guard }], guard := some (12, false) }) (v := (.pointer (some ⟨w.heap.size, 2, none⟩))) rfl (by kernel_rfl) (by kernel_rfl) (by kernel_rfl) (fun _ _ _ h => h) (Or.inl ⟨by rfl, fun w' hS => by (try dsimp only at hS); go_simp⟩) (cs7 RS.out (R0.out.blw HBL.out) (RH.out.blw HBL.out)) ?_
      simp only [Act.put, List.setIfInBounds_toArray, List.set_cons_zero, List.set_cons_succ]
      refine wpAnyH_take (i := 15) (oi := { dst := some 56, op := Op.move (Operand.tmp 6), type := 3, pos := _, after := #[{ on := 12, ground := Ground.guard }], guard := some (12, false) }) (v := (.int .i64 (j : Int))) rfl (by kernel_rfl) (by kernel_rfl) (by kernel_rfl) (fun _ _ _ h => h) (Or.inl ⟨by rfl, fun w' hS => by (try dsimp only at hS); go_simp⟩) (cs7 RS.out (R0.out.blw HBL.out) (RH.out.blw HBL.out)) ?_
      simp only [Act.put, List.setIfInBounds_toArray, List.set_cons_zero, List.set_cons_succ]
      refine wpAnyH_take (i := 17) (oi := { dst := some 58, op := Op.fieldAddr 129 (Operand.tmp 7) 0, type := 0, pos := _, after := #[{ on := 12, ground := Ground.guard }], guard := some (12, false) }) (v := (.pointer (some ⟨zs, 0, none⟩))) rfl (by kernel_rfl) (by kernel_rfl) (by kernel_rfl) (fun _ _ _ h => h) (Or.inl ⟨by rfl, fun w' hS => by (try dsimp only at hS); go_simp⟩) (cs7 RS.out (R0.out.blw HBL.out) (RH.out.blw HBL.out)) ?_
      simp only [Act.put, List.setIfInBounds_toArray, List.set_cons_zero, List.set_cons_succ]
      refine wpAnyH_take (i := 14) (oi := { dst := some 55, op := Op.load 30 (Operand.tmp 54), type := 30, pos := _, after := #[{ on := 13, ground := Ground.data }, { on := 12, ground := Ground.guard }], guard := some (12, false) }) (v := (.slice (some ⟨gb, 0, none⟩) n vq)) rfl (by kernel_rfl) (by kernel_rfl) (by kernel_rfl) (fun _ _ _ h => h) (Or.inl ⟨by rfl, fun w' hS => by (try dsimp only at hS); go_simp⟩) (cs7 RS.out (R0.out.blw HBL.out) (RH.out.blw HBL.out)) ?_
      simp only [Act.put, List.setIfInBounds_toArray, List.set_cons_zero, List.set_cons_succ]
      refine wpAnyH_take (i := 18) (oi := { dst := some 59, op := Op.load 3 (Operand.tmp 58), type := 3, pos := _, after := #[{ on := 17, ground := Ground.data }, { on := 12, ground := Ground.guard }], guard := some (12, false) }) (v := (.int .i64 (a : Int))) rfl (by kernel_rfl) (by kernel_rfl) (by kernel_rfl) (fun _ _ _ h => h) (Or.inl ⟨by rfl, fun w' hS => by (try dsimp only at hS); go_simp⟩) (cs7 RS.out (R0.out.blw HBL.out) (RH.out.blw HBL.out)) ?_
      simp only [Act.put, List.setIfInBounds_toArray, List.set_cons_zero, List.set_cons_succ]
      refine wpAnyH_take (i := 16) (oi := { dst := some 57, op := Op.slice 30 (Operand.tmp 55) none (some (Operand.tmp 56)) none, type := 30, pos := _, after := #[{ on := 14, ground := Ground.data }, { on := 15, ground := Ground.data }, { on := 12, ground := Ground.guard }], guard := some (12, false) }) (v := (.slice (some ⟨gb, 0, none⟩) j vq)) rfl (by kernel_rfl) (by kernel_rfl) (by kernel_rfl) (fun _ _ _ h => h) (Or.inl ⟨by rfl, fun w' hS => by (try dsimp only at hS); go_simp⟩) (cs7 RS.out (R0.out.blw HBL.out) (RH.out.blw HBL.out)) ?_
      simp only [Act.put, List.setIfInBounds_toArray, List.set_cons_zero, List.set_cons_succ]
      refine wpAnyH_ready (rs := [19]) (by kernel_rfl) (by simp) ?_
      refine AllReadyH.cons (o := { dst := some 60, op := Op.call { callee := Callee.value (Operand.func 102), args := #[Operand.tmp 57, Operand.tmp 59], argTypes := #[30, 3] }, type := 3, pos := _, after := #[{ on := 16, ground := Ground.data }, { on := 18, ground := Ground.data }, { on := 12, ground := Ground.chain }, { on := 12, ground := Ground.guard }], guard := some (12, false) }) rfl (fun K hK => ?_) AllReadyH.nil
      go_simp
      refine (findShort_any (some ⟨gb, 0, none⟩) vq j F (a : Int) _ _ (⟨by omega, fun i hi => (HA.out.k.blw HBL.out).2 i (by show i < n; omega)⟩ : KAt 3 Y y2 (some ⟨gb, 0, none⟩) j F)).mono ?_
      rintro e y3 ⟨r, rfl, hr, hb⟩
      obtain rfl : r = -1 := hr.no (fun t ht => HNO.out t ht)
      replace RS : Hid (Row y3 zs 3 (fun i => if i = 0 then .int .i64 (a : Int) else if i = 1 then .int .i64 (lfP c p a) else .int .i64 (lfP c m a))) := RS.out.blw hb
      replace HBL : Hid (Blw W y3) := HBL.out.trans hb
      clear hb hr
      refine hK.out _ _ (cs7 RS.out (R0.out.blw HBL.out) (RH.out.blw HBL.out)) (fun hB => ?_)
      clear hK K hB
      try simp only [Act.put, List.setIfInBounds_toArray, List.set_cons_zero, List.set_cons_succ]
      refine wpAnyH_take (i := 20) (oi := { dst := some 61, op := Op.binOp BinOp.geq 3 (Operand.tmp 60) (Operand.const (Value.int IntKind.i64 0)) 3, type := 4, pos := _, after := #[{ on := 19, ground := Ground.data }, { on := 12, ground := Ground.guard }], guard := some (12, false) }) (v := (.bool false)) rfl (by kernel_rfl) (by kernel_rfl) (by kernel_rfl) (fun _ _ _ h => h) (Or.inl ⟨by rfl, fun w' hS => by (try dsimp only at hS); go_simp⟩) (cs7 RS.out (R0.out.blw HBL.out) (RH.out.blw HBL.out)) ?_
      simp only [Act.put, List.setIfInBounds_toArray, List.set_cons_zero, List.set_cons_succ]
      refine wpAnyH_take (i := 21) (oi := { dst := some 62, op := Op.pick (Operand.tmp 53) (Operand.const (Value.bool true)) (Operand.tmp 61), type := 4, pos := _, after := #[{ on := 12, ground := Ground.data }, { on := 20, ground := Ground.data }], guard := none }) (v := (.bool false)) rfl (by kernel_rfl) (by kernel_rfl) (by kernel_rfl) (fun _ _ _ h => h) (Or.inl ⟨by rfl, fun w' hS => by (try dsimp only at hS); go_simp⟩) (cs7 RS.out (R0.out.blw HBL.out) (RH.out.blw HBL.out)) ?_
      simp only [Act.put, List.setIfInBounds_toArray, List.set_cons_zero, List.set_cons_succ]
      refine wpAnyH_done (by kernel_rfl) ?_ _
      refine NoPanic.normal ?_
      clear hN hjq hj0 hvq RS
      go_wp2_with fail
      go_roundw
      case rel => exact ⟨j + 1, by omega, by go_num, HBL.out⟩
      case measure => simp [intOf]; omega
    · obtain rfl : j = n := by omega
      have HBL : Hid (Blw W wr.drew) := hbl.drew
      clear hbl hj
      go_upto_region 10 with fail
      have HWD : Hid (W.heap.size ≤ wr.drew.heap.size) := HBL.out.size
      refine wp_region_noPanic ?_
      refine wp_region_held_drew (S := (fun w' => w'.cell? ⟨w.heap.size, 2, none⟩ = some (.slice va j vq) ∧ w'.cell? ⟨w.heap.size, 3, none⟩ = some (.int .i64 h) ∧ w'.cell? ⟨z5, 0, none⟩ = some (.int .i64 (c 0)) ∧ w'.cell? ⟨z5, 1, none⟩ = some (.int .i64 (c 1)) ∧ w'.cell? ⟨z5, 2, none⟩ = some (.int .i64 (c 2)) ∧ w'.cell? ⟨z5, 3, none⟩ = some (.int .i64 (c 3)) ∧ w'.cell? ⟨z5, 4, none⟩ = some (.slice (some ⟨zl, 0, none⟩) kn kn))) (by kernel_rfl) (cs10 (R0.out.blw HBL.out) (RH.out.blw HBL.out)) (fun hB => ?_)
      clear hB
      generalize wr.drew = wd at *
      refine wpAnyH_take (i := 0) (oi := { dst := some 65, op := Op.load 136 (Operand.tmp 4), type := 136, pos := _, after := #[], guard := none }) (v := (.agg (held5 c zl kn))) rfl (by kernel_rfl) (by kernel_rfl) (by kernel_rfl) (fun _ _ _ h => h) (Or.inl ⟨by rfl, fun w' hS => by (try dsimp only at hS); go_simp⟩) (cs10 (R0.out.blw HBL.out) (RH.out.blw HBL.out)) ?_
      simp only [Act.put, List.setIfInBounds_toArray, List.set_cons_zero, List.set_cons_succ]
      refine wpAnyH_take (i := 2) (oi := { dst := some 67, op := Op.fieldAddr 32 (Operand.tmp 1) 1, type := 0, pos := _, after := #[], guard := none }) (v := (.pointer (some ⟨w.heap.size, 2, none⟩))) rfl (by kernel_rfl) (by kernel_rfl) (by kernel_rfl) (fun _ _ _ h => h) (Or.inl ⟨by rfl, fun w' hS => by (try dsimp only at hS); go_simp⟩) (cs10 (R0.out.blw HBL.out) (RH.out.blw HBL.out)) ?_
      simp only [Act.put, List.setIfInBounds_toArray, List.set_cons_zero, List.set_cons_succ]
      refine wpAnyH_take (i := 5) (oi := { dst := some 70, op := Op.fieldAddr 32 (Operand.tmp 1) 2, type := 0, pos := _, after := #[], guard := none }) (v := (.pointer (some ⟨w.heap.size, 3, none⟩))) rfl (by kernel_rfl) (by kernel_rfl) (by kernel_rfl) (fun _ _ _ h => h) (Or.inl ⟨by rfl, fun w' hS => by (try dsimp only at hS); go_simp⟩) (cs10 (R0.out.blw HBL.out) (RH.out.blw HBL.out)) ?_
      simp only [Act.put, List.setIfInBounds_toArray, List.set_cons_zero, List.set_cons_succ]
      refine wpAnyH_take (i := 3) (oi := { dst := some 68, op := Op.load 30 (Operand.tmp 67), type := 30, pos := _, after := #[{ on := 2, ground := Ground.data }], guard := none }) (v := (.slice va j vq)) rfl (by kernel_rfl) (by kernel_rfl) (by kernel_rfl) (fun _ _ _ h => h) (Or.inl ⟨by rfl, fun w' hS => by (try dsimp only at hS); go_simp⟩) (cs10 (R0.out.blw HBL.out) (RH.out.blw HBL.out)) ?_
      simp only [Act.put, List.setIfInBounds_toArray, List.set_cons_zero, List.set_cons_succ]
      refine wpAnyH_take (i := 6) (oi := { dst := some 71, op := Op.load 3 (Operand.tmp 70), type := 3, pos := _, after := #[{ on := 5, ground := Ground.data }], guard := none }) (v := (.int .i64 h)) rfl (by kernel_rfl) (by kernel_rfl) (by kernel_rfl) (fun _ _ _ h => h) (Or.inl ⟨by rfl, fun w' hS => by (try dsimp only at hS); go_simp⟩) (cs10 (R0.out.blw HBL.out) (RH.out.blw HBL.out)) ?_
      simp only [Act.put, List.setIfInBounds_toArray, List.set_cons_zero, List.set_cons_succ]
      refine wpAnyH_ready (rs := [1]) (by kernel_rfl) (by simp) ?_
      refine AllReadyH.cons (o := { dst := some 66, op := Op.call { callee := Callee.value (Operand.func 158), args := #[Operand.tmp 65], argTypes := #[136] }, type := 29, pos := _, after := #[{ on := 0, ground := Ground.data }], guard := none }) rfl (fun K hK => ?_) AllReadyH.nil
      go_simp
      refine (giveOut_any c zl kn p m _ hk4 (RL.out.blw HBL.out)).mono ?_
      rintro e y1 ⟨bt, rfl, hown, hb⟩
      have HT : Hid (BookAt (fun x => wd.heap.size ≤ x ∧ x < y1.heap.size) y1 bt ⟨4, c, ⟨kn, fun _ => 4, p, m⟩⟩) := hown.at
      replace HBL : Hid (Blw W y1) := HBL.out.trans hb
      have HY1 : Hid (wd.heap.size ≤ y1.heap.size) := hb.size
      clear hown hb
      refine hK.out _ _ (cs10 (R0.out.blw HBL.out) (RH.out.blw HBL.out)) (fun hB => ?_)
      clear hK K hB
      try simp only [Act.put, List.setIfInBounds_toArray, List.set_cons_zero, List.set_cons_succ]
      refine wpAnyH_ready (rs := [4]) (by kernel_rfl) (by simp) ?_
      refine AllReadyH.cons (o := { dst := some 69, op := Op.call { callee := Callee.value (Operand.func 159), args := #[Operand.tmp 68], argTypes := #[30] }, type := 30, pos := _, after := #[{ on := 3, ground := Ground.data }, { on := 1, ground := Ground.chain }], guard := none }) rfl (fun K hK => ?_) AllReadyH.nil
      go_simp
      refine (cloneSh_any va j vq F Y _ (by omega) HRM.out.1 (HA.out.k.blw HBL.out)).mono ?_
      rintro e y2 ⟨a2, q2, rfl, hko, hrm2, hcp2, hb⟩
      have HK2 : Hid (KAt 3 (fun x => y1.heap.size ≤ x ∧ x < y2.heap.size) y2 a2 j F) := hko.at
      have HRM2 : Hid (Room a2 j q2 ∧ q2 ≤ 9223372036854775807) := ⟨hrm2, hcp2⟩
      replace HT : Hid (BookAt (fun x => wd.heap.size ≤ x ∧ x < y1.heap.size) y2 bt ⟨4, c, ⟨kn, fun _ => 4, p, m⟩⟩) := HT.out.blw hb
      replace HBL : Hid (Blw W y2) := HBL.out.trans hb
      have HY2 : Hid (y1.heap.size ≤ y2.heap.size) := hb.size
      clear hko hrm2 hcp2 hb
      refine hK.out _ _ (cs10 (R0.out.blw HBL.out) (RH.out.blw HBL.out)) (fun hB => ?_)
      clear hK K hB
      try simp only [Act.put, List.setIfInBounds_toArray, List.set_cons_zero, List.set_cons_succ]
      refine wpAnyH_take (i := 7) (oi := { dst := some 72, op := Op.build 32 #[(0, Operand.tmp 66), (1, Operand.tmp 69), (2, Operand.tmp 71)], type := 32, pos := _, after := #[{ on := 1, ground := Ground.data }, { on := 4, ground := Ground.data }, { on := 6, ground := Ground.data }], guard := none }) (v := (.agg #[.slice bt.a1 4 bt.c1, .slice bt.a2 kn bt.c2, .slice a2 j q2, .int .i64 h])) rfl (by kernel_rfl) (by kernel_rfl) (by kernel_rfl) (fun _ _ _ h => h) (Or.inl ⟨by rfl, fun w' hS => by (try dsimp only at hS); go_simp⟩) (cs10 (R0.out.blw HBL.out) (RH.out.blw HBL.out)) ?_
      simp only [Act.put, List.setIfInBounds_toArray, List.set_cons_zero, List.set_cons_succ]
      refine wpAnyH_ready (rs := [8]) (by kernel_rfl) (by simp) ?_
      refine AllReadyH.cons (o := { dst := none, op := Op.store 32 (Operand.tmp 2) (Operand.tmp 72), type := 0, pos := _, after := #[{ on := 7, ground := Ground.data }, { on := 4, ground := Ground.chain }, { on := 0, ground := Ground.phase }, { on := 1, ground := Ground.phase }, { on := 2, ground := Ground.phase }, { on := 3, ground := Ground.phase }, { on := 4, ground := Ground.phase }, { on := 5, ground := Ground.phase }, { on := 6, ground := Ground.phase }, { on := 7, ground := Ground.phase }], guard := none }) rfl (fun K hK => ?_) AllReadyH.nil
      have R1y := R1.out.blw HBL.out
      obtain ⟨t0, t1, t2, t3⟩ := get4 R1y
      have f0 := R1y.frozen 0
      have f1 := R1y.frozen 1
      have f2 := R1y.frozen 2
      have f3 := R1y.frozen 3
      have o1 := HY1.out; have o2 := HY2.out; have o3 := HS1.out; have o4 := R1.out.lt; have o5 := HWD.out
      have m1 := set4_mod (w := y2) (z := w.heap.size + 1) (.slice bt.a1 4 bt.c1) (.slice bt.a2 kn bt.c2) (.slice a2 j q2) (.int .i64 h)
      have h5 := m1.size
      have FIN : Hid (WkAt (fun x => w.heap.size ≤ x ∧ x < ((((y2.setCell ⟨w.heap.size + 1, 0, none⟩ (.slice bt.a1 4 bt.c1)).setCell ⟨w.heap.size + 1, 1, none⟩ (.slice bt.a2 kn bt.c2)).setCell ⟨w.heap.size + 1, 2, none⟩ (.slice a2 j q2)).setCell ⟨w.heap.size + 1, 3, none⟩ (.int .i64 h)).heap.size) ((((y2.setCell ⟨w.heap.size + 1, 0, none⟩ (.slice bt.a1 4 bt.c1)).setCell ⟨w.heap.size + 1, 1, none⟩ (.slice bt.a2 kn bt.c2)).setCell ⟨w.heap.size + 1, 2, none⟩ (.slice a2 j q2)).setCell ⟨w.heap.size + 1, 3, none⟩ (.int .i64 h)) ⟨bt, a2, q2⟩ ⟨⟨4, c, ⟨kn, fun _ => 4, p, m⟩⟩, j, F, h⟩ ∧ Blw w ((((y2.setCell ⟨w.heap.size + 1, 0, none⟩ (.slice bt.a1 4 bt.c1)).setCell ⟨w.heap.size + 1, 1, none⟩ (.slice bt.a2 kn bt.c2)).setCell ⟨w.heap.size + 1, 2, none⟩ (.slice a2 j q2)).setCell ⟨w.heap.size + 1, 3, none⟩ (.int .i64 h))) := ⟨⟨(HT.out.mod m1 (fun x hx e => by omega)).mono (fun x hx => ⟨by omega, by omega⟩), (HK2.out.mod m1 (fun x hx e => by omega)).mono (fun x hx => ⟨by omega, by omega⟩)⟩, Mod.blw (HB.out.trans HBL.out) m1 (fun i hi => by omega)⟩
      have hSn : _ := cs10 ((R0.out.blw HBL.out).mod m1 (by omega)) ((RH.out.blw HBL.out).mod m1 (by have := HZ5.out; omega))
      clear m1 h5 R1y o1 o2 o3 o4 o5
      go_simp
      refine hK.out _ _ hSn (fun hB => ?_)
      clear hK K hB
      try simp only [Act.put, List.setIfInBounds_toArray, List.set_cons_zero, List.set_cons_succ]
      refine wpAnyH_take (i := 9) (oi := { dst := some 3, op := Op.assign (Operand.const (Value.bool true)), type := 4, pos := _, after := #[{ on := 8, ground := Ground.chain }, { on := 0, ground := Ground.phase }, { on := 1, ground := Ground.phase }, { on := 2, ground := Ground.phase }, { on := 3, ground := Ground.phase }, { on := 4, ground := Ground.phase }, { on := 5, ground := Ground.phase }, { on := 6, ground := Ground.phase }, { on := 7, ground := Ground.phase }, { on := 8, ground := Ground.phase }], guard := none }) (v := (.bool true)) rfl (by kernel_rfl) (by kernel_rfl) (by kernel_rfl) (fun _ _ _ h => h) (Or.inl ⟨by rfl, fun w' hS => by (try dsimp only at hS); go_simp⟩) hSn ?_
      simp only [Act.put, List.setIfInBounds_toArray, List.set_cons_zero, List.set_cons_succ]
      refine wpAnyH_done (by kernel_rfl) ?_ _
      refine NoPanic.normal ?_
      go_wp2
      exact bodyPost_ret (v := .tuple #[KV.val ⟨bt, a2, q2⟩ ⟨⟨4, c, ⟨kn, fun _ => 4, p, m⟩⟩, j, F, h⟩, .bool true]) (by simp [results, Try.results94, go_sem, t0, t1, t2, t3]) rfl ⟨⟨bt, a2, q2⟩, rfl, FIN.out.1, HRM2.out.1, HRM2.out.2, FIN.out.2⟩
end Go.Proofs.Ytbpdopcdhnemfaa
/- A played walker and the table alone: the same answers, the same table (no walk). -/
namespace Go.Proofs.Ytbpdopcdhnemfaa
open Go.RowKit
set_option linter.unusedSimpArgs false
set_option linter.unusedVariables false

theorem wso_pso {D R : KD} {k a g y v : Int} (hG : WG D) (hr : rightS k a g y) (h : WSO D k a g y R v) : PSO D.B k a g y R.B v := by
  rcases h with ⟨rfl, q, hq, rfl, hv⟩ | ⟨hk, RB, r, hc, hv⟩
  · have hy : mayOK y := by
      rcases hr.2 with ⟨e, -⟩ | ⟨-, -, e⟩ | ⟨e, -⟩
      · omega
      · exact e
      · omega
    have ok : wtOK D.B a y := ⟨hG.g, hr.1, hy⟩
    have hB : (wlkR D a q).B = D.B := by unfold wlkR; split <;> rfl
    refine Or.inl ⟨rfl, hB, ?_⟩
    rcases hv with ⟨hm, rfl⟩ | ⟨hm, rfl⟩
    · exact ⟨_, _, true, Or.inr ⟨ok, rfl, Or.inl ⟨hm, rfl, rfl⟩⟩, by simp⟩
    · exact ⟨_, _, false, Or.inr ⟨ok, rfl, Or.inr ⟨hm, rfl, rfl⟩⟩, by simp⟩
  · refine Or.inr ⟨hk, r, ?_⟩
    rcases hv with ⟨rfl, rfl, q, hq, rfl⟩ | ⟨rfl, rfl, rfl⟩
    · exact ⟨hc, by simp⟩
    · obtain ⟨R0, h1, ⟨e, -⟩ | ⟨-, e⟩⟩ := hc
      · cases e
      · subst e
        exact ⟨⟨R0, h1, Or.inr ⟨rfl, rfl⟩⟩, by simp⟩
theorem wsf_psf {D R : KD} {k a g y v : Int} (hG : WG D) (h : WSF D k a g y R v) : PSF D.B k a g y R.B v := by
  rcases h with ⟨n, rfl, rfl⟩ | ⟨hr, h⟩
  · exact Or.inl ⟨n, rfl, rfl⟩
  · exact Or.inr ⟨hr, wso_pso hG hr h⟩
theorem WPlays.plays {D : KD} {F : Nat → Nat → Int} {j : Nat} {Ds : Nat → KD} {A : Nat → Int} (h : WPlays D F j Ds A) (hD : WG D) : Plays D.B F j (fun i => (Ds i).B) A :=
  ⟨by show (Ds 0).B = D.B; rw [h.1], fun i hi => wsf_psf (h.good hD i (by omega)) (h.2 i hi)⟩
/-- PlayWalker answers what PlayPlain answers. -/
theorem pwO_ppO {k : Int} {n : Nat} {F : Nat → Nat → Int} {D : KD} {N N' : Nat} {f f' : Nat → Int} {r r' : Bool} (h : pwO k n F D N f r) (h' : ppO k n F N' f' r') : r = r' ∧ N = N' ∧ (∀ i, i < N → f i = f' i) ∧ (r = true → WG D) := by
  rcases h with ⟨g, rfl, rfl, Ds, A, hp, rfl, e⟩ | ⟨g, rfl, rfl, -⟩
  · have hG := newK_good g.1
    obtain ⟨e1, e2, e3⟩ := ppO_same (Or.inl ⟨g, rfl, rfl, _, A, hp.plays hG, e⟩ : ppO k N F N f true) h'
    exact ⟨e1, e2, e3, fun _ => hp.good hG N (Nat.le_refl _)⟩
  · rcases h' with ⟨g', -⟩ | ⟨-, rfl, rfl⟩
    · exact absurd g' g
    · exact ⟨rfl, rfl, fun i hi => absurd hi (Nat.not_lt_zero _), fun e => by cases e⟩
end Go.Proofs.Ytbpdopcdhnemfaa
/- Walkers that are the same: the laws' comparison; GoodWalker of a played walker. -/
namespace Go.Proofs.Ytbpdopcdhnemfaa
open Go.RowKit
set_option linter.unusedSimpArgs false
set_option linter.unusedVariables false
theorem same20w (a1 a2 : Option Addr) (c1 c2 n0 : Nat) (f g : Nat → Int) {Y Z : Nat → Prop} (w : World) (h1 : IntsAt Y w a1 n0 f) (h2 : IntsAt Z w a2 n0 g) (he : ∀ i, i < n0 → f i = g i) :
    Calls Try.prog 20 #[.slice a1 n0 c1, .slice a2 n0 c2] w fun e w' => e = .returned (.bool true) ∧ Blw w w' :=
  (sameInts_yes a1 a2 c1 c2 n0 f g w h1 h2 he).mono fun e w' ⟨he, n, hw⟩ => ⟨he, by subst hw; exact (Blw.refl _).drewN n⟩
theorem neqLf7 (x y : Int) (w : World) : (binOp .neq 189 (.agg #[.int .i64 x, .int .i64 y]) (.agg #[.int .i64 x, .int .i64 y])).run Try.prog w = .ok (.bool false) w := by
  rw [run_neq_struct, pairEq 9998 x y x y w]
  simp
set_option maxRecDepth 10000 in
set_option maxHeartbeats 3200000 in
theorem sameTable7_same (b b' : BV) (B : BD) {Y Z : Nat → Prop} (w : World) (h1 : BookAt Y w b B) (h2 : BookAt Z w b' B) :
    Calls Try.prog 92 #[b.val B, b'.val B] w fun e w' => e = .returned (.bool true) ∧ Blw w w' := by
  have hb0 : Blw w ((w.alloc (.cells #[.slice b.a1 B.n b.c1, .slice b.a2 B.D.n b.c2] 29)).alloc (.cells #[.slice b'.a1 B.n b'.c1, .slice b'.a2 B.D.n b'.c2] 29)) := ((Blw.refl _).alloc _).alloc _
  have HA : Hid (BookAt Y ((w.alloc (.cells #[.slice b.a1 B.n b.c1, .slice b.a2 B.D.n b.c2] 29)).alloc (.cells #[.slice b'.a1 B.n b'.c1, .slice b'.a2 B.D.n b'.c2] 29)) b B) := h1.blw hb0
  have HB : Hid (BookAt Z ((w.alloc (.cells #[.slice b.a1 B.n b.c1, .slice b.a2 B.D.n b.c2] 29)).alloc (.cells #[.slice b'.a1 B.n b'.c1, .slice b'.a2 B.D.n b'.c2] 29)) b' B) := h2.blw hb0
  have R0 : Hid (Row ((w.alloc (.cells #[.slice b.a1 B.n b.c1, .slice b.a2 B.D.n b.c2] 29)).alloc (.cells #[.slice b'.a1 B.n b'.c1, .slice b'.a2 B.D.n b'.c2] 29)) w.heap.size 2 (fun i => if i = 0 then .slice b.a1 B.n b.c1 else .slice b.a2 B.D.n b.c2)) := (box2 w _ _ 29).blw ((Blw.refl _).alloc _)
  have r1 := box2 (w.alloc (.cells #[.slice b.a1 B.n b.c1, .slice b.a2 B.D.n b.c2] 29)) (.slice b'.a1 B.n b'.c1) (.slice b'.a2 B.D.n b'.c2) 29
  rw [World.size_alloc] at r1
  have R1 : Hid (Row ((w.alloc (.cells #[.slice b.a1 B.n b.c1, .slice b.a2 B.D.n b.c2] 29)).alloc (.cells #[.slice b'.a1 B.n b'.c1, .slice b'.a2 B.D.n b'.c2] 29)) (w.heap.size + 1) 2 (fun i => if i = 0 then .slice b'.a1 B.n b'.c1 else .slice b'.a2 B.D.n b'.c2)) := r1
  clear h1 h2 r1
  obtain ⟨n, c, ⟨kn, len, p, m⟩⟩ := B
  dsimp only at *
  go_enter Try.func92, Try.ntmps92
  obtain ⟨p0, p1⟩ := get2 R0.out
  obtain ⟨q0, q1⟩ := get2 R1.out
  go_wp2_with fail
  clear p0 p1 q0 q1
  refine (same20w b.a1 b'.a1 b.c1 b'.c1 n c c _ HA.out.c HB.out.c (fun _ _ => rfl)).mono ?_
  rintro e w1 ⟨rfl, hb1⟩
  replace HA : Hid (BookAt Y w1 b ⟨n, c, ⟨kn, len, p, m⟩⟩) := HA.out.blw hb1
  replace HB : Hid (BookAt Z w1 b' ⟨n, c, ⟨kn, len, p, m⟩⟩) := HB.out.blw hb1
  replace R0 : Hid (Row w1 w.heap.size 2 (fun i => if i = 0 then .slice b.a1 n b.c1 else .slice b.a2 kn b.c2)) := R0.out.blw hb1
  replace R1 : Hid (Row w1 (w.heap.size + 1) 2 (fun i => if i = 0 then .slice b'.a1 n b'.c1 else .slice b'.a2 kn b'.c2)) := R1.out.blw hb1
  have HW : Hid (Blw w w1) := hb0.trans hb1
  have hkn := HA.out.l.1
  dsimp only at hkn
  clear hb0 hb1
  obtain ⟨p0, p1⟩ := get2 R0.out
  obtain ⟨q0, q1⟩ := get2 R1.out
  have dk : ((kn : Int) != (kn : Int)) = false := by simp
  go_wp2_with fail
  clear p0 p1 q0 q1 dk
  go_loopw [25] (fun i wr => ∃ k : Nat, k ≤ kn ∧ i = .int .i64 k ∧ Blw w1 wr) (fun i _ => kn - (intOf i).toNat)
  case atStart => exact ⟨0, Nat.zero_le _, rfl, Blw.refl _⟩
  case round =>
    obtain ⟨k, hk, rfl, hb⟩ := hrel
    have HBW : Hid (Blw w1 wr) := hb
    clear hb
    by_cases hlt : k < kn
    · have hlt' : (k : Int) < (kn : Int) := by omega
      obtain ⟨x1, y1, e1, ce1, ea1, -, g1, k1⟩ := HA.out.l.2 k hlt
      obtain ⟨x2, y2, e2, ce2, ea2, -, g2, k2⟩ := HB.out.l.2 k hlt
      dsimp only at ea1 ea2 g1 g2 k1 k2
      have G1 : Hid (w1.cell? ⟨x1, y1 + k, none⟩ = some (.slice e1 (len k) ce1)) := g1
      have G2 : Hid (w1.cell? ⟨x2, y2 + k, none⟩ = some (.slice e2 (len k) ce2)) := g2
      have K1 : Hid (UndosAt Y w1 e1 (len k) (p k) (m k)) := k1
      have K2 : Hid (UndosAt Z w1 e2 (len k) (p k) (m k)) := k2
      have hlk := k1.1
      clear g1 g2 k1 k2
      generalize len k = lk at *
      have R0w := R0.out.blw HBW.out
      have R1w := R1.out.blw HBW.out
      rw [ea1] at R0w
      rw [ea2] at R1w
      obtain ⟨p0, p1⟩ := get2 R0w
      obtain ⟨q0, q1⟩ := get2 R1w
      have g1 := HBW.out.cell G1.out
      have g2 := HBW.out.cell G2.out
      have dl : ((lk : Int) != (lk : Int)) = false := by simp
      clear R0w R1w
      go_wp2_with fail
      go_quiet (fail)
      clear p0 p1 q0 q1 g1 g2
      replace HBW : Hid (Blw w1 (wr.drewN nq)) := HBW.out.drewN nq
      clear dl
      generalize wr.drewN nq = wq at *
      have R0w := R0.out.blw HBW.out
      have R1w := R1.out.blw HBW.out
      rw [ea1] at R0w
      rw [ea2] at R1w
      obtain ⟨p0, p1⟩ := get2 R0w
      obtain ⟨q0, q1⟩ := get2 R1w
      have g1 := HBW.out.cell G1.out
      have g2 := HBW.out.cell G2.out
      clear R0w R1w
      go_wp2_with fail
      clear p0 p1 q0 q1 g1 g2
      go_loopw [47] (fun i wr2 => ∃ t : Nat, t ≤ lk ∧ i = .int .i64 t ∧ Blw w1 wr2) (fun i _ => lk - (intOf i).toNat)
      case atStart => exact ⟨0, Nat.zero_le _, rfl, HBW.out⟩
      case round =>
        clear HBW
        obtain ⟨t, ht, rfl, hb⟩ := hrel
        have HBW : Hid (Blw w1 wr) := hb
        clear hb
        by_cases hlt2 : t < lk
        · have hlt2' : (t : Int) < (lk : Int) := by omega
          obtain ⟨u1, v1, eb1, -, l1, l2⟩ := K1.out.2 t hlt2
          obtain ⟨u2, v2, eb2, -, l3, l4⟩ := K2.out.2 t hlt2
          subst eb1 eb2
          replace l1 := HBW.out.cell l1
          replace l2 := HBW.out.cell l2
          replace l3 := HBW.out.cell l3
          replace l4 := HBW.out.cell l4
          have R0w := R0.out.blw HBW.out
          have R1w := R1.out.blw HBW.out
          rw [ea1] at R0w
          rw [ea2] at R1w
          obtain ⟨p0, p1⟩ := get2 R0w
          obtain ⟨q0, q1⟩ := get2 R1w
          have g1 := HBW.out.cell G1.out
          have g2 := HBW.out.cell G2.out
          have hne := neqLf7 (p k t) (m k t)
          clear R0w R1w
          generalize p k t = pv at *
          generalize m k t = mv at *
          go_wp2_with fail
          go_quiet (fail)
          clear p0 p1 q0 q1 g1 g2 l1 l2 l3 l4 hne
          replace HBW : Hid (Blw w1 (wr.drewN nq)) := HBW.out.drewN nq
          go_wp2
          go_roundw
          case rel => exact ⟨t + 1, by omega, by go_num, HBW.out⟩
          case measure => simp [intOf]; omega
        · obtain rfl : t = lk := by omega
          go_wp2
          go_roundw
          case rel => exact ⟨k + 1, by omega, by go_num, HBW.out⟩
          case measure => simp [intOf]; omega
    · obtain rfl : k = kn := by omega
      have FIN : Hid (Blw w wr) := HW.out.trans HBW.out
      clear HBW HA HB R0 R1
      go_wp2
      go_ret
      exact ⟨rfl, FIN.out⟩
set_option maxRecDepth 10000 in
set_option maxHeartbeats 1600000 in
theorem sameShorts_same (a1 a2 : Option Addr) (c1 c2 n : Nat) (F : Nat → Nat → Int) {Y Z : Nat → Prop} (w : World) (h1 : KAt 3 Y w a1 n F) (h2 : KAt 3 Z w a2 n F) :
    Calls Try.prog 93 #[.slice a1 n c1, .slice a2 n c2] w fun e w' => e = .returned (.bool true) ∧ Blw w w' := by
  have H1 : Hid (KAt 3 Y w a1 n F) := h1
  have H2 : Hid (KAt 3 Z w a2 n F) := h2
  have hn := h1.1
  clear h1 h2
  go_enter Try.func93, Try.ntmps93
  go_wp2
  go_loopw [13] (fun i wr => ∃ k : Nat, k ≤ n ∧ i = .int .i64 k ∧ Blw w wr) (fun i _ => n - (intOf i).toNat)
  case atStart => exact ⟨0, Nat.zero_le _, rfl, Blw.refl _⟩
  case round =>
    obtain ⟨k, hk, rfl, hb⟩ := hrel
    by_cases hlt : k < n
    · have hlt' : (k : Int) < (n : Int) := by omega
      obtain ⟨b, o, rfl, -, g⟩ := (H1.out.blw hb).2 k hlt
      obtain ⟨b', o', rfl, -, g'⟩ := (H2.out.blw hb).2 k hlt
      have g0 := g 0 (by omega)
      have g1 := g 1 (by omega)
      have g2 := g 2 (by omega)
      have k0 := g' 0 (by omega)
      have k1 := g' 1 (by omega)
      have k2 := g' 2 (by omega)
      rw [Nat.add_zero] at g0 k0
      have hN : ∀ w', (binOp .neq 129 (.agg #[.int .i64 (F k 0), .int .i64 (F k 1), .int .i64 (F k 2)]) (.agg #[.int .i64 (F k 0), .int .i64 (F k 1), .int .i64 (F k 2)])).run Try.prog w' = .ok (.bool false) w' := fun w' => shortNe _ _ _ w'
      have HB : Hid (Blw w wr) := hb
      clear g g' hb
      go_wp2_with fail
      go_quiet (fail)
      clear g0 g1 g2 k0 k1 k2 hN
      go_wp2
      go_roundw
      case rel => exact ⟨k + 1, by omega, by go_num, HB.out.drewN _⟩
      case measure => simp [intOf]; omega
    · go_wp2
      go_ret
      exact ⟨rfl, hb⟩
set_option maxRecDepth 10000 in
set_option maxHeartbeats 3200000 in
theorem sameWalker_same (v u : KV) (D : KD) {X Y : Nat → Prop} (w : World) (h1 : WkAt X w v D) (h2 : WkAt Y w u D) :
    Calls Try.prog 21 #[v.val D, u.val D] w fun e w' => e = .returned (.bool true) ∧ Blw w w' := by
  have hb0 : Blw w ((w.alloc (.cells #[.slice v.b.a1 D.B.n v.b.c1, .slice v.b.a2 D.B.D.n v.b.c2, .slice v.a D.n v.q, .int .i64 D.h] 32)).alloc (.cells #[.slice u.b.a1 D.B.n u.b.c1, .slice u.b.a2 D.B.D.n u.b.c2, .slice u.a D.n u.q, .int .i64 D.h] 32)) := ((Blw.refl _).alloc _).alloc _
  have H1 : Hid (WkAt X ((w.alloc (.cells #[.slice v.b.a1 D.B.n v.b.c1, .slice v.b.a2 D.B.D.n v.b.c2, .slice v.a D.n v.q, .int .i64 D.h] 32)).alloc (.cells #[.slice u.b.a1 D.B.n u.b.c1, .slice u.b.a2 D.B.D.n u.b.c2, .slice u.a D.n u.q, .int .i64 D.h] 32)) v D) := h1.blw hb0
  have H2 : Hid (WkAt Y ((w.alloc (.cells #[.slice v.b.a1 D.B.n v.b.c1, .slice v.b.a2 D.B.D.n v.b.c2, .slice v.a D.n v.q, .int .i64 D.h] 32)).alloc (.cells #[.slice u.b.a1 D.B.n u.b.c1, .slice u.b.a2 D.B.D.n u.b.c2, .slice u.a D.n u.q, .int .i64 D.h] 32)) u D) := h2.blw hb0
  have R1 : Hid (Row ((w.alloc (.cells #[.slice v.b.a1 D.B.n v.b.c1, .slice v.b.a2 D.B.D.n v.b.c2, .slice v.a D.n v.q, .int .i64 D.h] 32)).alloc (.cells #[.slice u.b.a1 D.B.n u.b.c1, .slice u.b.a2 D.B.D.n u.b.c2, .slice u.a D.n u.q, .int .i64 D.h] 32)) w.heap.size 4 (kb v D)) := (box4 w _ _ _ _ 32).blw ((Blw.refl _).alloc _)
  have r2 := box4 (w.alloc (.cells #[.slice v.b.a1 D.B.n v.b.c1, .slice v.b.a2 D.B.D.n v.b.c2, .slice v.a D.n v.q, .int .i64 D.h] 32)) (.slice u.b.a1 D.B.n u.b.c1) (.slice u.b.a2 D.B.D.n u.b.c2) (.slice u.a D.n u.q) (.int .i64 D.h) 32
  rw [World.size_alloc] at r2
  have R2 : Hid (Row ((w.alloc (.cells #[.slice v.b.a1 D.B.n v.b.c1, .slice v.b.a2 D.B.D.n v.b.c2, .slice v.a D.n v.q, .int .i64 D.h] 32)).alloc (.cells #[.slice u.b.a1 D.B.n u.b.c1, .slice u.b.a2 D.B.D.n u.b.c2, .slice u.a D.n u.q, .int .i64 D.h] 32)) (w.heap.size + 1) 4 (kb u D)) := r2
  have HB : Hid (Blw w ((w.alloc (.cells #[.slice v.b.a1 D.B.n v.b.c1, .slice v.b.a2 D.B.D.n v.b.c2, .slice v.a D.n v.q, .int .i64 D.h] 32)).alloc (.cells #[.slice u.b.a1 D.B.n u.b.c1, .slice u.b.a2 D.B.D.n u.b.c2, .slice u.a D.n u.q, .int .i64 D.h] 32))) := hb0
  clear h1 h2 r2 hb0
  go_enter Try.func21, Try.ntmps21
  obtain ⟨p0, p1, p2, p3⟩ := get4 R1.out
  obtain ⟨q0, q1, q2, q3⟩ := get4 R2.out
  go_wp2_with fail
  clear p0 p1 p2 p3 q0 q1 q2 q3
  refine (sameTable7_same v.b u.b D.B _ H1.out.t H2.out.t).mono ?_
  rintro e w1 ⟨rfl, hb1⟩
  replace H1 : Hid (WkAt X w1 v D) := H1.out.blw hb1
  replace H2 : Hid (WkAt Y w1 u D) := H2.out.blw hb1
  replace R1 : Hid (Row w1 w.heap.size 4 (kb v D)) := R1.out.blw hb1
  replace R2 : Hid (Row w1 (w.heap.size + 1) 4 (kb u D)) := R2.out.blw hb1
  replace HB : Hid (Blw w w1) := HB.out.trans hb1
  clear hb1
  obtain ⟨p0, p1, p2, p3⟩ := get4 R1.out
  obtain ⟨q0, q1, q2, q3⟩ := get4 R2.out
  go_wp2_with fail
  clear p0 p1 p2 p3 q0 q1 q2 q3
  refine (sameShorts_same v.a u.a v.q u.q D.n D.F _ H1.out.k H2.out.k).mono ?_
  rintro e w2 ⟨rfl, hb1⟩
  replace R1 : Hid (Row w2 w.heap.size 4 (kb v D)) := R1.out.blw hb1
  replace R2 : Hid (Row w2 (w.heap.size + 1) 4 (kb u D)) := R2.out.blw hb1
  replace HB : Hid (Blw w w2) := HB.out.trans hb1
  have hh : (D.h == D.h) = true := by simp
  clear hb1 H1 H2
  obtain ⟨p0, p1, p2, p3⟩ := get4 R1.out
  obtain ⟨q0, q1, q2, q3⟩ := get4 R2.out
  clear R1 R2
  go_wp2
  go_ret
  exact ⟨rfl, HB.out⟩
theorem ownW_any (v : KV) (D : KD) (Y : Nat → Prop) (w : World) (hG : WG D) (hY : ∀ x, Y x → x < w.heap.size) (hR : Room v.a D.n v.q) (hq : v.q ≤ 9223372036854775807) (hA : WkAt Y w v D) :
    Calls Try.prog 94 #[v.val D] w fun e w' => ∃ v' : KV, e = .returned (.tuple #[KV.val v' D, .bool true]) ∧ WkAt (fun x => w.heap.size ≤ x ∧ x < w'.heap.size) w' v' D ∧ Room v'.a D.n v'.q ∧ v'.q ≤ 9223372036854775807 ∧ Blw w w' := by
  obtain ⟨vb, va, vq⟩ := v
  obtain ⟨B, n, F, h⟩ := D
  obtain ⟨c, kn, p, m, e⟩ := hG.f
  replace e : B = ⟨4, c, ⟨kn, fun _ => 4, p, m⟩⟩ := e
  subst e
  exact ownW0_any vb va vq c kn p m n F h Y w hG hY hR hq hA
set_option maxRecDepth 10000 in
set_option maxHeartbeats 1600000 in
theorem goodW_any (v : KV) (D : KD) (Y : Nat → Prop) (w : World) (hG : WG D) (hY : ∀ x, Y x → x < w.heap.size) (hR : Room v.a D.n v.q) (hq : v.q ≤ 9223372036854775807) (hA : WkAt Y w v D) :
    Calls Try.prog 22 #[v.val D] w fun e w' => e = .returned (.bool true) ∧ Blw w w' := by
  have hb0 : Blw w (w.alloc (.cells #[.slice v.b.a1 D.B.n v.b.c1, .slice v.b.a2 D.B.D.n v.b.c2, .slice v.a D.n v.q, .int .i64 D.h] 32)) := (Blw.refl _).alloc _
  have R0 : Hid (Row (w.alloc (.cells #[.slice v.b.a1 D.B.n v.b.c1, .slice v.b.a2 D.B.D.n v.b.c2, .slice v.a D.n v.q, .int .i64 D.h] 32)) w.heap.size 4 (kb v D)) := box4 w _ _ _ _ 32
  have HA : Hid (WkAt Y (w.alloc (.cells #[.slice v.b.a1 D.B.n v.b.c1, .slice v.b.a2 D.B.D.n v.b.c2, .slice v.a D.n v.q, .int .i64 D.h] 32)) v D) := hA.blw hb0
  have HB : Hid (Blw w (w.alloc (.cells #[.slice v.b.a1 D.B.n v.b.c1, .slice v.b.a2 D.B.D.n v.b.c2, .slice v.a D.n v.q, .int .i64 D.h] 32))) := hb0
  have HG : Hid (WG D) := hG
  have HR : Hid (Room v.a D.n v.q ∧ v.q ≤ 9223372036854775807) := ⟨hR, hq⟩
  clear hA hG hR hq
  go_enter Try.func22, Try.ntmps22
  obtain ⟨p0, p1, p2, p3⟩ := get4 R0.out
  go_wp2_with fail
  clear p0 p1 p2 p3
  refine (ownW_any v D Y _ HG.out (fun x hx => Nat.lt_of_lt_of_le (hY x hx) hb0.size) HR.out.1 HR.out.2 HA.out).mono ?_
  rintro e w1 ⟨v1, rfl, -, -, -, hb1⟩
  have FIN : Hid (Blw w w1) := HB.out.trans hb1
  clear HA HB HG HR R0 hb1 hb0
  go_wp2
  exact bodyPost_ret (v := .bool true) (by simp [results, Try.results22, go_sem]) rfl ⟨rfl, FIN.out.alloc _⟩
end Go.Proofs.Ytbpdopcdhnemfaa
/- PlayWalker, the program's: and that what it keeps has room. -/
namespace Go.Proofs.Ytbpdopcdhnemfaa
open Go.RowKit
set_option linter.unusedSimpArgs false
set_option linter.unusedVariables false

/-- As GivesW, and the short ways that are kept have room. -/
def GivesWR (out : KD → Nat → (Nat → Int) → Bool → Prop) (w : World) : Ending → World → Prop := fun e w' =>
  ∃ (v : KV) (D : KD) (u : Option Addr) (m q : Nat) (g : Nat → Int) (r : Bool), e = .returned (.tuple #[v.val D, .slice u m q, .bool r]) ∧ out D m g r ∧ (D.small ∧ m ≤ 1048576) ∧ (∃ X1 X2 : Nat → Prop, (∀ x, X1 x → w.heap.size ≤ x ∧ x < w'.heap.size) ∧ (∀ x, X2 x → (w.heap.size ≤ x ∧ x < w'.heap.size) ∧ ¬ X1 x) ∧ WkOwn X1 w' v D ∧ IntsOwn X2 w' u m g) ∧ Blw w w' ∧ Room v.a D.n v.q ∧ v.q ≤ 9223372036854775807
theorem zero_givesWR {out : KD → Nat → (Nat → Int) → Bool → Prop} {w w1 : World} (ho : out KD.zero 0 (fun _ => 0) false) (hb : Blw w w1) : GivesWR out w (.returned (.tuple #[KV.zero.val KD.zero, .slice none 0 0, .bool false])) w1 :=
  ⟨KV.zero, KD.zero, none, 0, 0, fun _ => 0, false, rfl, ho, ⟨KD.zero_small, by omega⟩, ⟨fun _ => False, fun _ => False, fun _ h => h.elim, fun _ h => h.elim, WkOwn.zero _ _, IntsOwn.nil _ _ _ _⟩, hb, Or.inl ⟨rfl, rfl, rfl⟩, by show (0 : Nat) ≤ _; omega⟩
set_option maxRecDepth 10000 in
set_option maxHeartbeats 3200000 in
theorem implPWR_any (k : Int) (ao : Option Addr) (n c : Nat) (F : Nat → Nat → Int) (w : World) (hn : n ≤ 1048576) (hl : KAt 4 (fun x => x < w.heap.size) w ao n F) :
    Calls Try.prog 16 #[.int .i64 k, .slice ao n c] w (GivesWR (pwO k n F) w) := by
  have hA0 : Blw w (w.alloc (.cells #[.slice none 0 0, .slice none 0 0, .slice none 0 0, .int .i64 0] 32)) := (Blw.refl _).alloc _
  have HR0 : Hid (Row (w.alloc (.cells #[.slice none 0 0, .slice none 0 0, .slice none 0 0, .int .i64 0] 32)) w.heap.size 4 (fun i => if i = 0 then .slice none 0 0 else if i = 1 then .slice none 0 0 else if i = 2 then .slice none 0 0 else .int .i64 0)) := box4 w _ _ _ _ 32
  have HB0 : Hid (Blw w (w.alloc (.cells #[.slice none 0 0, .slice none 0 0, .slice none 0 0, .int .i64 0] 32))) := hA0
  have HL : Hid (KAt 4 (fun x => x < w.heap.size) (w.alloc (.cells #[.slice none 0 0, .slice none 0 0, .slice none 0 0, .int .i64 0] 32)) ao n F) := hl.blw hA0
  have HZ0 : Hid (w.heap.size + 1 = (w.alloc (.cells #[.slice none 0 0, .slice none 0 0, .slice none 0 0, .int .i64 0] 32)).heap.size) := by show _ = _; simp
  clear hl hA0
  go_enter Try.func16, Try.ntmps16
  go_wp2_with fail
  generalize (w.alloc (.cells #[.slice none 0 0, .slice none 0 0, .slice none 0 0, .int .i64 0] 32)) = W0 at *
  refine (tableToPlay_any k ao n c _ hn).mono ?_
  rintro e w1 ⟨b, R, r, rfl, ho, hs, own, hb1⟩
  have HO : Hid (resT (cntOK k ∧ n ≤ 60) (newB k) R r) := ho
  clear ho
  cases r
  · have HN : Hid (¬ (cntOK k ∧ n ≤ 60)) := HO.out.elim (fun g => by cases g.2.2) (fun g => g.1)
    have hA : Blw w1 (w1.alloc (.cells #[.slice b.a1 R.n b.c1, .slice b.a2 R.D.n b.c2] 29)) := (Blw.refl _).alloc _
    have HR : Hid (Row (w1.alloc (.cells #[.slice b.a1 R.n b.c1, .slice b.a2 R.D.n b.c2] 29)) w.heap.size 4 (fun i => if i = 0 then .slice none 0 0 else if i = 1 then .slice none 0 0 else if i = 2 then .slice none 0 0 else .int .i64 0)) := (HR0.out.blw hb1).blw hA
    have HB : Hid (Blw w (w1.alloc (.cells #[.slice b.a1 R.n b.c1, .slice b.a2 R.D.n b.c2] 29))) := (HB0.out.trans hb1).trans hA
    clear hb1 hA own hs HO HL HR0 HB0
    go_upto_region 3 with fail
    generalize (w1.alloc (.cells #[.slice b.a1 R.n b.c1, .slice b.a2 R.D.n b.c2] 29)) = W1 at *
    have HF : Hid (Blw w ((((W1.setCell ⟨w.heap.size, 0, none⟩ (.slice none 0 0)).setCell ⟨w.heap.size, 1, none⟩ (.slice none 0 0)).setCell ⟨w.heap.size, 2, none⟩ (.slice none 0 0)).setCell ⟨w.heap.size, 3, none⟩ (.int .i64 0))) := Mod.blw HB.out (set4_mod _ _ _ _) (fun i hi => by omega)
    have HR2 := row4_set (a := .slice none 0 0) (b := .slice none 0 0) (c := .slice none 0 0) (d := .int .i64 0) HR.out
    obtain ⟨t0, t1, t2, t3⟩ := get4 HR.out
    have f0 := HR.out.frozen 0
    have f1 := HR.out.frozen 1
    have f2 := HR.out.frozen 2
    have f3 := HR.out.frozen 3
    have FIN : Hid _ := zero_givesWR (out := pwO k n F) (Or.inr ⟨HN.out, rfl, rfl, rfl⟩) HF.out
    clear HF HR HB HN HR2
    go_wp2
    exact bodyPost_ret (v := .tuple #[KV.zero.val KD.zero, .slice none 0 0, .bool false]) (by simp [results, Try.results16, go_sem, t0, t1, t2, t3]) rfl FIN.out
  have HY : Hid ((cntOK k ∧ n ≤ 60) ∧ R = newB k) := HO.out.elim (fun g => ⟨g.1, g.2.1⟩) (fun g => by cases g.2.2)
  clear HO
  have hA : Blw w1 ((w1.alloc (.cells #[.slice b.a1 R.n b.c1, .slice b.a2 R.D.n b.c2] 29)).alloc (.cells #[.slice b.a1 R.n b.c1, .slice b.a2 R.D.n b.c2, .slice none 0 0, .int .i64 0] 32)) := ((Blw.refl _).alloc _).alloc _
  have r4 := box4 (w1.alloc (.cells #[.slice b.a1 R.n b.c1, .slice b.a2 R.D.n b.c2] 29)) (.slice b.a1 R.n b.c1) (.slice b.a2 R.D.n b.c2) (.slice none 0 0) (.int .i64 0) 32
  rw [World.size_alloc] at r4
  have HT : Hid (WS (fun x => x ≤ w.heap.size) ((w1.alloc (.cells #[.slice b.a1 R.n b.c1, .slice b.a2 R.D.n b.c2] 29)).alloc (.cells #[.slice b.a1 R.n b.c1, .slice b.a2 R.D.n b.c2, .slice none 0 0, .int .i64 0] 32)) (w1.heap.size + 1) ⟨b, none, 0⟩ (newK k)) := by
    have hs1 := hb1.size
    have hz0 := HZ0.out
    obtain ⟨hck, rfl⟩ := HY.out
    refine ⟨⟨r4, (own.blw hA).mono (fun x hx => ⟨⟨fun e => by omega, by simp; omega, by omega⟩, fun e => by cases e.2⟩), KOwn.nil _ _ _ _ _, Or.inl ⟨rfl, rfl, rfl⟩, by show (0 : Nat) ≤ _; omega⟩, newK_good hck.1⟩
  have HB : Hid (Blw w ((w1.alloc (.cells #[.slice b.a1 R.n b.c1, .slice b.a2 R.D.n b.c2] 29)).alloc (.cells #[.slice b.a1 R.n b.c1, .slice b.a2 R.D.n b.c2, .slice none 0 0, .int .i64 0] 32))) := (HB0.out.trans hb1).trans hA
  have HR : Hid (Row ((w1.alloc (.cells #[.slice b.a1 R.n b.c1, .slice b.a2 R.D.n b.c2] 29)).alloc (.cells #[.slice b.a1 R.n b.c1, .slice b.a2 R.D.n b.c2, .slice none 0 0, .int .i64 0] 32)) w.heap.size 4 (fun i => if i = 0 then .slice none 0 0 else if i = 1 then .slice none 0 0 else if i = 2 then .slice none 0 0 else .int .i64 0)) := (HR0.out.blw hb1).blw hA
  have HZT : Hid (w.heap.size < w1.heap.size + 1) := by have := hb1.size; have := HZ0.out; show _ < _; omega
  have HLT : Hid (w.heap.size < w1.heap.size) := by have := hb1.size; have := HZ0.out; show _ < _; omega
  have HL2 : Hid (KAt 4 (fun x => x < ((w1.alloc (.cells #[.slice b.a1 R.n b.c1, .slice b.a2 R.D.n b.c2] 29)).alloc (.cells #[.slice b.a1 R.n b.c1, .slice b.a2 R.D.n b.c2, .slice none 0 0, .int .i64 0] 32)).heap.size ∧ x ≠ w1.heap.size + 1) ((w1.alloc (.cells #[.slice b.a1 R.n b.c1, .slice b.a2 R.D.n b.c2] 29)).alloc (.cells #[.slice b.a1 R.n b.c1, .slice b.a2 R.D.n b.c2, .slice none 0 0, .int .i64 0] 32)) ao n F) := (HL.out.blw (hb1.trans hA)).mono (fun x hx => by have h1 := HLT.out; have h2 := hA.size; omega)
  clear r4 hs own HR0 HB0 HL hb1 hA
  go_upto_region 5 with fail
  generalize ((w1.alloc (.cells #[.slice b.a1 R.n b.c1, .slice b.a2 R.D.n b.c2] 29)).alloc (.cells #[.slice b.a1 R.n b.c1, .slice b.a2 R.D.n b.c2, .slice none 0 0, .int .i64 0] 32)) = W1 at *
  generalize w1.heap.size + 1 = zt at *
  go_wp2_with fail
  refine (answersToW_any (fun x => x ≤ w.heap.size) zt ⟨b, none, 0⟩ (newK k) ao n c F W1 hn (fun x hx => by have := HB.out.size; have := HR.out.lt; omega) HT.out HL2.out).mono ?_
  rintro e w2 ⟨z, Ds, A, b2, rfl, hp, hz, hr, ht, hm⟩
  have HP : Hid (WPlays (newK k) F n Ds A) := hp
  have HZ : Hid (W1.heap.size ≤ z ∧ z < w2.heap.size ∧ zt < W1.heap.size ∧ w.heap.size < zt) := ⟨hz, hr.lt, HT.out.box.lt, HZT.out⟩
  have HRW : Hid (Row w2 z n (plRow n n A)) := hr
  have HT2 : Hid (WS (fun x => x ≤ w.heap.size ∨ x = z) w2 zt b2 (Ds n)) := ht
  have HB2 : Hid (Blw w w2) := Mod.blw HB.out hm (fun i hi => by have := HZT.out; omega)
  have HR2 : Hid (Row w2 w.heap.size 4 (fun i => if i = 0 then .slice none 0 0 else if i = 1 then .slice none 0 0 else if i = 2 then .slice none 0 0 else .int .i64 0)) := HR.out.mod hm (by have := HZT.out; omega)
  clear hp hz hr ht hm HT HB HR HL2 HZT
  have HF : Hid (GivesWR (pwO k n F) w (.returned (.tuple #[b2.val (Ds n), .slice (some ⟨z, 0, none⟩) n n, .bool true])) ((((w2.setCell ⟨w.heap.size, 0, none⟩ (.slice b2.b.a1 (Ds n).B.n b2.b.c1)).setCell ⟨w.heap.size, 1, none⟩ (.slice b2.b.a2 (Ds n).B.D.n b2.b.c2)).setCell ⟨w.heap.size, 2, none⟩ (.slice b2.a (Ds n).n b2.q)).setCell ⟨w.heap.size, 3, none⟩ (.int .i64 (Ds n).h))) := by
    have m := set4_mod (w := w2) (z := w.heap.size) (.slice b2.b.a1 (Ds n).B.n b2.b.c1) (.slice b2.b.a2 (Ds n).B.D.n b2.b.c2) (.slice b2.a (Ds n).n b2.q) (.int .i64 (Ds n).h)
    have hs := m.size
    have hz := HZ.out
    refine ⟨b2, Ds n, some ⟨z, 0, none⟩, n, n, A, true, rfl, Or.inl ⟨HY.out.1, rfl, rfl, Ds, A, HP.out, rfl, fun i hi => rfl⟩, ⟨HT2.out.g.small, hn⟩, ⟨fun x => (w.heap.size < x ∧ x < w2.heap.size) ∧ x ≠ z, fun x => x = z, fun x hx => by omega, fun x hx => by omega, ?_, ?_⟩, Mod.blw HB2.out m (fun i hi => by omega), HT2.out.w.room, HT2.out.w.cap⟩
    · exact (HT2.out.w.wk (X := fun x => (w.heap.size < x ∧ x < w2.heap.size) ∧ x ≠ z) (fun x hx => by have := hx.1; omega)).mod m (fun x hx e => by omega)
    · exact ⟨by omega, fun h0 => ⟨z, rfl, rfl, (HRW.out.mod m (by omega)).congr (fun i hi => by unfold plRow; rw [if_pos hi])⟩⟩
  obtain ⟨q0, q1, q2, q3⟩ := get4 HT2.out.box
  obtain ⟨t0, t1, t2, t3⟩ := get4 HR2.out
  have f0 := HR2.out.frozen 0
  have f1 := HR2.out.frozen 1
  have f2 := HR2.out.frozen 2
  have f3 := HR2.out.frozen 3
  clear HR2 HT2 HRW HB2 HP HY HZ
  go_wp2
  exact bodyPost_ret (v := .tuple #[b2.val (Ds n), .slice (some ⟨z, 0, none⟩) n n, .bool true]) (by simp [results, Try.results16, go_sem, t0, t1, t2, t3]) rfl HF.out
end Go.Proofs.Ytbpdopcdhnemfaa
/- The cursor that draws. -/
namespace Go.Proofs.Ytbpdopcdhnemfaa
open Go.RowKit
set_option linter.unusedSimpArgs false
set_option linter.unusedVariables false
theorem box3 (w : World) (a b c : Value) (t : TypeId) : Row (w.alloc (.cells #[a, b, c] t)) w.heap.size 3 (fun i => if i = 0 then a else if i = 1 then b else c) :=
  ⟨_, t, heap_alloc_new _ _, by simp, fun i hi => by
    match i, hi with
    | 0, _ => rfl
    | 1, _ => rfl
    | 2, _ => rfl⟩
/-- The three blocks that a function over a memory lays first: its argument, its result, a local one. -/
theorem set3_0 {w : World} {B : Nat} {a b c : Value} (r : Row w B 3 (fun i => if i = 0 then a else if i = 1 then b else c)) (u : Value) : Row (w.setCell ⟨B, 0, none⟩ u) B 3 (fun i => if i = 0 then u else if i = 1 then b else c) :=
  (r.set 0 u).congr fun i _ => by by_cases e : i = 0 <;> simp [e]
theorem set3_1 {w : World} {B : Nat} {a b c : Value} (r : Row w B 3 (fun i => if i = 0 then a else if i = 1 then b else c)) (u : Value) : Row (w.setCell ⟨B, 1, none⟩ u) B 3 (fun i => if i = 0 then a else if i = 1 then u else c) :=
  (r.set 1 u).congr fun i _ => by by_cases e : i = 1 <;> simp [e]
theorem set3_2 {w : World} {B : Nat} {a b c : Value} (r : Row w B 3 (fun i => if i = 0 then a else if i = 1 then b else c)) (u : Value) : Row (w.setCell ⟨B, 2, none⟩ u) B 3 (fun i => if i = 0 then a else if i = 1 then b else u) :=
  (r.set 2 u).congr fun i hi => by
    match i, hi with
    | 0, _ => rfl
    | 1, _ => rfl
    | 2, _ => rfl
theorem get3 {w : World} {B : Nat} {a b c : Value} (r : Row w B 3 (fun i => if i = 0 then a else if i = 1 then b else c)) : w.cell? ⟨B, 0, none⟩ = some a ∧ w.cell? ⟨B, 1, none⟩ = some b ∧ w.cell? ⟨B, 2, none⟩ = some c :=
  ⟨r.cell (i := 0) (by omega), r.cell (i := 1) (by omega), r.cell (i := 2) (by omega)⟩
/-- A cursor at block C that has read at most k times, its bytes in blocks of Y. -/
def Cur (Y : Nat → Prop) (w : World) (C k : Nat) : Prop :=
  ∃ (ao : Option Addr) (n c at_ : Nat) (f : Nat → Int) (s : Int), Row w C 3 (fun i => if i = 0 then Value.slice ao n c else if i = 1 then .int .i64 at_ else .int .u64 s) ∧ BytesAt Y w ao n f ∧ at_ ≤ k ∧ (∀ b, Y b → b ≠ C)
theorem low8 (n : Int) : ∃ x : Nat, x ≤ 255 ∧ wrap64 (bits .and .u64 (IntKind.u64.wrap n / 1099511627776) 255) = x := by
  have h : IntKind.u64.wrap n = n % 18446744073709551616 := by simp [IntKind.wrap, IntKind.bits, IntKind.signed]
  rw [h, u64_and _ _ (by omega) (by omega) (by omega) (by omega)]
  have hle : (n % 18446744073709551616 / 1099511627776).toNat &&& (255 : Int).toNat ≤ 255 := Nat.and_le_right
  refine ⟨_, hle, ?_⟩
  unfold wrap64
  omega
/-- A read: the cursor goes on. -/
theorem cur_step {Y : Nat → Prop} {w : World} {C k n c at_ : Nat} {ao : Option Addr} {f : Nat → Int} {s : Int} (r : Row w C 3 (fun i => if i = 0 then Value.slice ao n c else if i = 1 then .int .i64 at_ else .int .u64 s)) (hB : BytesAt Y w ao n f) (hat : at_ ≤ k) (hY : ∀ b, Y b → b ≠ C) (a b : Nat) (s' : Int) :
    Cur Y ((((w.drewN a).setCell ⟨C, 1, none⟩ (.int .i64 ((at_ : Int) + 1))).setCell ⟨C, 2, none⟩ (.int .u64 s')).drewN b) C (k + 1) ∧ Mod (fun b => b = C) w ((((w.drewN a).setCell ⟨C, 1, none⟩ (.int .i64 ((at_ : Int) + 1))).setCell ⟨C, 2, none⟩ (.int .u64 s')).drewN b) := by
  have m1 : Mod (fun b => b = C) w (w.drewN a) := ((Blw.refl w).drewN a).mod _
  have m2 := (m1.trans (Mod.setCell (X := fun b => b = C) _ (p := ⟨C, 1, none⟩) rfl (.int .i64 ((at_ : Int) + 1)))).trans (Mod.setCell (X := fun b => b = C) _ (p := ⟨C, 2, none⟩) rfl (.int .u64 s'))
  have m3 := m2.trans (((Blw.refl _).drewN b).mod (fun b => b = C))
  refine ⟨⟨ao, n, c, at_ + 1, f, s', ?_, hB.mod m3 (fun x hx => hY x hx), by omega, hY⟩, m3⟩
  refine ((((r.blw ((Blw.refl w).drewN a)).set 1 _).set 2 _).blw ((Blw.refl _).drewN b)).congr (fun i hi => ?_)
  match i, hi with
  | 0, _ => rfl
  | 1, _ => simp
  | 2, _ => rfl
set_option maxRecDepth 10000 in
set_option maxHeartbeats 1600000 in
theorem next_any (Y : Nat → Prop) (C k : Nat) (w : World) (hk : k ≤ 1000000) (h : Cur Y w C k) :
    Calls Try.prog 143 #[.pointer (some ⟨C, 0, none⟩)] w fun e w' => ∃ x : Nat, e = .returned (.int .i64 x) ∧ x ≤ 255 ∧ Cur Y w' C (k + 1) ∧ Mod (fun b => b = C) w w' := by
  obtain ⟨ao, n, c, at_, f, s, r, hB, hat, hY⟩ := h
  have hn := hB.1
  have HB : Hid (BytesAt Y w ao n f) := hB
  obtain ⟨p0, p1, p2⟩ := get3 r
  have f0 := r.frozen 0
  have f1 := r.frozen 1
  have f2 := r.frozen 2
  have HN : Hid _ := fun a b s' => cur_step r hB hat hY a b s'
  clear hB r
  go_enter Try.func143, Try.ntmps143
  by_cases hlt : at_ < n
  · have hlt' : (at_ : Int) < n := by omega
    have d1 : decide ((at_ : Int) < n) = true := by simp; omega
    obtain ⟨b, o, rfl, -, q, x0, x1⟩ := HB.out.2 at_ hlt
    go_wp2_with fail
    go_quiet (fail)
    go_wp2_with fail
    go_quiet (fail)
    have d2 : decide ((at_ : Int) + 1 ≤ n) = true := by simp; omega
    go_wp2_with fail
    go_quiet (fail)
    go_wp2
    go_ret
    obtain ⟨x, hx⟩ := Int.eq_ofNat_of_zero_le x0
    exact ⟨x, by rw [← hx]; rfl, by omega, HN.out _ _ _⟩
  · have d1 : decide ((at_ : Int) < n) = false := by simp; omega
    have d2 : decide ((at_ : Int) + 1 ≤ n) = false := by simp; omega
    go_wp2_with fail
    go_quiet (fail)
    go_wp2_with fail
    go_quiet (fail)
    go_wp2
    go_ret
    obtain ⟨x, hx, e⟩ := low8 (IntKind.u64.wrap (IntKind.u64.wrap (s * 6364136223846793005)) + 1442695040888963407)
    exact ⟨x, by rw [← e]; rfl, hx, HN.out _ _ _⟩
theorem Cur.le {Y : Nat → Prop} {w : World} {C k k' : Nat} (h : Cur Y w C k) (hk : k ≤ k') : Cur Y w C k' := by
  obtain ⟨ao, n, c, at_, f, s, r, hB, hat, hY⟩ := h
  exact ⟨ao, n, c, at_, f, s, r, hB, by omega, hY⟩
theorem Cur.blw {Y : Nat → Prop} {w w' : World} {C k : Nat} (h : Cur Y w C k) (hb : Blw w w') : Cur Y w' C k := by
  obtain ⟨ao, n, c, at_, f, s, r, hB, hat, hY⟩ := h
  exact ⟨ao, n, c, at_, f, s, r.blw hb, hB.blw hb, hat, hY⟩
theorem Cur.mod {X Y : Nat → Prop} {w w' : World} {C k : Nat} (h : Cur Y w C k) (hb : Mod X w w') (hC : ¬ X C) (hx : ∀ b, Y b → ¬ X b) : Cur Y w' C k := by
  obtain ⟨ao, n, c, at_, f, s, r, hB, hat, hY⟩ := h
  exact ⟨ao, n, c, at_, f, s, r.mod hb hC, hB.mod hb hx, hat, hY⟩
theorem Cur.lt {Y : Nat → Prop} {w : World} {C k : Nat} (h : Cur Y w C k) : C < w.heap.size := by
  obtain ⟨ao, n, c, at_, f, s, r, _⟩ := h
  exact r.lt
set_option maxHeartbeats 1600000 in
theorem pick_any (Y : Nat → Prop) (C k : Nat) (N : Int) (w : World) (hk : k ≤ 900000) (hN : 1 < N) (h : Cur Y w C k) :
    Calls Try.prog 78 #[.pointer (some ⟨C, 0, none⟩), .int .i64 N] w fun e w' => ∃ x : Nat, e = .returned (.int .i64 x) ∧ (x : Int) < N ∧ Cur Y w' C (k + 2) ∧ Mod (fun b => b = C) w w' := by
  have d1 : decide (N ≤ 1) = false := by simp; omega
  have hN0 : ¬ N = 0 := by omega
  have hm : ∀ x : Nat, ∃ y : Nat, (x : Int).tmod N = y ∧ (y : Int) < N := fun x => by
    rw [Int.tmod_eq_emod_of_nonneg (by omega)]
    obtain ⟨y, hy⟩ := Int.eq_ofNat_of_zero_le (Int.emod_nonneg x hN0)
    exact ⟨y, hy, by rw [← hy]; exact Int.emod_lt_of_pos _ (by omega)⟩
  have HM : Hid _ := hm
  clear hm
  go_enter Try.func78, Try.ntmps78
  go_wp2_with fail
  refine (next_any Y C k _ (by omega) h).mono ?_
  rintro e w1 ⟨x, rfl, hx, c1, m1⟩
  by_cases hg : N > 200
  · have d2 : decide (N > 200) = true := by simp; omega
    go_wp2_with fail
    refine (next_any Y C (k + 1) _ (by omega) c1).mono ?_
    rintro e w2 ⟨x2, rfl, hx2, c2, m2⟩
    obtain ⟨y, e1, e2⟩ := HM.out (x * 256 + x2)
    have e1' : ((x : Int) * 256 + x2).tmod N = y := by rw [← e1]; congr 1
    clear h c1
    go_wp2
    go_ret
    exact ⟨y, rfl, e2, c2, m1.trans m2⟩
  · have d2 : decide (N > 200) = false := by simp; omega
    obtain ⟨y, e1, e2⟩ := HM.out x
    clear h
    go_wp2
    go_ret
    exact ⟨y, rfl, e2, c1.le (by omega), m1⟩
set_option maxHeartbeats 1600000 in
theorem among_any (Y Y2 : Nat → Prop) (C k : Nat) (ao : Option Addr) (n c : Nat) (f : Nat → Int) (w : World) (hk : k ≤ 900000) (hn : 1 < n) (hI : IntsAt Y2 w ao n f) (hY2 : ∀ b, Y2 b → b ≠ C) (h : Cur Y w C k) :
    Calls Try.prog 113 #[.pointer (some ⟨C, 0, none⟩), .slice ao n c] w fun e w' => ∃ x : Int, e = .returned (.int .i64 x) ∧ Cur Y w' C (k + 2) ∧ Mod (fun b => b = C) w w' := by
  have HI : Hid (IntsAt Y2 w ao n f) := hI
  clear hI
  go_enter Try.func113, Try.ntmps113
  go_wp2_with fail
  refine (pick_any Y C k n _ hk (by omega) h).mono ?_
  rintro e w1 ⟨x, rfl, hx, c1, m1⟩
  obtain ⟨b, o, rfl, -, q⟩ := (HI.out.mod m1 (fun b hb => hY2 b hb)).2 x (by omega)
  clear h
  go_wp2
  go_ret
  exact ⟨f x, rfl, c1, m1⟩
end Go.Proofs.Ytbpdopcdhnemfaa
/- The reader of bytes: one in so many. -/
namespace Go.Proofs.Ytbpdopcdhnemfaa
open Go.RowKit
set_option linter.unusedSimpArgs false
set_option linter.unusedVariables false
theorem one_any (Y : Nat → Prop) (C k : Nat) (N : Int) (w : World) (hk : k ≤ 900000) (hN : 1 < N) (h : Cur Y w C k) :
    Calls Try.prog 121 #[.pointer (some ⟨C, 0, none⟩), .int .i64 N] w fun e w' => ∃ r, e = .returned (.bool r) ∧ Cur Y w' C (k + 2) ∧ Mod (fun b => b = C) w w' := by
  go_enter Try.func121, Try.ntmps121
  go_wp2_with fail
  refine (pick_any Y C k N _ hk hN h).mono ?_
  rintro e w1 ⟨x, rfl, hx, hc, hm⟩
  clear h
  go_wp2
  go_ret
  exact ⟨_, rfl, hc, hm⟩
end Go.Proofs.Ytbpdopcdhnemfaa
/- Steps that are drawn. -/
namespace Go.Proofs.Ytbpdopcdhnemfaa
open Go.RowKit
set_option linter.unusedSimpArgs false
set_option linter.unusedVariables false
theorem ints_litW (W : World) (l : List Int) (hl : l.length ≤ 1000) : IntsAt (fun b => b = W.heap.size) (W.alloc (.cells (l.map (Value.int .i64)).toArray 3)) (some ⟨W.heap.size, 0, none⟩) l.length (fun i => l.getD i 0) := by
  have r : Row (W.alloc (.cells (l.map (Value.int .i64)).toArray 3)) W.heap.size l.length (fun i => .int .i64 (l.getD i 0)) := ⟨_, 3, heap_alloc_new _ _, by simp, fun i hi => by simp [List.getD, hi]⟩
  exact ⟨by omega, fun i hi => ⟨W.heap.size, 0, rfl, rfl, by rw [Nat.zero_add, r.cell hi]⟩⟩
theorem Mod.newerW {X Z : Nat → Prop} {a b c : World} (h : Mod X a b) (k : Mod Z b c) (hz : ∀ i, Z i → a.heap.size ≤ i) : Mod X a c :=
  ⟨k.os.trans h.os, k.tape.trans h.tape, k.output.trans h.output, Nat.le_trans h.size k.size, fun i hi hx => (k.block i (Nat.lt_of_lt_of_le hi h.size) (fun e => by have := hz i e; omega)).trans (h.block i hi hx)⟩
abbrev i4 (a b c d : Int) : Nat → Value := fun i => if i = 0 then .int .i64 a else if i = 1 then .int .i64 b else if i = 2 then .int .i64 c else .int .i64 d
theorem set4_2i {w : World} {z : Nat} {a b c d x : Int} (h : Row w z 4 (i4 a b c d)) : Row (w.setCell ⟨z, 2, none⟩ (.int .i64 x)) z 4 (i4 a b x d) :=
  (h.set 2 _).congr (fun i hi => by
    match i, hi with
    | 0, _ => rfl
    | 1, _ => rfl
    | 2, _ => rfl
    | 3, _ => rfl)
theorem set4_3i {w : World} {z : Nat} {a b c d x : Int} (h : Row w z 4 (i4 a b c d)) : Row (w.setCell ⟨z, 3, none⟩ (.int .i64 x)) z 4 (i4 a b c x) :=
  (h.set 3 _).congr (fun i hi => by
    match i, hi with
    | 0, _ => rfl
    | 1, _ => rfl
    | 2, _ => rfl
    | 3, _ => rfl)
theorem set4_alli {w : World} {z : Nat} {a b c d a' b' c' d' : Int} (h : Row w z 4 (i4 a b c d)) : Row ((((w.setCell ⟨z, 0, none⟩ (.int .i64 a')).setCell ⟨z, 1, none⟩ (.int .i64 b')).setCell ⟨z, 2, none⟩ (.int .i64 c')).setCell ⟨z, 3, none⟩ (.int .i64 d')) z 4 (i4 a' b' c' d') :=
  ((((h.set 0 _).set 1 _).set 2 _).set 3 _).congr (fun i hi => by
    match i, hi with
    | 0, _ => rfl
    | 1, _ => rfl
    | 2, _ => rfl
    | 3, _ => rfl)
theorem set4_modW (w : World) (z : Nat) (a b c d : Value) : Mod (fun x => x = z) w ((((w.setCell ⟨z, 0, none⟩ a).setCell ⟨z, 1, none⟩ b).setCell ⟨z, 2, none⟩ c).setCell ⟨z, 3, none⟩ d) :=
  (((Mod.setCell (X := fun x => x = z) _ (p := ⟨z, 0, none⟩) rfl _).trans (Mod.setCell (X := fun x => x = z) _ (p := ⟨z, 1, none⟩) rfl _)).trans (Mod.setCell (X := fun x => x = z) _ (p := ⟨z, 2, none⟩) rfl _)).trans (Mod.setCell (X := fun x => x = z) _ (p := ⟨z, 3, none⟩) rfl _)
/-- A box of a step at zi, while the cursor at C goes on. -/
structure Sb (Y : Nat → Prop) (w wr : World) (C k zi : Nat) (x : Int) : Prop where
  mod : Mod (fun b => b = C) w wr
  cur : Cur Y wr C k
  ex : ∃ b c d : Int, Row wr zi 4 (i4 x b c d)
  rz : Row wr w.heap.size 4 (i4 0 0 0 0)
theorem Sb.cur' {Y : Nat → Prop} {w wr w1 : World} {C k k' zi : Nat} {x : Int} (h : Sb Y w wr C k zi x) (hC : C < w.heap.size) (hz : w.heap.size < zi) (hc : Cur Y w1 C k') (hm : Mod (fun b => b = C) wr w1) : Sb Y w w1 C k' zi x := by
  obtain ⟨b, c, d, r⟩ := h.ex
  exact ⟨h.mod.trans hm, hc, ⟨b, c, d, r.mod hm (by omega)⟩, h.rz.mod hm (by omega)⟩
theorem Sb.blw {Y : Nat → Prop} {w wr w1 : World} {C k zi : Nat} {x : Int} (h : Sb Y w wr C k zi x) (hb : Blw wr w1) : Sb Y w w1 C k zi x := by
  obtain ⟨b, c, d, r⟩ := h.ex
  exact ⟨h.mod.trans (hb.mod _), h.cur.blw hb, ⟨b, c, d, r.blw hb⟩, h.rz.blw hb⟩
theorem Sb.newer {Y : Nat → Prop} {w wr w1 : World} {C k zi : Nat} {x x' : Int} (h : Sb Y w wr C k zi x) (hC : C < w.heap.size) (hY : ∀ b, Y b → b < w.heap.size ∧ b ≠ C) (hz : w.heap.size < zi) (hm : Mod (fun b => b = zi) wr w1) {b c d : Int} (hr : Row w1 zi 4 (i4 x' b c d)) : Sb Y w w1 C k zi x' :=
  ⟨h.mod.newerW hm (fun i e => by omega), h.cur.mod hm (by omega) (fun b hb e => by have := hY b hb; omega), ⟨b, c, d, hr⟩, h.rz.mod hm (by omega)⟩
theorem Sb.le {Y : Nat → Prop} {w wr : World} {C k k' zi : Nat} {x : Int} (h : Sb Y w wr C k zi x) (hk : k ≤ k') : Sb Y w wr C k' zi x := ⟨h.mod, h.cur.le hk, h.ex, h.rz⟩
set_option maxRecDepth 10000 in
set_option maxHeartbeats 6400000 in
theorem walkStep_any (Y : Nat → Prop) (C k : Nat) (w : World) (hk : k ≤ 800000) (hY : ∀ b, Y b → b < w.heap.size ∧ b ≠ C) (h : Cur Y w C k) :
    Calls Try.prog 96 #[.pointer (some ⟨C, 0, none⟩)] w fun e w' => ∃ a b c d : Int, e = .returned (.agg #[.int .i64 a, .int .i64 b, .int .i64 c, .int .i64 d]) ∧ Cur Y w' C (k + 30) ∧ Mod (fun b => b = C) w w' := by
  have hC := h.lt
  have HA : Hid (Blw w (w.alloc (.cells #[.int .i64 0, .int .i64 0, .int .i64 0, .int .i64 0] 42))) := (Blw.refl _).alloc _
  have HZ : Hid (Row (w.alloc (.cells #[.int .i64 0, .int .i64 0, .int .i64 0, .int .i64 0] 42)) w.heap.size 4 (i4 0 0 0 0)) := box4 w _ _ _ _ 42
  have HC : Hid (Cur Y w C k) := h
  clear h
  go_enter Try.func96, Try.ntmps96
  go_upto_region 1 with fail
  generalize w.alloc (.cells #[.int .i64 0, .int .i64 0, .int .i64 0, .int .i64 0] 42) = w1 at *
  have hA : Blw w1 (w1.alloc (.cells #[.int .i64 1, .int .i64 1, .int .i64 1, .int .i64 2, .int .i64 2, .int .i64 3, .int .i64 4] 3)) := (Blw.refl _).alloc _
  have HL : Hid (IntsAt (fun b => b = w1.heap.size) (w1.alloc (.cells #[.int .i64 1, .int .i64 1, .int .i64 1, .int .i64 2, .int .i64 2, .int .i64 3, .int .i64 4] 3)) (some ⟨w1.heap.size, 0, none⟩) 7 (fun i => ([1, 1, 1, 2, 2, 3, 4] : List Int).getD i 0)) := ints_litW w1 [1, 1, 1, 2, 2, 3, 4] (by simp)
  have HS : Hid (w.heap.size < w1.heap.size) := HZ.out.lt
  have HC1 : Hid (Cur Y (w1.alloc (.cells #[.int .i64 1, .int .i64 1, .int .i64 1, .int .i64 2, .int .i64 2, .int .i64 3, .int .i64 4] 3)) C k) := (HC.out.blw HA.out).blw hA
  have HM1 : Hid (Mod (fun b => b = C) w (w1.alloc (.cells #[.int .i64 1, .int .i64 1, .int .i64 1, .int .i64 2, .int .i64 2, .int .i64 3, .int .i64 4] 3))) := (HA.out.trans hA).mod _
  have HZ1 : Hid (Row (w1.alloc (.cells #[.int .i64 1, .int .i64 1, .int .i64 1, .int .i64 2, .int .i64 2, .int .i64 3, .int .i64 4] 3)) w.heap.size 4 (i4 0 0 0 0)) := HZ.out.blw hA
  clear hA HC HA HZ
  go_wp2_with fail
  refine (among_any Y _ C k _ 7 7 _ _ (by omega) (by omega) HL.out (fun b hb => by have := HS.out; omega) HC1.out).mono ?_
  rintro e w2 ⟨x, rfl, hc, hm⟩
  have HC2 : Hid (Cur Y w2 C (k + 2)) := hc
  have HM2 : Hid (Mod (fun b => b = C) w w2) := HM1.out.trans hm
  have HZ2 : Hid (Row w2 w.heap.size 4 (i4 0 0 0 0)) := HZ1.out.mod hm (by omega)
  clear hc hm HC1 HM1 HZ1 HL HS
  go_wp2_with fail
  refine (pick_any Y C (k + 2) 7 _ (by omega) (by omega) HC2.out).mono ?_
  rintro e w3 ⟨y, rfl, -, hc, hm⟩
  have hA2 : Blw w3 (w3.alloc (.cells #[.int .i64 x, .int .i64 (y : Int), .int .i64 0, .int .i64 0] 42)) := (Blw.refl _).alloc _
  have hz3 := (HZ2.out.mod hm (by omega)).lt
  have IB : Hid (Sb Y w (w3.alloc (.cells #[.int .i64 x, .int .i64 (y : Int), .int .i64 0, .int .i64 0] 42)) C (k + 2 + 2) w3.heap.size x) := ⟨(HM2.out.trans hm).trans (hA2.mod _), hc.blw hA2, ⟨(y : Int), 0, 0, box4 w3 _ _ _ _ 42⟩, (HZ2.out.mod hm (by omega)).blw hA2⟩
  clear hc hm hA2 HC2 HM2 HZ2
  go_upto_region 2 with fail
  generalize w3.alloc (.cells #[.int .i64 x, .int .i64 (y : Int), .int .i64 0, .int .i64 0] 42) = w4 at *
  generalize w3.heap.size = zi at *
  have hz : w.heap.size < zi := hz3
  clear hz3
  obtain ⟨b1, c1, d1, hr1⟩ := IB.out.ex
  obtain ⟨q0, q1, q2, q3⟩ := get4 hr1
  by_cases h3 : x = 3
  · subst h3
    have I0 : Hid (Sb Y w w4 C (k + 8) zi 3) := IB.out.le (by omega)
    clear hr1 IB
    go_wp2_with fail
    try clear q0 q1 q2 q3
    generalize w4 = wc at *
    refine (one_any Y C (k + 8) 30 _ (by omega) (by omega) I0.out.cur).mono ?_
    rintro e v6 ⟨r, rfl, hc, hm⟩
    have J1 : Hid (Sb Y w v6 C ((k + 8) + 2) zi 3) := I0.out.cur' hC hz hc hm
    clear I0 hc hm
    cases r
    · obtain ⟨b, c, d, hr⟩ := J1.out.ex
      obtain ⟨q0, q1, q2, q3⟩ := get4 hr
      obtain ⟨t0, t1, t2, t3⟩ := get4 J1.out.rz
      have g0 := J1.out.rz.frozen 0
      have g1 := J1.out.rz.frozen 1
      have g2 := J1.out.rz.frozen 2
      have g3 := J1.out.rz.frozen 3
      have m2 := set4_modW v6 w.heap.size (.int .i64 3) (.int .i64 b) (.int .i64 c) (.int .i64 d)
      have HF : Hid (Cur Y ((((v6.setCell ⟨w.heap.size, 0, none⟩ (.int .i64 3)).setCell ⟨w.heap.size, 1, none⟩ (.int .i64 b)).setCell ⟨w.heap.size, 2, none⟩ (.int .i64 c)).setCell ⟨w.heap.size, 3, none⟩ (.int .i64 d)) C (k + 30) ∧ Mod (fun b => b = C) w ((((v6.setCell ⟨w.heap.size, 0, none⟩ (.int .i64 3)).setCell ⟨w.heap.size, 1, none⟩ (.int .i64 b)).setCell ⟨w.heap.size, 2, none⟩ (.int .i64 c)).setCell ⟨w.heap.size, 3, none⟩ (.int .i64 d))) := And.intro ((J1.out.cur.mod m2 (by omega) (fun b hb e => by have := hY b hb; omega)).le (by omega)) (J1.out.mod.newerW m2 (fun i e => by omega))
      clear m2 hr J1
      go_wp2
      exact bodyPost_ret (v := .agg #[.int .i64 3, .int .i64 b, .int .i64 c, .int .i64 d]) (by simp [results, Try.results96, go_sem, t0, t1, t2, t3]) rfl ⟨_, _, _, _, rfl, HF.out.1, HF.out.2⟩
    · skip
      go_wp2_with fail
      refine (pick_any Y C ((k + 8) + 2) 6 _ (by omega) (by omega) J1.out.cur).mono ?_
      rintro e v7 ⟨u7, rfl, hlu7, hcu7, hmu7⟩
      have J2 : Hid (Sb Y w v7 C (((k + 8) + 2) + 2) zi 3) := J1.out.cur' hC hz hcu7 hmu7
      clear J1 hcu7 hmu7
      have J2a : Hid (Sb Y w (v7.alloc (.cells #[.int .i64 (-1), .int .i64 15, .int .i64 16] 3)) C ((k + 8) + 2 + 2) zi 3) := J2.out.blw ((Blw.refl _).alloc _)
      have hlu8 : Hid (IntsAt (fun b => b = v7.heap.size) (v7.alloc (.cells #[.int .i64 (-1), .int .i64 15, .int .i64 16] 3)) (some ⟨v7.heap.size, 0, none⟩) 3 (fun i => ([-1, 15, 16] : List Int).getD i 0)) := ints_litW v7 [-1, 15, 16] (by simp)
      have hsu8 : C < v7.heap.size := Nat.lt_of_lt_of_le hC J2.out.mod.size
      clear J2
      go_wp2_with fail
      refine (among_any Y _ C ((k + 8) + 2 + 2) _ 3 3 _ _ (by omega) (by omega) hlu8.out (fun b hb => by omega) J2a.out.cur).mono ?_
      rintro e v8 ⟨u8, rfl, hcu8, hmu8⟩
      have J3 : Hid (Sb Y w v8 C (((k + 8) + 2 + 2) + 2) zi 3) := J2a.out.cur' hC hz hcu8 hmu8
      clear J2a hlu8 hsu8 hcu8 hmu8
      go_wp2_with fail
      refine (pick_any Y C ((k + 8) + 2 + 2 + 2) 5 _ (by omega) (by omega) J3.out.cur).mono ?_
      rintro e v9 ⟨u9, rfl, hlu9, hcu9, hmu9⟩
      have J4 : Hid (Sb Y w v9 C (((k + 8) + 2 + 2 + 2) + 2) zi 3) := J3.out.cur' hC hz hcu9 hmu9
      clear J3 hcu9 hmu9
      go_wp2_with fail
      refine (pick_any Y C ((k + 8) + 2 + 2 + 2 + 2) 18 _ (by omega) (by omega) J4.out.cur).mono ?_
      rintro e v10 ⟨u10, rfl, hlu10, hcu10, hmu10⟩
      have J5 : Hid (Sb Y w v10 C (((k + 8) + 2 + 2 + 2 + 2) + 2) zi 3) := J4.out.cur' hC hz hcu10 hmu10
      clear J4 hcu10 hmu10
      obtain ⟨b0, c0, d0, hr0⟩ := J5.out.ex
      obtain ⟨q0, q1, q2, q3⟩ := get4 hr0
      have f0 := hr0.frozen 0
      have f1 := hr0.frozen 1
      have f2 := hr0.frozen 2
      have f3 := hr0.frozen 3
      have J6 : Hid (Sb Y w ((((v10.setCell ⟨zi, 0, none⟩ (.int .i64 (u7 : Int))).setCell ⟨zi, 1, none⟩ (.int .i64 u8)).setCell ⟨zi, 2, none⟩ (.int .i64 (u10 : Int))).setCell ⟨zi, 3, none⟩ (.int .i64 (u9 : Int))) C ((k + 8) + 2 + 2 + 2 + 2 + 2) zi (u7 : Int)) := J5.out.newer hC hY hz (set4_modW _ _ _ _ _ _) (set4_alli hr0)
      clear hr0 J5
      go_upto_region 8 with fail
      clear q0 q1 q2 q3 f0 f1 f2 f3
      generalize ((((v10.setCell ⟨zi, 0, none⟩ (.int .i64 (u7 : Int))).setCell ⟨zi, 1, none⟩ (.int .i64 u8)).setCell ⟨zi, 2, none⟩ (.int .i64 (u10 : Int))).setCell ⟨zi, 3, none⟩ (.int .i64 (u9 : Int))) = v11 at *
      obtain ⟨b, c, d, hr⟩ := J6.out.ex
      obtain ⟨q0, q1, q2, q3⟩ := get4 hr
      obtain ⟨t0, t1, t2, t3⟩ := get4 J6.out.rz
      have g0 := J6.out.rz.frozen 0
      have g1 := J6.out.rz.frozen 1
      have g2 := J6.out.rz.frozen 2
      have g3 := J6.out.rz.frozen 3
      have m2 := set4_modW v11 w.heap.size (.int .i64 (u7 : Int)) (.int .i64 b) (.int .i64 c) (.int .i64 d)
      have HF : Hid (Cur Y ((((v11.setCell ⟨w.heap.size, 0, none⟩ (.int .i64 (u7 : Int))).setCell ⟨w.heap.size, 1, none⟩ (.int .i64 b)).setCell ⟨w.heap.size, 2, none⟩ (.int .i64 c)).setCell ⟨w.heap.size, 3, none⟩ (.int .i64 d)) C (k + 30) ∧ Mod (fun b => b = C) w ((((v11.setCell ⟨w.heap.size, 0, none⟩ (.int .i64 (u7 : Int))).setCell ⟨w.heap.size, 1, none⟩ (.int .i64 b)).setCell ⟨w.heap.size, 2, none⟩ (.int .i64 c)).setCell ⟨w.heap.size, 3, none⟩ (.int .i64 d))) := And.intro ((J6.out.cur.mod m2 (by omega) (fun b hb e => by have := hY b hb; omega)).le (by omega)) (J6.out.mod.newerW m2 (fun i e => by omega))
      clear m2 hr J6
      go_wp2
      exact bodyPost_ret (v := .agg #[.int .i64 (u7 : Int), .int .i64 b, .int .i64 c, .int .i64 d]) (by simp [results, Try.results96, go_sem, t0, t1, t2, t3]) rfl ⟨_, _, _, _, rfl, HF.out.1, HF.out.2⟩
  · have dd : (x != 3) = true := by simp; exact h3
    clear h3
    go_wp2_with fail
    clear q0 q1 q2 q3 hr1 dd
    refine (pick_any Y C (k + 2 + 2) 3 _ (by omega) (by omega) IB.out.cur).mono ?_
    rintro e w5 ⟨y5, rfl, hl5, hc5, hm5⟩
    have I5 : Hid (Sb Y w w5 C (k + 2 + 2 + 2) zi x) := IB.out.cur' hC hz hc5 hm5
    clear IB hc5 hm5
    have hw : IntKind.i64.wrap (1 + (y5 : Int)) = 1 + (y5 : Int) := by rw [IntKind.wrap_i64]; omega
    obtain ⟨b, c, d, hr⟩ := I5.out.ex
    obtain ⟨q0, q1, q2, q3⟩ := get4 hr
    have f3 := hr.frozen 3
    have I6 : Hid (Sb Y w (w5.setCell ⟨zi, 3, none⟩ (.int .i64 (1 + (y5 : Int)))) C (k + 2 + 2 + 2) zi x) := I5.out.newer hC hY hz (Mod.setCell (X := fun b => b = zi) _ (p := ⟨zi, 3, none⟩) rfl _) (set4_3i hr)
    clear hr I5
    go_upto_region 4 with fail
    clear q0 q1 q2 q3 f3 hw hl5
    generalize (w5.setCell ⟨zi, 3, none⟩ (.int .i64 (1 + (y5 : Int)))) = w6 at *
    obtain ⟨b, c, d, hr⟩ := I6.out.ex
    obtain ⟨q0, q1, q2, q3⟩ := get4 hr
    by_cases h2 : x = 2
    · subst h2
      clear hr
      go_wp2_with fail
      clear q0 q1 q2 q3
      refine (pick_any Y C (k + 2 + 2 + 2) 16 _ (by omega) (by omega) I6.out.cur).mono ?_
      rintro e w7 ⟨y7, rfl, -, hc7, hm7⟩
      have I7 : Hid (Sb Y w w7 C (k + 2 + 2 + 2 + 2) zi 2) := I6.out.cur' hC hz hc7 hm7
      clear I6 hc7 hm7
      obtain ⟨b, c, d, hr⟩ := I7.out.ex
      obtain ⟨q0, q1, q2, q3⟩ := get4 hr
      have f2 := hr.frozen 2
      have I0 : Hid (Sb Y w (w7.setCell ⟨zi, 2, none⟩ (.int .i64 (y7 : Int))) C (k + 8) zi 2) := (I7.out.newer hC hY hz (Mod.setCell (X := fun b => b = zi) _ (p := ⟨zi, 2, none⟩) rfl _) (set4_2i hr)).le (by omega)
      clear hr I7
      go_upto_region 6 with fail
      clear q0 q1 q2 q3 f2
      generalize (w7.setCell ⟨zi, 2, none⟩ (.int .i64 (y7 : Int))) = w8 at *
      go_wp2_with fail
      try clear q0 q1 q2 q3
      generalize w8 = wc at *
      refine (one_any Y C (k + 8) 30 _ (by omega) (by omega) I0.out.cur).mono ?_
      rintro e v6 ⟨r, rfl, hc, hm⟩
      have J1 : Hid (Sb Y w v6 C ((k + 8) + 2) zi 2) := I0.out.cur' hC hz hc hm
      clear I0 hc hm
      cases r
      · obtain ⟨b, c, d, hr⟩ := J1.out.ex
        obtain ⟨q0, q1, q2, q3⟩ := get4 hr
        obtain ⟨t0, t1, t2, t3⟩ := get4 J1.out.rz
        have g0 := J1.out.rz.frozen 0
        have g1 := J1.out.rz.frozen 1
        have g2 := J1.out.rz.frozen 2
        have g3 := J1.out.rz.frozen 3
        have m2 := set4_modW v6 w.heap.size (.int .i64 2) (.int .i64 b) (.int .i64 c) (.int .i64 d)
        have HF : Hid (Cur Y ((((v6.setCell ⟨w.heap.size, 0, none⟩ (.int .i64 2)).setCell ⟨w.heap.size, 1, none⟩ (.int .i64 b)).setCell ⟨w.heap.size, 2, none⟩ (.int .i64 c)).setCell ⟨w.heap.size, 3, none⟩ (.int .i64 d)) C (k + 30) ∧ Mod (fun b => b = C) w ((((v6.setCell ⟨w.heap.size, 0, none⟩ (.int .i64 2)).setCell ⟨w.heap.size, 1, none⟩ (.int .i64 b)).setCell ⟨w.heap.size, 2, none⟩ (.int .i64 c)).setCell ⟨w.heap.size, 3, none⟩ (.int .i64 d))) := And.intro ((J1.out.cur.mod m2 (by omega) (fun b hb e => by have := hY b hb; omega)).le (by omega)) (J1.out.mod.newerW m2 (fun i e => by omega))
        clear m2 hr J1
        go_wp2
        exact bodyPost_ret (v := .agg #[.int .i64 2, .int .i64 b, .int .i64 c, .int .i64 d]) (by simp [results, Try.results96, go_sem, t0, t1, t2, t3]) rfl ⟨_, _, _, _, rfl, HF.out.1, HF.out.2⟩
      · skip
        go_wp2_with fail
        refine (pick_any Y C ((k + 8) + 2) 6 _ (by omega) (by omega) J1.out.cur).mono ?_
        rintro e v7 ⟨u7, rfl, hlu7, hcu7, hmu7⟩
        have J2 : Hid (Sb Y w v7 C (((k + 8) + 2) + 2) zi 2) := J1.out.cur' hC hz hcu7 hmu7
        clear J1 hcu7 hmu7
        have J2a : Hid (Sb Y w (v7.alloc (.cells #[.int .i64 (-1), .int .i64 15, .int .i64 16] 3)) C ((k + 8) + 2 + 2) zi 2) := J2.out.blw ((Blw.refl _).alloc _)
        have hlu8 : Hid (IntsAt (fun b => b = v7.heap.size) (v7.alloc (.cells #[.int .i64 (-1), .int .i64 15, .int .i64 16] 3)) (some ⟨v7.heap.size, 0, none⟩) 3 (fun i => ([-1, 15, 16] : List Int).getD i 0)) := ints_litW v7 [-1, 15, 16] (by simp)
        have hsu8 : C < v7.heap.size := Nat.lt_of_lt_of_le hC J2.out.mod.size
        clear J2
        go_wp2_with fail
        refine (among_any Y _ C ((k + 8) + 2 + 2) _ 3 3 _ _ (by omega) (by omega) hlu8.out (fun b hb => by omega) J2a.out.cur).mono ?_
        rintro e v8 ⟨u8, rfl, hcu8, hmu8⟩
        have J3 : Hid (Sb Y w v8 C (((k + 8) + 2 + 2) + 2) zi 2) := J2a.out.cur' hC hz hcu8 hmu8
        clear J2a hlu8 hsu8 hcu8 hmu8
        go_wp2_with fail
        refine (pick_any Y C ((k + 8) + 2 + 2 + 2) 5 _ (by omega) (by omega) J3.out.cur).mono ?_
        rintro e v9 ⟨u9, rfl, hlu9, hcu9, hmu9⟩
        have J4 : Hid (Sb Y w v9 C (((k + 8) + 2 + 2 + 2) + 2) zi 2) := J3.out.cur' hC hz hcu9 hmu9
        clear J3 hcu9 hmu9
        go_wp2_with fail
        refine (pick_any Y C ((k + 8) + 2 + 2 + 2 + 2) 18 _ (by omega) (by omega) J4.out.cur).mono ?_
        rintro e v10 ⟨u10, rfl, hlu10, hcu10, hmu10⟩
        have J5 : Hid (Sb Y w v10 C (((k + 8) + 2 + 2 + 2 + 2) + 2) zi 2) := J4.out.cur' hC hz hcu10 hmu10
        clear J4 hcu10 hmu10
        obtain ⟨b0, c0, d0, hr0⟩ := J5.out.ex
        obtain ⟨q0, q1, q2, q3⟩ := get4 hr0
        have f0 := hr0.frozen 0
        have f1 := hr0.frozen 1
        have f2 := hr0.frozen 2
        have f3 := hr0.frozen 3
        have J6 : Hid (Sb Y w ((((v10.setCell ⟨zi, 0, none⟩ (.int .i64 (u7 : Int))).setCell ⟨zi, 1, none⟩ (.int .i64 u8)).setCell ⟨zi, 2, none⟩ (.int .i64 (u10 : Int))).setCell ⟨zi, 3, none⟩ (.int .i64 (u9 : Int))) C ((k + 8) + 2 + 2 + 2 + 2 + 2) zi (u7 : Int)) := J5.out.newer hC hY hz (set4_modW _ _ _ _ _ _) (set4_alli hr0)
        clear hr0 J5
        go_upto_region 8 with fail
        clear q0 q1 q2 q3 f0 f1 f2 f3
        generalize ((((v10.setCell ⟨zi, 0, none⟩ (.int .i64 (u7 : Int))).setCell ⟨zi, 1, none⟩ (.int .i64 u8)).setCell ⟨zi, 2, none⟩ (.int .i64 (u10 : Int))).setCell ⟨zi, 3, none⟩ (.int .i64 (u9 : Int))) = v11 at *
        obtain ⟨b, c, d, hr⟩ := J6.out.ex
        obtain ⟨q0, q1, q2, q3⟩ := get4 hr
        obtain ⟨t0, t1, t2, t3⟩ := get4 J6.out.rz
        have g0 := J6.out.rz.frozen 0
        have g1 := J6.out.rz.frozen 1
        have g2 := J6.out.rz.frozen 2
        have g3 := J6.out.rz.frozen 3
        have m2 := set4_modW v11 w.heap.size (.int .i64 (u7 : Int)) (.int .i64 b) (.int .i64 c) (.int .i64 d)
        have HF : Hid (Cur Y ((((v11.setCell ⟨w.heap.size, 0, none⟩ (.int .i64 (u7 : Int))).setCell ⟨w.heap.size, 1, none⟩ (.int .i64 b)).setCell ⟨w.heap.size, 2, none⟩ (.int .i64 c)).setCell ⟨w.heap.size, 3, none⟩ (.int .i64 d)) C (k + 30) ∧ Mod (fun b => b = C) w ((((v11.setCell ⟨w.heap.size, 0, none⟩ (.int .i64 (u7 : Int))).setCell ⟨w.heap.size, 1, none⟩ (.int .i64 b)).setCell ⟨w.heap.size, 2, none⟩ (.int .i64 c)).setCell ⟨w.heap.size, 3, none⟩ (.int .i64 d))) := And.intro ((J6.out.cur.mod m2 (by omega) (fun b hb e => by have := hY b hb; omega)).le (by omega)) (J6.out.mod.newerW m2 (fun i e => by omega))
        clear m2 hr J6
        go_wp2
        exact bodyPost_ret (v := .agg #[.int .i64 (u7 : Int), .int .i64 b, .int .i64 c, .int .i64 d]) (by simp [results, Try.results96, go_sem, t0, t1, t2, t3]) rfl ⟨_, _, _, _, rfl, HF.out.1, HF.out.2⟩
    · have dd : (x == 2) = false := by simp; exact h2
      clear h2 hr
      have I0 : Hid (Sb Y w w6 C (k + 8) zi x) := I6.out.le (by omega)
      clear I6
      go_upto_region 6 with fail
      clear q0 q1 q2 q3 dd
      go_wp2_with fail
      try clear q0 q1 q2 q3
      generalize w6 = wc at *
      refine (one_any Y C (k + 8) 30 _ (by omega) (by omega) I0.out.cur).mono ?_
      rintro e v6 ⟨r, rfl, hc, hm⟩
      have J1 : Hid (Sb Y w v6 C ((k + 8) + 2) zi x) := I0.out.cur' hC hz hc hm
      clear I0 hc hm
      cases r
      · obtain ⟨b, c, d, hr⟩ := J1.out.ex
        obtain ⟨q0, q1, q2, q3⟩ := get4 hr
        obtain ⟨t0, t1, t2, t3⟩ := get4 J1.out.rz
        have g0 := J1.out.rz.frozen 0
        have g1 := J1.out.rz.frozen 1
        have g2 := J1.out.rz.frozen 2
        have g3 := J1.out.rz.frozen 3
        have m2 := set4_modW v6 w.heap.size (.int .i64 x) (.int .i64 b) (.int .i64 c) (.int .i64 d)
        have HF : Hid (Cur Y ((((v6.setCell ⟨w.heap.size, 0, none⟩ (.int .i64 x)).setCell ⟨w.heap.size, 1, none⟩ (.int .i64 b)).setCell ⟨w.heap.size, 2, none⟩ (.int .i64 c)).setCell ⟨w.heap.size, 3, none⟩ (.int .i64 d)) C (k + 30) ∧ Mod (fun b => b = C) w ((((v6.setCell ⟨w.heap.size, 0, none⟩ (.int .i64 x)).setCell ⟨w.heap.size, 1, none⟩ (.int .i64 b)).setCell ⟨w.heap.size, 2, none⟩ (.int .i64 c)).setCell ⟨w.heap.size, 3, none⟩ (.int .i64 d))) := And.intro ((J1.out.cur.mod m2 (by omega) (fun b hb e => by have := hY b hb; omega)).le (by omega)) (J1.out.mod.newerW m2 (fun i e => by omega))
        clear m2 hr J1
        go_wp2
        exact bodyPost_ret (v := .agg #[.int .i64 x, .int .i64 b, .int .i64 c, .int .i64 d]) (by simp [results, Try.results96, go_sem, t0, t1, t2, t3]) rfl ⟨_, _, _, _, rfl, HF.out.1, HF.out.2⟩
      · skip
        go_wp2_with fail
        refine (pick_any Y C ((k + 8) + 2) 6 _ (by omega) (by omega) J1.out.cur).mono ?_
        rintro e v7 ⟨u7, rfl, hlu7, hcu7, hmu7⟩
        have J2 : Hid (Sb Y w v7 C (((k + 8) + 2) + 2) zi x) := J1.out.cur' hC hz hcu7 hmu7
        clear J1 hcu7 hmu7
        have J2a : Hid (Sb Y w (v7.alloc (.cells #[.int .i64 (-1), .int .i64 15, .int .i64 16] 3)) C ((k + 8) + 2 + 2) zi x) := J2.out.blw ((Blw.refl _).alloc _)
        have hlu8 : Hid (IntsAt (fun b => b = v7.heap.size) (v7.alloc (.cells #[.int .i64 (-1), .int .i64 15, .int .i64 16] 3)) (some ⟨v7.heap.size, 0, none⟩) 3 (fun i => ([-1, 15, 16] : List Int).getD i 0)) := ints_litW v7 [-1, 15, 16] (by simp)
        have hsu8 : C < v7.heap.size := Nat.lt_of_lt_of_le hC J2.out.mod.size
        clear J2
        go_wp2_with fail
        refine (among_any Y _ C ((k + 8) + 2 + 2) _ 3 3 _ _ (by omega) (by omega) hlu8.out (fun b hb => by omega) J2a.out.cur).mono ?_
        rintro e v8 ⟨u8, rfl, hcu8, hmu8⟩
        have J3 : Hid (Sb Y w v8 C (((k + 8) + 2 + 2) + 2) zi x) := J2a.out.cur' hC hz hcu8 hmu8
        clear J2a hlu8 hsu8 hcu8 hmu8
        go_wp2_with fail
        refine (pick_any Y C ((k + 8) + 2 + 2 + 2) 5 _ (by omega) (by omega) J3.out.cur).mono ?_
        rintro e v9 ⟨u9, rfl, hlu9, hcu9, hmu9⟩
        have J4 : Hid (Sb Y w v9 C (((k + 8) + 2 + 2 + 2) + 2) zi x) := J3.out.cur' hC hz hcu9 hmu9
        clear J3 hcu9 hmu9
        go_wp2_with fail
        refine (pick_any Y C ((k + 8) + 2 + 2 + 2 + 2) 18 _ (by omega) (by omega) J4.out.cur).mono ?_
        rintro e v10 ⟨u10, rfl, hlu10, hcu10, hmu10⟩
        have J5 : Hid (Sb Y w v10 C (((k + 8) + 2 + 2 + 2 + 2) + 2) zi x) := J4.out.cur' hC hz hcu10 hmu10
        clear J4 hcu10 hmu10
        obtain ⟨b0, c0, d0, hr0⟩ := J5.out.ex
        obtain ⟨q0, q1, q2, q3⟩ := get4 hr0
        have f0 := hr0.frozen 0
        have f1 := hr0.frozen 1
        have f2 := hr0.frozen 2
        have f3 := hr0.frozen 3
        have J6 : Hid (Sb Y w ((((v10.setCell ⟨zi, 0, none⟩ (.int .i64 (u7 : Int))).setCell ⟨zi, 1, none⟩ (.int .i64 u8)).setCell ⟨zi, 2, none⟩ (.int .i64 (u10 : Int))).setCell ⟨zi, 3, none⟩ (.int .i64 (u9 : Int))) C ((k + 8) + 2 + 2 + 2 + 2 + 2) zi (u7 : Int)) := J5.out.newer hC hY hz (set4_modW _ _ _ _ _ _) (set4_alli hr0)
        clear hr0 J5
        go_upto_region 8 with fail
        clear q0 q1 q2 q3 f0 f1 f2 f3
        generalize ((((v10.setCell ⟨zi, 0, none⟩ (.int .i64 (u7 : Int))).setCell ⟨zi, 1, none⟩ (.int .i64 u8)).setCell ⟨zi, 2, none⟩ (.int .i64 (u10 : Int))).setCell ⟨zi, 3, none⟩ (.int .i64 (u9 : Int))) = v11 at *
        obtain ⟨b, c, d, hr⟩ := J6.out.ex
        obtain ⟨q0, q1, q2, q3⟩ := get4 hr
        obtain ⟨t0, t1, t2, t3⟩ := get4 J6.out.rz
        have g0 := J6.out.rz.frozen 0
        have g1 := J6.out.rz.frozen 1
        have g2 := J6.out.rz.frozen 2
        have g3 := J6.out.rz.frozen 3
        have m2 := set4_modW v11 w.heap.size (.int .i64 (u7 : Int)) (.int .i64 b) (.int .i64 c) (.int .i64 d)
        have HF : Hid (Cur Y ((((v11.setCell ⟨w.heap.size, 0, none⟩ (.int .i64 (u7 : Int))).setCell ⟨w.heap.size, 1, none⟩ (.int .i64 b)).setCell ⟨w.heap.size, 2, none⟩ (.int .i64 c)).setCell ⟨w.heap.size, 3, none⟩ (.int .i64 d)) C (k + 30) ∧ Mod (fun b => b = C) w ((((v11.setCell ⟨w.heap.size, 0, none⟩ (.int .i64 (u7 : Int))).setCell ⟨w.heap.size, 1, none⟩ (.int .i64 b)).setCell ⟨w.heap.size, 2, none⟩ (.int .i64 c)).setCell ⟨w.heap.size, 3, none⟩ (.int .i64 d))) := And.intro ((J6.out.cur.mod m2 (by omega) (fun b hb e => by have := hY b hb; omega)).le (by omega)) (J6.out.mod.newerW m2 (fun i e => by omega))
        clear m2 hr J6
        go_wp2
        exact bodyPost_ret (v := .agg #[.int .i64 (u7 : Int), .int .i64 b, .int .i64 c, .int .i64 d]) (by simp [results, Try.results96, go_sem, t0, t1, t2, t3]) rfl ⟨_, _, _, _, rfl, HF.out.1, HF.out.2⟩
end Go.Proofs.Ytbpdopcdhnemfaa
/- Lists of steps that are drawn. -/
namespace Go.Proofs.Ytbpdopcdhnemfaa
open Go.RowKit
set_option linter.unusedSimpArgs false
set_option linter.unusedVariables false
theorem Buf.step1 {w : World} (x0 x1 x2 x3 : Int) : KOwn 4 (fun b => b = w.heap.size) (w.alloc (.cells #[.int .i64 x0, .int .i64 x1, .int .i64 x2, .int .i64 x3] 42)) (some ⟨w.heap.size, 0, none⟩) 1 (fun _ c => if c = 0 then x0 else if c = 1 then x1 else if c = 2 then x2 else x3) :=
  ⟨by omega, fun _ => ⟨w.heap.size, rfl, rfl, _, 42, heap_alloc_new _ _, by simp, fun i hi => by
    match i, hi with
    | 0, _ => rfl
    | 1, _ => rfl
    | 2, _ => rfl
    | 3, _ => rfl⟩⟩
def catW (k : Nat) (F G : Nat → Nat → Int) : Nat → Nat → Int := fun i c => if i < k then F i c else G (i - k) c
theorem cat_kw (K k : Nat) (hK : 0 < K) (F G : Nat → Nat → Int) (j : Nat) : cat (k * K) (kc K F) (kc K G) j = kc K (catW k F G) j := by
  unfold cat kc catW
  by_cases h : j < k * K
  · rw [if_pos h, if_pos (Nat.div_lt_of_lt_mul (by rw [Nat.mul_comm]; exact h))]
  · have h1 : ¬ j / K < k := fun q => h (by have := Nat.lt_mul_of_div_lt q hK; rw [Nat.mul_comm]; rw [Nat.mul_comm] at this; exact Nat.mul_comm K k ▸ this)
    rw [if_neg h, if_neg h1]
    obtain ⟨q, rfl⟩ : ∃ q, j = k * K + q := ⟨j - k * K, by omega⟩
    rw [Nat.add_sub_cancel_left, Nat.mul_comm k K, Nat.mul_add_div hK, Nat.mul_add_mod, Nat.add_sub_cancel_left]
theorem pushW {X : Nat → Prop} {w : World} {v : Value} {n : Nat} {F : Nat → Nat → Int} (h : Buf 42 4 X w v n (kc 4 F)) (hn : n ≤ 1000) (a b c d : Int) :
    ∃ ao cap w', (Builtin.append_ #[23, 23] 23 #[v, .slice (some ⟨w.heap.size, 0, none⟩) 1 1]).run Try.prog (w.alloc (.cells #[.int .i64 a, .int .i64 b, .int .i64 c, .int .i64 d] 42)) = .ok (.slice ao (n + 1) cap) w' ∧ (∃ F', Buf 42 4 (fun b => (X b ∨ w.heap.size ≤ b) ∧ b < w'.heap.size) w' (.slice ao (n + 1) cap) (n + 1) (kc 4 F')) ∧ Mod (fun b => v.ownBlock = some b) w w' := by
  obtain ⟨i0, hi, hz0, hz1, hz2⟩ := info_parts infoWs
  have hb : Blw w (w.alloc (.cells #[.int .i64 a, .int .i64 b, .int .i64 c, .int .i64 d] 42)) := (Blw.refl _).alloc _
  obtain ⟨a', c', w', hrun, hB, hM⟩ := Buf.append (t := 23) Try.underlying23 hi hz0 hz1 hz2 (by rfl) (by omega) (Buf.blw h hb) (ao := some ⟨w.heap.size, 0, none⟩) (m := 1) 1 (G := kc 4 (fun _ c_ => if c_ = 0 then a else if c_ = 1 then b else if c_ = 2 then c else d)) (fun e => by cases e) (fun ad e j hj => by
    obtain ⟨g, -, e2, r⟩ := (Buf.step1 (w := w) a b c d).2 (by omega)
    rw [e] at e2
    cases e2
    rw [Addr.add_lit, Nat.zero_add]
    exact r.cell hj) (fun j => rfl) (by omega) (by omega) 23
  refine ⟨a', c', w', hrun, ⟨catW n F _, (hB.congr (fun i _ => cat_kw 4 n (by omega) F _ i)).mono (fun b hb => ⟨?_, hb.2⟩)⟩, (hb.mod _).trans hM⟩
  rcases hb.1 with h1 | h1
  · exact Or.inl h1
  · rw [World.size_alloc] at h1; exact Or.inr (by omega)
/-- A list of i steps that is built behind w, while the cursor at C goes on. -/
structure Bs (Y : Nat → Prop) (w wr : World) (C k : Nat) (v : Value) (i : Nat) : Prop where
  mod : Mod (fun b => b = C) w wr
  cur : Cur Y wr C k
  ex : ∃ F, Buf 42 4 (fun b => w.heap.size ≤ b ∧ b < wr.heap.size) wr v i (kc 4 F)
theorem Bs.cur' {Y : Nat → Prop} {w wr w1 : World} {C k k' : Nat} {v : Value} {i : Nat} (h : Bs Y w wr C k v i) (hC : C < w.heap.size) (hc : Cur Y w1 C k') (hm : Mod (fun b => b = C) wr w1) : Bs Y w w1 C k' v i := by
  obtain ⟨c, hb⟩ := h.ex
  have hs := hm.size
  exact ⟨h.mod.trans hm, hc, c, (Buf.mod hb hm (fun b hb e => by omega)).mono (fun b hb => by omega)⟩
theorem Bs.push {Y : Nat → Prop} {w wr : World} {C k : Nat} {v : Value} {i : Nat} (h : Bs Y w wr C k v i) (hi : i ≤ 100) (hC : C < w.heap.size) (hY : ∀ b, Y b → b < w.heap.size) (x y z u : Int) :
    ∃ ao cap w', (Builtin.append_ #[23, 23] 23 #[v, .slice (some ⟨wr.heap.size, 0, none⟩) 1 1]).run Try.prog (wr.alloc (.cells #[.int .i64 x, .int .i64 y, .int .i64 z, .int .i64 u] 42)) = .ok (.slice ao (i + 1) cap) w' ∧ Bs Y w w' C k (.slice ao (i + 1) cap) (i + 1) := by
  obtain ⟨c, hb⟩ := h.ex
  obtain ⟨ao, cap, w', hr, ⟨F', hB⟩, hM⟩ := pushW hb (by omega) x y z u
  have hx : ∀ b, v.ownBlock = some b → w.heap.size ≤ b := fun b hh => (hb.2 b hh).1
  have hs := h.mod.size
  refine ⟨ao, cap, w', hr, h.mod.newerW hM hx, h.cur.mod hM (fun e => by have := hx _ e; omega) (fun b hb' e => by have := hY b hb'; have := hx b e; omega), F', hB.mono (fun b hb' => ⟨?_, hb'.2⟩)⟩
  rcases hb'.1 with h1 | h1
  · exact h1.1
  · omega
theorem Buf.steps {X : Nat → Prop} {w : World} {v : Value} {n : Nat} {F : Nat → Nat → Int} (h : Buf 42 4 X w v n (kc 4 F)) (hn : n ≤ 1048576) :
    ∃ ao cap, v = .slice ao n cap ∧ KOwn 4 X w ao n F := by
  rcases h.1.2 with ⟨rfl, rfl⟩ | ⟨g, cap, cur, rfl, h0, hb, h1, h2, h3, h4⟩
  · exact ⟨none, 0, rfl, KOwn.nil _ _ _ _ _⟩
  · refine ⟨_, cap, rfl, by omega, fun hn => ⟨g, h.2 g rfl, rfl, cur, 42, hb, ?_, fun i hi => ?_⟩⟩
    · rw [h3]; exact Nat.mul_le_mul_right _ h1
    · have := congrArg (fun l => l[i]?) h4
      simp [hi] at this
      exact this
set_option maxRecDepth 10000 in
set_option maxHeartbeats 3200000 in
theorem walkSteps_any (Y : Nat → Prop) (C k : Nat) (w : World) (hk : k ≤ 700000) (hY : ∀ b, Y b → b < w.heap.size ∧ b ≠ C) (h : Cur Y w C k) :
    Calls Try.prog 79 #[.pointer (some ⟨C, 0, none⟩)] w fun e w' => ∃ v n, e = .returned v ∧ n ≤ 61 ∧ Bs Y w w' C (k + 2000) v n := by
  have hC := h.lt
  have HC : Hid (Cur Y w C k) := h
  clear h
  go_enter Try.func79, Try.ntmps79
  go_wp2_with fail
  refine (pick_any Y C k 24 _ (by omega) (by omega) HC.out).mono ?_
  rintro e w1 ⟨x, rfl, hx, hc1, hm1⟩
  have HM1 : Hid (Mod (fun b => b = C) w w1) := hm1
  have HC1 : Hid (Cur Y w1 C (k + 2)) := hc1
  have HX : Hid ((x : Int) < 24) := hx
  clear hm1 hc1 hx HC
  go_wp2_with fail
  refine (one_any Y C (k + 2) 20 _ (by omega) (by omega) HC1.out).mono ?_
  rintro e w2 ⟨r, rfl, hc2, hm2⟩
  have HM2 : Hid (Mod (fun b => b = C) w w2) := HM1.out.trans hm2
  have HC2 : Hid (Cur Y w2 C (k + 2 + 2)) := hc2
  clear hm2 hc2 HM1 HC1
  cases r
  · have H0 : Hid (Bs Y w w2 C (k + 6) (.slice none 0 0) 0) := ⟨HM2.out, HC2.out.le (by omega), fun _ _ => 0, Buf.nil _ _ _ _ _⟩
    have hq17 : x ≤ 61 := by have := HX.out; omega
    clear HM2 HC2
    go_wp2_with fail
    go_loopw [3, 4] (fun v i wr => ∃ (j l : Nat), j + l = x ∧ i = .int .i64 l ∧ Bs Y w wr C (k + 6 + 30 * j) v j) (fun _ i _ => (intOf i).toNat)
    case atStart => exact ⟨0, x, by omega, rfl, H0.out⟩
    case round =>
      obtain ⟨j, l, hjl, rfl, hb⟩ := hrel
      clear H0
      have HB : Hid (Bs Y w _ C (k + 6 + 30 * j) _ j) := hb
      clear hb
      by_cases hlt : 0 < l
      · have hlt' : (l : Int) > 0 := by omega
        go_wp2_with fail
        refine (walkStep_any Y C (k + 6 + 30 * j) _ (by omega) (fun b hb => ⟨Nat.lt_of_lt_of_le (hY b hb).1 HB.out.mod.size, (hY b hb).2⟩) HB.out.cur).mono ?_
        rintro e w6 ⟨a, b, c, d, rfl, hc6, hm6⟩
        obtain ⟨ao, cap, w7, hrun, hB7⟩ := (HB.out.cur' hC hc6 hm6).push (by omega) hC (fun b hb => (hY b hb).1) a b c d
        have HRN : Hid _ := hrun
        have HB7 : Hid (Bs Y w w7 C (k + 6 + 30 * j + 30) (.slice ao (j + 1) cap) (j + 1)) := hB7
        clear hrun hB7 hc6 hm6 HB
        go_wp2_with (first | (at_builtin; refine wpList_app (.tmp 16) (.tmp 19) 23 (by rfl) ?_; refine ⟨_, _, HRN.out, ?_⟩) | fail)
        go_wp2
        go_roundw
        case rel => exact ⟨j + 1, l - 1, by omega, by go_num, by rw [show k + 6 + 30 * (j + 1) = k + 6 + 30 * j + 30 by omega]; exact HB7.out⟩
        case measure => simp [intOf]; omega
      · obtain rfl : l = 0 := by omega
        go_wp2
        go_ret
        exact ⟨_, j, rfl, by omega, HB.out.mod, HB.out.cur.le (by omega), HB.out.ex⟩
  · go_wp2_with fail
    refine (pick_any Y C (k + 2 + 2) 3 _ (by omega) (by omega) HC2.out).mono ?_
    rintro e w3 ⟨y, rfl, hy, hc3, hm3⟩
    have H0 : Hid (Bs Y w w3 C (k + 6) (.slice none 0 0) 0) := ⟨HM2.out.trans hm3, hc3.le (by omega), fun _ _ => 0, Buf.nil _ _ _ _ _⟩
    have hw : IntKind.i64.wrap (59 + (y : Int)) = ((59 + y : Nat) : Int) := by rw [IntKind.wrap_i64]; omega
    obtain ⟨q, hq⟩ : ∃ q, q = 59 + y := ⟨_, rfl⟩
    have hq17 : q ≤ 61 := by omega
    rw [← hq] at hw
    clear hq hy hm3 hc3 HM2 HC2 HX
    go_wp2_with fail
    go_loopw [3, 4] (fun v i wr => ∃ (j l : Nat), j + l = q ∧ i = .int .i64 l ∧ Bs Y w wr C (k + 6 + 30 * j) v j) (fun _ i _ => (intOf i).toNat)
    case atStart => exact ⟨0, q, by omega, by first | rfl | rw [hw], H0.out⟩
    case round =>
      obtain ⟨j, l, hjl, rfl, hb⟩ := hrel
      clear H0
      have HB : Hid (Bs Y w _ C (k + 6 + 30 * j) _ j) := hb
      clear hb
      by_cases hlt : 0 < l
      · have hlt' : (l : Int) > 0 := by omega
        go_wp2_with fail
        refine (walkStep_any Y C (k + 6 + 30 * j) _ (by omega) (fun b hb => ⟨Nat.lt_of_lt_of_le (hY b hb).1 HB.out.mod.size, (hY b hb).2⟩) HB.out.cur).mono ?_
        rintro e w6 ⟨a, b, c, d, rfl, hc6, hm6⟩
        obtain ⟨ao, cap, w7, hrun, hB7⟩ := (HB.out.cur' hC hc6 hm6).push (by omega) hC (fun b hb => (hY b hb).1) a b c d
        have HRN : Hid _ := hrun
        have HB7 : Hid (Bs Y w w7 C (k + 6 + 30 * j + 30) (.slice ao (j + 1) cap) (j + 1)) := hB7
        clear hrun hB7 hc6 hm6 HB
        go_wp2_with (first | (at_builtin; refine wpList_app (.tmp 16) (.tmp 19) 23 (by rfl) ?_; refine ⟨_, _, HRN.out, ?_⟩) | fail)
        go_wp2
        go_roundw
        case rel => exact ⟨j + 1, l - 1, by omega, by go_num, by rw [show k + 6 + 30 * (j + 1) = k + 6 + 30 * j + 30 by omega]; exact HB7.out⟩
        case measure => simp [intOf]; omega
      · obtain rfl : l = 0 := by omega
        go_wp2
        go_ret
        exact ⟨_, j, rfl, by omega, HB.out.mod, HB.out.cur.le (by omega), HB.out.ex⟩
set_option maxRecDepth 10000 in
set_option maxHeartbeats 3200000 in
theorem drawPlayW_any (ao : Option Addr) (n cc : Nat) (f : Nat → Int) (w : World) (h : BytesAt (fun b => b < w.heap.size) w ao n f) :
    Calls Try.prog 15 #[.slice ao n cc] w fun e w' => ∃ (x : Nat) (ap : Option Addr) (np cp : Nat) (F : Nat → Nat → Int), e = .returned (.tuple #[.int .i64 x, .slice ap np cp]) ∧ np ≤ 61 ∧ KOwn 4 (fun x => w.heap.size ≤ x ∧ x < w'.heap.size) w' ap np F ∧ Blw w w' := by
  have HB : Hid (Blw w (w.alloc (.cells #[.slice ao n cc, .int .i64 0, .int .u64 0] 108))) := (Blw.refl _).alloc _
  have HC : Hid (Cur (fun b => b < w.heap.size) (w.alloc (.cells #[.slice ao n cc, .int .i64 0, .int .u64 0] 108)) w.heap.size 0) := ⟨ao, n, cc, 0, f, 0, box3 w (.slice ao n cc) (.int .i64 0) (.int .u64 0) 108, h.blw HB.out, Nat.le_refl _, fun b hb => by omega⟩
  have HS : Hid ((w.alloc (.cells #[.slice ao n cc, .int .i64 0, .int .u64 0] 108)).heap.size = w.heap.size + 1) := by show _ = _; simp
  clear h
  go_enter Try.func15, Try.ntmps15
  go_upto_region 2 with fail
  generalize (w.alloc (.cells #[.slice ao n cc, .int .i64 0, .int .u64 0] 108)) = w1 at *
  go_wp2_with fail
  refine (pick_any (fun b => b < w.heap.size) w.heap.size 0 6 _ (by omega) (by omega) HC.out).mono ?_
  rintro e w2 ⟨x, rfl, -, hc, hm⟩
  have HC2 : Hid (Cur (fun b => b < w.heap.size) w2 w.heap.size (0 + 2)) := hc
  have HM2 : Hid (Mod (fun b => b = w.heap.size) w1 w2) := hm
  clear hc hm HC
  go_wp2_with fail
  refine (walkSteps_any (fun b => b < w.heap.size) w.heap.size (0 + 2) w2 (by omega) (fun b hb => ⟨by have := HS.out; have := HM2.out.size; omega, by omega⟩) HC2.out).mono ?_
  rintro e w3 ⟨v, np, rfl, hnp, hb⟩
  obtain ⟨F, hbf⟩ := hb.ex
  obtain ⟨ap, cp, rfl, hko⟩ := Buf.steps hbf (by omega)
  have FIN : Hid (KOwn 4 (fun x => w.heap.size ≤ x ∧ x < w3.heap.size) w3 ap np F ∧ Blw w w3) := ⟨hko.mono (fun b hb => by have := HS.out; have := HM2.out.size; omega), Mod.blw (Mod.blw HB.out HM2.out (fun i hi => by omega)) hb.mod (fun i hi => by omega)⟩
  clear hko hbf hb HC2 HM2 HB HS
  go_wp2
  exact bodyPost_ret (v := .tuple #[.int .i64 x, .slice ap np cp]) (by simp [results, Try.results15, go_sem]) rfl ⟨_, _, _, _, F, rfl, hnp, FIN.out.1, FIN.out.2⟩
end Go.Proofs.Ytbpdopcdhnemfaa
