/- MappedIn: the program's, and the law. -/
import Derived.Test.YtbnencabjechjaaMappedI
namespace Go.Proofs.Ytbnencabjechjaa
open Go.RowKit
set_option linter.unusedSimpArgs false
set_option linter.unusedVariables false
theorem lf_nonneg {n kn : Nat} {c : Nat → Int} {len : Nat → Nat} {p m : Nat → Nat → Int} (g : BD.Good ⟨n, c, ⟨kn, len, p, m⟩⟩) {a : Nat} (ha : a < 16) : 0 ≤ lfP c m a := by
  unfold lfP
  by_cases h : 0 ≤ c (a / 4)
  · rw [if_pos h]
    have hn : n = 4 := g.n
    have ht := g.top (a / 4) (by show a / 4 < n; omega)
    have ht' : c (a / 4) ≤ (kn : Int) - 1 := ht.2
    have := ((g.leaf (c (a / 4)).toNat (by show _ < kn; omega)).2 (a % 4) (by omega)).2.1.1
    exact this
  · rw [if_neg h]; omega
set_option maxRecDepth 10000 in
set_option maxHeartbeats 3200000 in
theorem implMapped_any (b : BV) (B : BD) (Y : Nat → Prop) (w : World) (h : BookAt Y w b B) (hY : ∀ x, Y x → x < w.heap.size) :
    Calls Try.prog 29 #[b.val B] w (GivesI (miOut B) w) := by
  have hb0 : Blw w (w.alloc (.cells #[.slice b.a1 B.n b.c1, .slice b.a2 B.D.n b.c2] 26)) := (Blw.refl _).alloc _
  have HA : Hid (BookAt Y (w.alloc (.cells #[.slice b.a1 B.n b.c1, .slice b.a2 B.D.n b.c2] 26)) b B) := h.blw hb0
  clear h
  go_enter Try.func29, Try.ntmps29
  go_wp2_with fail
  refine (hold_any b B Y _ HA.out (fun x hx => by have := hY x hx; simp; omega)).mono ?_
  rintro e w1 ⟨h1, hb1⟩
  replace hb1 := hb0.trans hb1
  clear hb0 HA
  rcases h1 with ⟨z, hg, rfl, hrow, -⟩ | ⟨hg, rfl⟩
  case inr =>
    have HG : Hid (¬ B.Good) := hg
    clear hg
    go_wp2
    exact bodyPost_ret (v := .tuple #[.slice none 0 0, .bool false]) (by simp [results, Try.results29, go_sem]) rfl (zero_givesI (Or.inr ⟨HG.out, rfl, rfl⟩) (hb1.alloc _))
  have HG : Hid B.Good := hg
  obtain ⟨n, c, ⟨kn, len, p, m⟩⟩ := B
  dsimp only at hrow
  have hn4 : n = 4 := HG.out.n
  subst hn4
  have hk4 : kn ≤ 4 := HG.out.k.2
  have hA : Blw w1 (w1.alloc (.cells (held5 c z kn) 82)) := (Blw.refl _).alloc _
  have hA2 : Blw (w1.alloc (.cells (held5 c z kn) 82)) ((w1.alloc (.cells (held5 c z kn) 82)).alloc (.cells #[.slice none 0 0] 23)) := (Blw.refl _).alloc _
  have hr5 : Row (w1.alloc (.cells (held5 c z kn) 82)) w1.heap.size 5 (row5f c (.slice (some ⟨z, 0, none⟩) kn kn)) := row5 w1 (.int .i64 (c 0)) (.int .i64 (c 1)) (.int .i64 (c 2)) (.int .i64 (c 3)) (.slice (some ⟨z, 0, none⟩) kn kn) 82
  have HR5 : Hid (Row ((w1.alloc (.cells (held5 c z kn) 82)).alloc (.cells #[.slice none 0 0] 23)) w1.heap.size 5 (row5f c (.slice (some ⟨z, 0, none⟩) kn kn))) := hr5.blw hA2
  have HRL : Hid (Row (w1.alloc (.cells (held5 c z kn) 82)) z (kn * 8) (lc p m)) := hrow.blw hA
  have hbx := box1 (w1.alloc (.cells (held5 c z kn) 82)) (.slice none 0 0) 23
  rw [World.size_alloc] at hbx
  have HBX : Hid (Row ((w1.alloc (.cells (held5 c z kn) 82)).alloc (.cells #[.slice none 0 0] 23)) (w1.heap.size + 1) 1 (fun _ => .slice none 0 0)) := hbx
  have HB1 : Hid (Blw w (w1.alloc (.cells (held5 c z kn) 82))) := hb1.trans hA
  have HA2 : Hid (Blw (w1.alloc (.cells (held5 c z kn) 82)) ((w1.alloc (.cells (held5 c z kn) 82)).alloc (.cells #[.slice none 0 0] 23))) := hA2
  have HSZ : Hid ((w1.alloc (.cells (held5 c z kn) 82)).heap.size = w1.heap.size + 1) := by show _ = _; simp
  obtain ⟨p0, p1, p2, p3, p4⟩ := get5 HR5.out
  clear hg hA hA2 hr5 hrow hbx hb1
  go_wp2_with fail
  clear p0 p1 p2 p3 p4
  refine (walkMapped_any c z kn p m (w1.heap.size + 1) (w1.alloc (.cells (held5 c z kn) 82)) _ hk4 (fun i hi => HG.out.top i hi) (fun a ha => lf_nonneg HG.out ha) HRL.out HA2.out (by rw [HSZ.out]; omega) HBX.out).mono ?_
  rintro e w2 ⟨⟨u, rfl⟩, v, zk, F, hGB⟩
  have hle := pk_len (mpP c m) 16
  obtain ⟨ao, cap, rfl, own⟩ := BufI.own hGB.buf (by omega)
  have g0 := hGB.box.cell (i := 0) (by omega)
  have FIN : Hid (GivesI (miOut ⟨4, c, ⟨kn, len, p, m⟩⟩) w (.returned (.tuple #[.slice ao (pk (mpP c m) 16).length cap, .bool true])) w2) := ⟨_, _, cap, _, true, rfl, Or.inl ⟨HG.out, rfl, rfl, rfl⟩, by omega, own.mono (fun x hx => ⟨Nat.le_trans HB1.out.size hx.1, hx.2.1⟩), HB1.out.trans hGB.blw⟩
  clear hGB own hle HB1 HA2 HR5 HRL HBX HSZ
  go_wp2
  exact bodyPost_ret (v := .tuple #[.slice ao (pk (mpP c m) 16).length cap, .bool true]) (by simp [results, Try.results29, go_sem]) rfl FIN.out
end Go.Proofs.Ytbnencabjechjaa
