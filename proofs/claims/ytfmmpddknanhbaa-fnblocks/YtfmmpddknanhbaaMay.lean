/- MayUse: the model's and the program's. -/
import Derived.Test.YtfmmpddknanhbaaPk
import Derived.Test.YtfmmpddknanhbaaSpecL
namespace Go.Proofs.Ytfmmpddknanhbaa
open Go.RowKit
set_option linter.unusedSimpArgs false
set_option linter.unusedVariables false
set_option maxRecDepth 10000 in
set_option maxHeartbeats 1600000 in
theorem l5May_any (b : BV) (c l : Nat → Int) (o : Int) (Y : Nat → Prop) (w : World) (h : BookAt Y w b ⟨16, c, 16, l⟩) :
    Calls Try.prog 80 #[b.val ⟨16, c, 16, l⟩, .int .i64 o] w fun e w' => ∃ v, e = .returned v ∧ Gath w w' v (pk (mayP c l o) 16) := by
  obtain ⟨a1, a2, c1, c2⟩ := b
  simp only [BV.val] at *
  have hb0 : Blw w (w.alloc (.cells #[.slice a1 16 c1, .slice a2 16 c2] 25)) := (Blw.refl _).alloc _
  have r0 := box2 w (.slice a1 16 c1) (.slice a2 16 c2) 25
  have HC : Hid (IntsAt Y (w.alloc (.cells #[.slice a1 16 c1, .slice a2 16 c2] 25)) a1 16 c) := h.c.blw hb0
  have HL : Hid (IntsAt Y (w.alloc (.cells #[.slice a1 16 c1, .slice a2 16 c2] 25)) a2 16 l) := h.l.blw hb0
  have hsz : (w.alloc (.cells #[.slice a1 16 c1, .slice a2 16 c2] 25)).heap.size = w.heap.size + 1 := by simp
  clear h
  go_enter Try.func80, Try.ntmps80
  go_wp2_with fail
  revert hb0 r0 HC HL hsz
  generalize w.alloc (.cells #[.slice a1 16 c1, .slice a2 16 c2] 25) = w0
  intro hb0 r0 HC HL hsz
  have HR0 : Hid (Row w0 w.heap.size 2 (fun i => if i = 0 then .slice a1 16 c1 else .slice a2 16 c2)) := r0
  have HB0 : Hid (Blw w w0) := hb0
  clear hb0 r0 hsz
  go_loopw [5, 10] (fun v i wr => ∃ j : Nat, j ≤ 16 ∧ i = .int .i64 j ∧ Gath w0 wr v (pk (mayP c l o) j)) (fun _ i _ => 16 - (intOf i).toNat)
  case atStart => exact ⟨0, by omega, rfl, ⟨BufL.nil _ _, Blw.refl _⟩⟩
  case round =>
    obtain ⟨j, hj, rfl, hG⟩ := hrel
    have HG : Hid (Gath w0 wr u5 (pk (mayP c l o) j)) := hG
    clear hG
    by_cases hlt : j < 16
    · have hlt' : (j : Int) < 16 := by omega
      obtain ⟨b1, o1, rfl, -, g1⟩ := (HC.out.blw HG.out.blw).2 j hlt
      obtain ⟨b2, o2, rfl, -, g2⟩ := (HL.out.blw HG.out.blw).2 j hlt
      obtain ⟨p0, p1⟩ := get2 (HR0.out.blw HG.out.blw)
      by_cases hpj : mayP c l o j = true
      · have hle := pk_len (mayP c l o) j
        obtain ⟨ao, cap, w2, hrun, hG2⟩ := HG.out.push (by omega) j
        have HRN : Hid _ := hrun
        have HN : Hid (Gath w0 w2 (.slice ao ((pk (mayP c l o) j).length + 1) cap) (pk (mayP c l o) (j + 1))) := by rw [pk_yes hpj]; exact hG2
        clear hrun hG2 HG hle
        by_cases h1 : c j = o
        · have d1 : (c j == o) = true := by simp [h1]
          clear h1 hpj
          go_wp2_with (first | (at_builtin; refine wpList_app (.tmp 29) (.tmp 31) 23 (by rfl) ?_; refine ⟨_, _, HRN.out, ?_⟩) | fail)
          go_roundw
          case rel => exact ⟨j + 1, by omega, by go_num, HN.out⟩
          case measure => simp [intOf]; omega
        · have d1 : (c j == o) = false := by simp [h1]
          have d2 : (l j == o) = true := by simpa [mayP, h1] using hpj
          clear h1 hpj
          go_wp2_with (first | (at_builtin; refine wpList_app (.tmp 29) (.tmp 31) 23 (by rfl) ?_; refine ⟨_, _, HRN.out, ?_⟩) | fail)
          go_roundw
          case rel => exact ⟨j + 1, by omega, by go_num, HN.out⟩
          case measure => simp [intOf]; omega
      · have hpf : mayP c l o j = false := by simpa using hpj
        have HN : Hid (Gath w0 wr u5 (pk (mayP c l o) (j + 1))) := by rw [pk_no hpf]; exact HG.out
        have d1 : (c j == o) = false := by simp [mayP] at hpf; simp [hpf.1]
        have d2 : (l j == o) = false := by simp [mayP] at hpf; simp [hpf.2]
        clear hpj hpf HG
        go_wp2
        go_roundw
        case rel => exact ⟨j + 1, by omega, by go_num, HN.out⟩
        case measure => simp [intOf]; omega
    · obtain rfl : j = 16 := by omega
      go_wp2
      go_ret
      exact ⟨_, rfl, ⟨Buf.mono HG.out.buf (fun x hx => ⟨Nat.le_trans HB0.out.size hx.1, hx.2⟩), HB0.out.trans HG.out.blw⟩⟩
theorem may_fin {w w' : World} {v : Value} {B : BD} {o : Int} (ok : muOK B o) (h : Gath w w' v (pk (mayP B.c B.l o) 16)) : GivesI (muOut B o) w (.returned (.tuple #[v, .bool true])) w' := by
  have hl := pk_len (mayP B.c B.l o) 16
  obtain ⟨ao, cap, rfl, own⟩ := h.own (by omega)
  exact ⟨ao, _, cap, _, true, rfl, Or.inl ⟨ok, rfl, rfl, rfl⟩, by omega, own, h.blw⟩
theorem Gath.up {w w0 w' : World} {v : Value} {L : List Nat} (h : Gath w0 w' v L) (hb : Blw w w0) : Gath w w' v L := ⟨Buf.mono h.buf (fun x hx => ⟨Nat.le_trans hb.size hx.1, hx.2⟩), hb.trans h.blw⟩
set_option maxRecDepth 10000 in
set_option maxHeartbeats 1600000 in
theorem specMay_any (b : BV) (B : BD) (o : Int) (Y : Nat → Prop) (w : World) (h : BookAt Y w b B) :
    Calls Try.prog 36 #[b.val B, .int .i64 o] w (GivesI (muOut B o) w) := by
  have hb0 : Blw w (w.alloc (.cells #[.slice b.a1 B.n b.c1, .slice b.a2 B.k b.c2] 25)) := (Blw.refl _).alloc _
  have r0 := box2 w (.slice b.a1 B.n b.c1) (.slice b.a2 B.k b.c2) 25
  have HA : Hid (BookAt Y (w.alloc (.cells #[.slice b.a1 B.n b.c1, .slice b.a2 B.k b.c2] 25)) b B) := h.blw hb0
  clear h
  go_enter Try.func36, Try.ntmps36
  go_wp2_with fail
  refine (specGood_any b B Y _ HA.out).mono ?_
  rintro e w1 ⟨r, rfl, hr, hb1⟩
  have HT : Hid (r = true ↔ B.Good) := hr
  have HB : Hid (Blw w w1) := hb0.trans hb1
  have HR0 : Hid (Row w1 w.heap.size 2 (fun i => if i = 0 then .slice b.a1 B.n b.c1 else .slice b.a2 B.k b.c2)) := r0.blw hb1
  replace HA : Hid (BookAt Y w1 b B) := HA.out.blw hb1
  clear hr hb0 hb1 r0
  cases r
  · have HN : Hid (¬ B.Good) := fun g => by have := HT.out.2 g; simp at this
    clear HT
    go_wp2
    exact bodyPost_ret (v := .tuple #[.slice none 0 0, .bool false]) (by simp [results, Try.results36, go_sem]) rfl (zero_givesI (Or.inr ⟨fun g => HN.out g.1, rfl, rfl⟩) HB.out)
  have HG : Hid (B.Good) := HT.out.1 (by first | rfl | trivial)
  clear HT
  go_wp2_with fail
  refine (l5Who_any o _).mono ?_
  rintro e w1 ⟨r, rfl, hr, rfl⟩
  have HT : Hid (r = true ↔ whoOK o) := hr
  clear hr
  cases r
  · have HN : Hid (¬ whoOK o) := fun g => by have := HT.out.2 g; simp at this
    clear HT
    go_wp2
    exact bodyPost_ret (v := .tuple #[.slice none 0 0, .bool false]) (by simp [results, Try.results36, go_sem]) rfl (zero_givesI (Or.inr ⟨fun g => HN.out g.2, rfl, rfl⟩) HB.out)
  have H1 : Hid (whoOK o) := HT.out.1 (by first | rfl | trivial)
  clear HT
  obtain ⟨n, c, k, l⟩ := B
  have hn16 : n = 16 := HG.out.n
  have hk16 : k = 16 := HG.out.k
  subst hn16 hk16
  obtain ⟨p0, p1⟩ := get2 HR0.out
  go_wp2_with fail
  clear p0 p1
  refine (l5May_any b c l o Y _ HA.out).mono ?_
  rintro e w2 ⟨v, rfl, hG⟩
  have FIN : Hid _ := may_fin (B := ⟨16, c, 16, l⟩) ⟨HG.out, H1.out⟩ (hG.up HB.out)
  clear hG
  go_wp2
  exact bodyPost_ret (v := .tuple #[v, .bool true]) (by simp [results, Try.results36, go_sem]) rfl FIN.out
set_option maxRecDepth 10000 in
set_option maxHeartbeats 1600000 in
theorem implMay_any (b : BV) (B : BD) (o : Int) (Y : Nat → Prop) (w : World) (h : BookAt Y w b B) (hY : ∀ x, Y x → x < w.heap.size) :
    Calls Try.prog 30 #[b.val B, .int .i64 o] w (GivesI (muOut B o) w) := by
  have hb0 : Blw w ((w.alloc (.cells #[.slice b.a1 B.n b.c1, .slice b.a2 B.k b.c2] 25)).alloc (.cells #[.int .i64 o] 3)) := ((Blw.refl _).alloc _).alloc _
  have HA : Hid (BookAt Y ((w.alloc (.cells #[.slice b.a1 B.n b.c1, .slice b.a2 B.k b.c2] 25)).alloc (.cells #[.int .i64 o] 3)) b B) := h.blw hb0
  have hp : ((w.alloc (.cells #[.slice b.a1 B.n b.c1, .slice b.a2 B.k b.c2] 25)).alloc (.cells #[.int .i64 o] 3)).cell? ⟨w.heap.size + 1, 0, none⟩ = some (.int .i64 o) := by
    have := (Row.of_cells (heap_alloc_new (w.alloc (.cells #[.slice b.a1 B.n b.c1, .slice b.a2 B.k b.c2] 25)) (.cells #[.int .i64 o] 3)) (fun _ => .int .i64 o) (fun i hi => by
      obtain rfl : i = 0 := by simpa using hi
      rfl)).cell (i := 0) (by simp)
    rw [World.size_alloc] at this
    exact this
  clear h
  go_enter Try.func30, Try.ntmps30
  go_wp2_with fail
  refine (hold_any b B Y _ HA.out (fun x hx => by have := hY x hx; simp; omega)).mono ?_
  rintro e w1 ⟨h1, hb1⟩
  have HB : Hid (Blw w w1) := hb0.trans hb1
  replace hp := hb1.cell hp
  have HP : Hid (w1.cell? ⟨w.heap.size + 1, 0, none⟩ = some (.int .i64 o)) := hp
  clear hb0 HA hb1
  rcases h1 with ⟨z, hg, rfl, hrow, hlo⟩ | ⟨hg, rfl⟩
  case inr =>
    have HG : Hid (¬ B.Good) := hg
    clear hg
    go_wp2
    exact bodyPost_ret (v := .tuple #[.slice none 0 0, .bool false]) (by simp [results, Try.results30, go_sem]) rfl (zero_givesI (Or.inr ⟨fun g => HG.out g.1, rfl, rfl⟩) HB.out)
  have HG : Hid B.Good := hg
  have HRW : Hid (Row w1 z (16 * 2) (uc B.c B.l)) := hrow
  clear hg hrow hlo
  go_wp2_with fail
  refine (isOwner_any o _).mono ?_
  rintro e w1 ⟨r, rfl, hr, rfl⟩
  have HT : Hid (r = true ↔ whoOK o) := hr
  clear hr
  cases r
  · have HN : Hid (¬ whoOK o) := fun g => by have := HT.out.2 g; simp at this
    clear HT
    go_wp2
    exact bodyPost_ret (v := .tuple #[.slice none 0 0, .bool false]) (by simp [results, Try.results30, go_sem]) rfl (zero_givesI (Or.inr ⟨fun g => HN.out g.2, rfl, rfl⟩) HB.out)
  have H1 : Hid (whoOK o) := HT.out.1 (by first | rfl | trivial)
  clear HT
  clear hp
  go_wp2_with fail
  refine (placesMay_any z (w.heap.size + 1) B.c B.l o _ HRW.out HP.out).mono ?_
  rintro e w2 ⟨v, rfl, hG⟩
  have FIN : Hid _ := may_fin (B := B) ⟨HG.out, H1.out⟩ (hG.up HB.out)
  clear hG
  go_wp2
  exact bodyPost_ret (v := .tuple #[v, .bool true]) (by simp [results, Try.results30, go_sem]) rfl FIN.out
end Go.Proofs.Ytfmmpddknanhbaa
