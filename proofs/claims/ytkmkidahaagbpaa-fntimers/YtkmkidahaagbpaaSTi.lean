/- A tick of the model. -/
import Derived.Test.YtkmkidahaagbpaaRn
import Derived.Test.YtkmkidahaagbpaaPlc
import Derived.Test.YtkmkidahaagbpaaWo
namespace Go.Proofs.Ytkmkidahaagbpaa
open Go.RowKit
set_option linter.unusedSimpArgs false
set_option linter.unusedVariables false
/-- What stands while the model ticks. -/
structure SI (lo g1 g2 z : Nat) (n : Int) (R : Rws) (P : Nat → Option Addr) (C : Nat → Nat) (w W : World) : Prop where
  ow : OW lo g1 g2 R P C W
  bx : Row W z 3 (t3 (.int .i64 n) (.slice (some ⟨g1, 0, none⟩) 8 8) (.slice (some ⟨g2, 0, none⟩) 8 8))
  rs : Row W (z + 1) 3 (t3 (.int .i64 0) (.slice none 0 0) (.slice none 0 0))
  ty : ∃ c, W.heap[z + 1]? = some (.cells c 25 (0, 0))
  md : Mod (fun b => b = g1 ∨ b = g2) w W
theorem SI.blw {lo g1 g2 z : Nat} {n : Int} {R : Rws} {P : Nat → Option Addr} {C : Nat → Nat} {w W W' : World} (h : SI lo g1 g2 z n R P C w W) (hb : Blw W W') : SI lo g1 g2 z n R P C w W' := ⟨h.ow.blw hb, h.bx.blw hb, h.rs.blw hb, h.ty.imp (fun c e => (hb.block _ h.rs.lt).trans e), h.md.trans (hb.mod _)⟩
theorem OW.noT {lo g1 g2 : Nat} {R : Rws} {P : Nat → Option Addr} {C : Nat → Nat} {W : World} (h : OW lo g1 g2 R P C W) {b : Nat} (ht : ∃ c, W.heap[b]? = some (.cells c 25 (0, 0))) {k : Nat} (hk : k < 16) : P k ≠ some ⟨b, 0, none⟩ := by
  intro e
  obtain ⟨c, hc⟩ := ht
  have hb := h.hr.buf k hk
  rcases hb.1.2 with h1 | ⟨g, cap, cur, e1, h1, hg, h2⟩
  · have h3 := h1.1
    simp only [Value.slice.injEq] at h3
    rw [h3.1] at e; cases e
  · simp only [Value.slice.injEq] at e1
    rw [e] at e1
    have e2 := e1.1
    simp only [Option.some.injEq, Addr.mk.injEq] at e2
    rw [e2.1] at hc
    rw [hc] at hg
    simp at hg
theorem OW.modT {lo g1 g2 : Nat} {R : Rws} {P : Nat → Option Addr} {C : Nat → Nat} {w w' : World} {b : Nat} (h : OW lo g1 g2 R P C w) (ht : ∃ c, w.heap[b]? = some (.cells c 25 (0, 0))) (hm : Mod (fun x => x = b) w w') (h1 : g1 ≠ b) (h2 : g2 ≠ b) : OW lo g1 g2 R P C w' :=
  ⟨h.n.mod hm h1, h.f.mod hm h2, h.hr.mod hm (fun k x hk e e2 => h.noT ht hk (e2 ▸ e)), h.n1, h.n2, h.ne, h.lo1, h.lo2⟩
def STickPost (lo g1 g2 : Nat) (n : Int) (R : Rws) (w : World) (e : Ending) (w' : World) : Prop :=
  ∃ ao c m, e = .returned (.tuple #[.agg #[.int .i64 n, .slice (some ⟨g1, 0, none⟩) 8 8, .slice (some ⟨g2, 0, none⟩) 8 8], .slice ao m c]) ∧ Hid (m = (tickIds n R).length ∧ IntsAt (fun b => w.heap.size ≤ b) w' ao m (gi (tickIds n R)) ∧ (∃ P' C', OW lo g1 g2 (tickR n R) P' C' w') ∧ Mod (fun b => b = g1 ∨ b = g2) w w')
set_option maxRecDepth 10000 in
set_option maxHeartbeats 6400000 in
theorem specTick_any (lo g1 g2 : Nat) (now : Int) (R : Rws) (P : Nat → Option Addr) (C : Nat → Nat) (w : World) (h : OW lo g1 g2 R P C w) (hlo : lo ≤ w.heap.size) (hT : TR [] R) (h0 : 0 ≤ now) (h1 : now ≤ 1000) :
    Calls Try.prog 54 #[.agg #[.int .i64 now, .slice (some ⟨g1, 0, none⟩) 8 8, .slice (some ⟨g2, 0, none⟩) 8 8]] w (STickPost lo g1 g2 (now + 1) R w) := by
  have hwr : IntKind.i64.wrap (now + 1) = now + 1 := by rw [IntKind.wrap_i64]; omega
  have n0 : 0 ≤ now + 1 := by omega
  have n1 : now + 1 ≤ 1001 := by omega
  obtain ⟨n, hn⟩ : ∃ n, now + 1 = n := ⟨_, rfl⟩
  rw [hn] at hwr n0 n1 ⊢
  have hb0 : Blw w (w.alloc (.cells #[.int .i64 now, .slice (some ⟨g1, 0, none⟩) 8 8, .slice (some ⟨g2, 0, none⟩) 8 8] 25)) := (Blw.refl _).alloc _
  have r0 := box3 w (.int .i64 now) (.slice (some ⟨g1, 0, none⟩) 8 8) (.slice (some ⟨g2, 0, none⟩) 8 8) 25
  obtain ⟨Wa, hWa⟩ : ∃ Wa, w.alloc (.cells #[.int .i64 now, .slice (some ⟨g1, 0, none⟩) 8 8, .slice (some ⟨g2, 0, none⟩) 8 8] 25) = Wa := ⟨_, rfl⟩
  rw [hWa] at hb0 r0
  have hsa : Wa.heap.size = w.heap.size + 1 := by rw [← hWa, World.size_alloc]
  have hb1 : Blw Wa (Wa.alloc (.cells #[.int .i64 0, .slice none 0 0, .slice none 0 0] 25)) := (Blw.refl _).alloc _
  have r1 := box3 Wa (.int .i64 0) (.slice none 0 0) (.slice none 0 0) 25
  have ra := r0.blw hb1
  obtain ⟨W0, hW0⟩ : ∃ W0, Wa.alloc (.cells #[.int .i64 0, .slice none 0 0, .slice none 0 0] 25) = W0 := ⟨_, rfl⟩
  rw [hW0] at hb1 r1 ra
  rw [hsa] at r1
  have hs0 : W0.heap.size = w.heap.size + 1 + 1 := by rw [← hW0, World.size_alloc, hsa]
  have hty0 : ∃ c, W0.heap[w.heap.size + 1]? = some (.cells c 25 (0, 0)) := ⟨_, by rw [← hW0, ← hsa]; exact heap_alloc_new Wa _⟩
  have hgl1 := h.n.lt
  have hgl2 := h.f.lt
  have ho0 := h.blw (hb0.trans hb1)
  have ms0 : Mod (fun b => b = w.heap.size) W0 (W0.setCell ⟨w.heap.size, 0, none⟩ (.int .i64 n)) := Mod.setCell (X := fun b => b = w.heap.size) _ (p := ⟨w.heap.size, 0, none⟩) rfl _
  have HSI0 : Hid (SI lo g1 g2 w.heap.size n R P C w (W0.setCell ⟨w.heap.size, 0, none⟩ (.int .i64 n))) := ⟨⟨ho0.n.mod ms0 (fun e => by omega), ho0.f.mod ms0 (fun e => by omega), ho0.hr.mod ms0 (fun k b hk e e2 => by have h5 := h.hr.lt hk e; omega), ho0.n1, ho0.n2, ho0.ne, ho0.lo1, ho0.lo2⟩, set3_0 ra (.int .i64 n), r1.mod ms0 (fun e => by omega), hty0.imp (fun c e => (ms0.block _ r1.lt (fun e2 => by omega)).trans e), ((hb0.trans hb1).mod _).tail2 ms0 (fun i e => Or.inr (by omega))⟩
  have HSZ0 : Hid ((W0.setCell ⟨w.heap.size, 0, none⟩ (.int .i64 n)).heap.size = w.heap.size + 1 + 1) := (World.size_setCell ..).trans hs0
  have HGZ : Hid (g1 < w.heap.size ∧ g2 < w.heap.size ∧ lo ≤ w.heap.size) := ⟨hgl1, hgl2, hlo⟩
  have HTR0 : Hid (TR [] R) := hT
  have HRA : Hid (Row W0 w.heap.size 3 (t3 (.int .i64 now) (.slice (some ⟨g1, 0, none⟩) 8 8) (.slice (some ⟨g2, 0, none⟩) 8 8))) := ra
  clear h hlo h0 h1 hT hty0 hb0 hb1 r0 r1 hgl1 hgl2 ho0 ms0 hs0 ra
  by_cases hm : n % 8 = 0
  · obtain ⟨kk, hkk⟩ : ∃ kk : Nat, n / 8 % 8 = (kk : Int) := ⟨(n / 8 % 8).toNat, by omega⟩
    have hkk8 : kk < 8 := by omega
    have hfk : farK n = 8 + kk := by unfold farK; omega
    have hnk : nearK n = 0 := by unfold nearK; omega
    have e3 : Int.tmod n 8 = 0 := by rw [Int.tmod_eq_emod_of_nonneg n0]; exact hm
    have e4 : Int.tdiv n 8 = n / 8 := Int.tdiv_eq_ediv_of_nonneg n0
    have e5 : Int.tmod (n / 8) 8 = (kk : Int) := by rw [Int.tmod_eq_emod_of_nonneg (by omega), hkk]
    have HK : Hid (farK n = 8 + kk ∧ nearK n = 0 ∧ n % 8 = 0) := ⟨hfk, hnk, hm⟩
    have hkki : (kk : Int) < 8 := by omega
    clear hfk hnk hkk hm
    go_enter Try.func54, Try.ntmps54
    go_upto_region 1 with fail
    try simp only [hWa, hW0, hsa]
    obtain ⟨a0, a1, a2⟩ := get3 HRA.out
    have a3 := HRA.out.frozen 0
    clear hWa hW0 hsa HRA
    go_upto_region 2 with fail
    clear a0 a1 a2 a3 hwr hn
    generalize W0.setCell ⟨w.heap.size, 0, none⟩ (.int .i64 n) = w1 at *
    obtain ⟨p0, p1, p2⟩ := get3 HSI0.out.bx
    have q0 := HSI0.out.ow.f.cell hkk8
    have q1 := HSI0.out.ow.f.frozen kk
    have hlt1 : lo ≤ w1.heap.size := by have h5 := HSZ0.out; have h6 := HGZ.out; omega
    have ms : Mod (fun b => b = g1 ∨ b = g2) w1 (w1.setCell ⟨g2, kk, none⟩ (.slice none 0 0)) := Mod.setCell _ (p := ⟨g2, kk, none⟩) (Or.inr rfl) _
    have HSI2 : Hid (SI lo g1 g2 w.heap.size n (updN R (8 + kk) []) (updN P (8 + kk) none) (updN C (8 + kk) 0) w (w1.setCell ⟨g2, kk, none⟩ (.slice none 0 0))) := ⟨HSI0.out.ow.upd2 (l := []) (a := none) (c := 0) hkk8 hlt1 (Blw.refl _) (Buf.nil _ _ _ _ _), HSI0.out.bx.mod ms (fun e => by have h5 := HGZ.out; omega), HSI0.out.rs.mod ms (fun e => by have h5 := HGZ.out; omega), HSI0.out.ty.imp (fun c e => (ms.block _ HSI0.out.rs.lt (fun e2 => by have h5 := HGZ.out; omega)).trans e), HSI0.out.md.trans ms⟩
    have HLN2 : Hid ((R (8 + kk)).length ≤ 20) := HTR0.out.rowlen (by omega)
    have HAT2 : Hid (UndosAt (fun b => P (8 + kk) = some ⟨b, 0, none⟩) (w1.setCell ⟨g2, kk, none⟩ (.slice none 0 0)) (P (8 + kk)) (R (8 + kk)).length (lf (R (8 + kk))) (la (R (8 + kk)))) := (HSI0.out.ow.at (k := 8 + kk) (by omega) (by have h5 := HLN2.out; omega)).mod ms (fun b hb e => by
      rcases e with e | e
      · exact HSI0.out.ow.n1 (8 + kk) (by omega) (e ▸ hb)
      · exact HSI0.out.ow.n2 (8 + kk) (by omega) (e ▸ hb))
    have HPN : Hid (∀ b, P (8 + kk) = some ⟨b, 0, none⟩ → b ≠ g1 ∧ b ≠ g2) := fun b hb => ⟨fun e => HSI0.out.ow.n1 (8 + kk) (by omega) (e ▸ hb), fun e => HSI0.out.ow.n2 (8 + kk) (by omega) (e ▸ hb)⟩
    have HT2 : Hid (TR (R (8 + kk)) (updN R (8 + kk) [])) := HTR0.out.emp (by omega)
    have HNR2 : Hid (near1 n R = putL n (R (8 + kk)) (updN R (8 + kk) [])) := by have h5 := HK.out; show near1 n R = _; unfold near1; rw [if_pos h5.2.2, h5.1]
    have HSZ2 : Hid ((w1.setCell ⟨g2, kk, none⟩ (.slice none 0 0)).heap.size = w.heap.size + 1 + 1) := (World.size_setCell ..).trans HSZ0.out
    obtain ⟨l, hl⟩ : ∃ x, R (8 + kk) = x := ⟨_, rfl⟩
    rw [hl] at q0 HLN2 HAT2 HT2 HNR2
    obtain ⟨pa, hpa⟩ : ∃ x, P (8 + kk) = x := ⟨_, rfl⟩
    rw [hpa] at q0 HAT2 HPN
    obtain ⟨ca, hca⟩ : ∃ x, C (8 + kk) = x := ⟨_, rfl⟩
    rw [hca] at q0
    obtain ⟨R1, hR1⟩ : ∃ x, updN R (8 + kk) [] = x := ⟨_, rfl⟩
    rw [hR1] at HSI2 HT2 HNR2
    obtain ⟨P1, hP1⟩ : ∃ x, updN P (8 + kk) none = x := ⟨_, rfl⟩
    rw [hP1] at HSI2
    obtain ⟨C1, hC1⟩ : ∃ x, updN C (8 + kk) 0 = x := ⟨_, rfl⟩
    rw [hC1] at HSI2
    obtain ⟨L, hL⟩ : ∃ x, l.length = x := ⟨_, rfl⟩
    rw [hL] at q0 HLN2 HAT2
    have HLl : Hid (l.length = L) := hL
    clear hl hpa hca hR1 hP1 hC1 hL hlt1 ms
    go_upto_region 6 with fail
    clear p0 p1 p2 q0 q1 e4 e5 HSI0 HSZ0 HTR0
    generalize w1.setCell ⟨g2, kk, none⟩ (.slice none 0 0) = w2 at *
    have HI : Hid (SI lo g1 g2 w.heap.size n (putL n (l.take 0) R1) P1 C1 w w2 ∧ Mod (fun b => b = g1 ∨ b = g2) w2 w2) := ⟨HSI2.out, Mod.refl _ _⟩
    go_upto_region 7 with fail
    go_loopw [35] (fun i wr => ∃ (j : Nat) (Pj : Nat → Option Addr) (Cj : Nat → Nat), j ≤ L ∧ i = .int .i64 j ∧ Hid (SI lo g1 g2 w.heap.size n (putL n (l.take j) R1) Pj Cj w wr ∧ Mod (fun b => b = g1 ∨ b = g2) w2 wr)) (fun i _ => L - (intOf i).toNat)
    case atStart => exact ⟨0, P1, C1, Nat.zero_le _, rfl, HI.out⟩
    case round =>
      obtain ⟨j, Pj, Cj, hj, rfl, hI⟩ := hrel
      clear HI
      by_cases hlt : j < L
      · have hlt' : (j : Int) < L := by omega
        have hL20 : L ≤ 20 := HLN2.out
        obtain ⟨b, o, ea, -, g3, g4⟩ := (HAT2.out.mod hI.out.2 (fun b hb e => by have h5 := HPN.out b hb; rcases e with e | e; exact h5.1 e; exact h5.2 e)).2 j hlt
        subst ea
        clear HAT2
        simp only [lf, la] at g3 g4
        have htj : TR (l.drop j) (putL n (l.take j) R1) := TR.putL (by rw [List.take_append_drop]; exact HT2.out)
        have hd : l.drop j = nth l j :: l.drop (j + 1) := by rw [nth_get (by have h5 := HLl.out; omega)]; exact List.drop_eq_getElem_cons (by have h5 := HLl.out; omega)
        rw [hd] at htj
        have hbx := htj.bd (nth l j) (by simp)
        have hal : Blw wr (wr.alloc (.cells #[.int .i64 (nth l j).1, .int .i64 (nth l j).2] 39)) := (Blw.refl _).alloc _
        have hsi := hI.out.1.blw hal
        have hlw : lo ≤ (wr.alloc (.cells #[.int .i64 (nth l j).1, .int .i64 (nth l j).2] 39)).heap.size := by have h5 := HSZ2.out; have h6 := HGZ.out; have h7 := (hI.out.2.trans (hal.mod _)).size; omega
        obtain ⟨p0, p1, p2⟩ := get3 hsi.bx
        obtain ⟨p3, p4⟩ := get2 (box2 wr (.int .i64 (nth l j).1) (.int .i64 (nth l j).2) 39)
        have HPL : Hid (Calls Try.prog 62 #[.agg #[.int .i64 n, .slice (some ⟨g1, 0, none⟩) 8 8, .slice (some ⟨g2, 0, none⟩) 8 8], .agg #[.int .i64 (nth l j).1, .int .i64 (nth l j).2]] (wr.alloc (.cells #[.int .i64 (nth l j).1, .int .i64 (nth l j).2] 39)) fun e w' => e = .returned (.tuple #[]) ∧ ∃ P' C', Hid (OW lo g1 g2 (put n (putL n (l.take j) R1) (nth l j)) P' C' w' ∧ Mod (fun b => b = g1 ∨ b = g2) (wr.alloc (.cells #[.int .i64 (nth l j).1, .int .i64 (nth l j).2] 39)) w')) := l11Place_any lo g1 g2 n _ Pj Cj (nth l j) _ hsi.ow hlw n0 (by omega) hbx.1 (by omega) (fun k hk => by have h5 := htj.rowlen hk; omega)
        have HS5 : Hid (SI lo g1 g2 w.heap.size n (putL n (l.take j) R1) Pj Cj w (wr.alloc (.cells #[.int .i64 (nth l j).1, .int .i64 (nth l j).2] 39)) ∧ Mod (fun b => b = g1 ∨ b = g2) w2 (wr.alloc (.cells #[.int .i64 (nth l j).1, .int .i64 (nth l j).2] 39))) := ⟨hsi, hI.out.2.trans (hal.mod _)⟩
        clear htj hd hbx hsi hlw hal hI
        go_upto_region 9 with fail
        clear g3 g4
        generalize wr.alloc (.cells #[.int .i64 (nth l j).1, .int .i64 (nth l j).2] 39) = W3 at *
        go_wp2_with (first | (go_at_call 62; refine HPL.out.mono ?_; rintro e v7 ⟨rfl, P7, C7, hE7⟩) | fail)
        go_roundw
        case rel =>
          have hm7 := hE7.out.2
          have hg := HGZ.out
          have htk : l.take (j + 1) = l.take j ++ [nth l j] := by rw [nth_get (by have h5 := HLl.out; omega), List.take_append_getElem]
          exact ⟨j + 1, P7, C7, by omega, by go_num, ⟨by rw [htk, putL_snoc]; exact hE7.out.1, HS5.out.1.bx.mod hm7 (fun e => by omega), HS5.out.1.rs.mod hm7 (fun e => by omega), HS5.out.1.ty.imp (fun c e => (hm7.block _ HS5.out.1.rs.lt (fun e2 => by omega)).trans e), HS5.out.1.md.trans hm7⟩, HS5.out.2.trans hm7⟩
        case measure => simp [intOf]; omega
      · obtain rfl : j = L := by omega
        have hlL := HLl.out
        have htk : l.take j = l := by rw [← hlL]; exact List.take_length
        have hTR9 : TR [] (putL n l R1) := TR.putL (m := []) (by rw [List.append_nil]; exact HT2.out)
        have hI2 := hI.out
        rw [htk] at hI2
        have hs9 := hI2.2.size
        have hsz2 := HSZ2.out
        have HSI : Hid (SI lo g1 g2 w.heap.size n (putL n l R1) Pj Cj w wr) := hI2.1
        have HTR : Hid (TR [] (putL n l R1)) := hTR9
        have HNR : Hid (near1 n R = putL n l R1) := HNR2.out
        have HLX : Hid (lo ≤ wr.heap.size) := by have h5 := HGZ.out; show lo ≤ _; omega
        have HGX : Hid (g1 < w.heap.size ∧ g2 < w.heap.size ∧ w.heap.size + 1 + 1 ≤ wr.heap.size) := ⟨HGZ.out.1, HGZ.out.2.1, by omega⟩
        clear hI2 hI hTR9 htk hlL hlt HT2 HNR2 HPN HAT2 hs9 hsz2 HSI2 HSZ2
        obtain ⟨Rx, hRx⟩ : ∃ x, putL n l R1 = x := ⟨_, rfl⟩
        rw [hRx] at HSI HTR HNR
        clear hRx
        have hk8 : 0 < 8 := by omega
        have HLN : Hid ((Rx (0)).length ≤ 20) := HTR.out.rowlen (by omega)
        obtain ⟨p0, p1, p2⟩ := get3 HSI.out.bx
        have r0 := HSI.out.ow.n.cell hk8
        have HAT : Hid (UndosAt (fun b => Pj (0) = some ⟨b, 0, none⟩) wr (Pj (0)) (Rx (0)).length (lf (Rx (0))) (la (Rx (0)))) := HSI.out.ow.at (k := 0) (by omega) (by have h5 := HLN.out; omega)
        have HTI : Hid (tickIds n R = (Rx (0)).map Prod.fst ∧ tickR n R = updN (Rx) 0 []) := by unfold tickIds tickR; rw [HNR.out, HK.out.2.1]; exact ⟨rfl, rfl⟩
        obtain ⟨rk, hrk⟩ : ∃ x, Rx (0) = x := ⟨_, rfl⟩
        rw [hrk] at HAT HTI HLN r0
        obtain ⟨pk, hpk⟩ : ∃ x, Pj (0) = x := ⟨_, rfl⟩
        rw [hpk] at r0 HAT
        obtain ⟨ck, hck⟩ : ∃ x, Cj (0) = x := ⟨_, rfl⟩
        rw [hck] at r0
        obtain ⟨L9, hL9⟩ : ∃ x, rk.length = x := ⟨_, rfl⟩
        rw [hL9] at r0 HAT HLN
        have HLL : Hid (rk.length = L9) := hL9
        clear hrk hpk hck hL9
        go_upto_region 14 with fail
        clear p0 p1 p2 r0
        go_loopw [9, 52] (fun s9 i w3 => ∃ (j : Nat) (ao : Option Addr) (cc : Nat), j ≤ L9 ∧ s9 = .slice ao j cc ∧ i = .int .i64 j ∧ Hid (BufI (fun b => wr.heap.size ≤ b) w3 (.slice ao j cc) j (lf rk) ∧ Blw wr w3)) (fun _ i _ => L9 - (intOf i).toNat)
        case atStart => exact ⟨0, none, 0, Nat.zero_le _, rfl, rfl, ⟨Buf.nil _ _ _ _ _, Blw.refl _⟩⟩
        case round =>
          rename World => w3
          obtain ⟨j, ao, cc, hj, rfl, rfl, hE⟩ := hrel
          by_cases hjl : j < L9
          · have hjl' : (j : Int) < L9 := by omega
            have hL20 : L9 ≤ 20 := HLN.out
            obtain ⟨hB, hb⟩ := hE.out
            obtain ⟨bb, oo, ea, -, g0, g3⟩ := (HAT.out.blw hb).2 j hjl
            subst ea
            simp only [lf, la] at g0 g3
            have hba : Blw w3 (w3.alloc (.cells #[.int .i64 (nth rk j).1, .int .i64 (nth rk j).2] 39)) := (Blw.refl _).alloc _
            obtain ⟨q0, -⟩ := get2 (box2 w3 (.int .i64 (nth rk j).1) (.int .i64 (nth rk j).2) 39)
            have HBa : Hid (BufI (fun b => wr.heap.size ≤ b) (w3.alloc (.cells #[.int .i64 (nth rk j).1, .int .i64 (nth rk j).2] 39)) (.slice ao j cc) j (lf rk) ∧ Blw wr (w3.alloc (.cells #[.int .i64 (nth rk j).1, .int .i64 (nth rk j).2] 39))) := ⟨Buf.blw hB hba, hb.trans hba⟩
            clear hB hb hE hba HAT
            go_upto_region 16 with fail
            clear g0 g3
            generalize w3.alloc (.cells #[.int .i64 (nth rk j).1, .int .i64 (nth rk j).2] 39) = W3 at *
            have hal : Blw W3 (W3.alloc (.cells #[.int .i64 (nth rk j).1] 3)) := (Blw.refl _).alloc _
            obtain ⟨a9, c9, w9, hrun, hB9, hm9⟩ := BufI.append (Buf.blw HBa.out.1 hal) 1 (one_ints W3 (nth rk j).1) (by omega) 28
            have hs9 := (HBa.out.2.trans hal).size
            have HF9 : Hid (BufI (fun b => wr.heap.size ≤ b) w9 (.slice a9 (j + 1) c9) (j + 1) (lf rk) ∧ Blw wr w9) := by
              refine ⟨(hB9.mono (fun b hb => hb.1.elim id (fun e => by omega))).congr (fun i hi => ?_), Mod.blw (HBa.out.2.trans hal) hm9 (fun i e => HBa.out.1.2 i e)⟩
              simp only [ic, icat]
              by_cases e : i < j
              · rw [if_pos e]
              · rw [if_neg e]
                obtain rfl : i = j := by omega
                rfl
            clear hB9 hm9 hal hs9
            go_wp2_with (first | (at_builtin; refine wpList_append_run rfl _ _ 28 rfl _ _ rfl rfl hrun ?_))
            go_roundw
            case rel => exact ⟨j + 1, a9, c9, by omega, rfl, by go_num, HF9.out⟩
            case measure => simp [intOf]; omega
          · obtain rfl : j = L9 := by omega
            obtain ⟨hB, hb⟩ := hE.out
            have hsi := HSI.out.blw hb
            obtain ⟨p0, p1, p2⟩ := get3 hsi.bx
            obtain ⟨v0, v1, v2⟩ := get3 hsi.rs
            have v3 := hsi.rs.frozen 0
            have v4 := hsi.rs.frozen 1
            have v5 := hsi.rs.frozen 2
            have r0 := hsi.ow.n.cell hk8
            have r1 := hsi.ow.n.frozen 0
            have x1 := hsi.ow.n.lt
            have x2 := hsi.ow.f.lt
            have hg := HGZ.out
            have HO9 : Hid (OW lo g1 g2 (updN (Rx) 0 []) (updN Pj 0 none) (updN Cj 0 0) (w3.setCell ⟨g1, 0, none⟩ (.slice none 0 0))) := HSI.out.ow.upd1 (l := []) (a := none) (c := 0) hk8 HLX.out hb (Buf.nil _ _ _ _ _)
            have HM9 : Hid (Mod (fun b => b = g1 ∨ b = g2) w (w3.setCell ⟨g1, 0, none⟩ (.slice none 0 0))) := hsi.md.trans (Mod.setCell _ (p := ⟨g1, 0, none⟩) (Or.inl rfl) _)
            have ms : Mod (fun b => b = g1 ∨ b = g2) w3 (w3.setCell ⟨g1, 0, none⟩ (.slice none 0 0)) := Mod.setCell _ (p := ⟨g1, 0, none⟩) (Or.inl rfl) _
            have HBX : Hid (Row (w3.setCell ⟨g1, 0, none⟩ (.slice none 0 0)) w.heap.size 3 (t3 (.int .i64 n) (.slice (some ⟨g1, 0, none⟩) 8 8) (.slice (some ⟨g2, 0, none⟩) 8 8))) := hsi.bx.mod ms (fun e => by omega)
            have HRS : Hid (Row (w3.setCell ⟨g1, 0, none⟩ (.slice none 0 0)) (w.heap.size + 1) 3 (t3 (.int .i64 0) (.slice none 0 0) (.slice none 0 0))) := hsi.rs.mod ms (fun e => by omega)
            have HTY : Hid (∃ c, (w3.setCell ⟨g1, 0, none⟩ (.slice none 0 0)).heap[w.heap.size + 1]? = some (.cells c 25 (0, 0))) := hsi.ty.imp (fun c e => (ms.block _ hsi.rs.lt (fun e2 => by omega)).trans e)
            have HSZ : Hid ((w3.setCell ⟨g1, 0, none⟩ (.slice none 0 0)).heap.size = w3.heap.size ∧ wr.heap.size ≤ w3.heap.size) := ⟨World.size_setCell .., hb.size⟩
            obtain ⟨ao2, cap2, ee, hown⟩ := BufI.own hB (by have h5 := HLN.out; omega)
            simp only [Value.slice.injEq] at ee
            obtain ⟨rfl, -, rfl⟩ := ee
            have HOWN : Hid (IntsOwn (fun b => wr.heap.size ≤ b) (w3.setCell ⟨g1, 0, none⟩ (.slice none 0 0)) ao j (lf rk)) := hown.mod ms (fun b hb5 e => by have h6 := HGX.out; omega)
            clear hsi hB hb hE ms hown HSI x1 x2 v0 v1 v2 v3 v4 v5
            go_upto_region 19 with fail
            clear p0 p1 p2 r0 r1
            generalize w3.setCell ⟨g1, 0, none⟩ (.slice none 0 0) = w4 at *
            obtain ⟨p0, p1, p2⟩ := get3 HBX.out
            obtain ⟨v0, v1, v2⟩ := get3 HRS.out
            have v3 := HRS.out.frozen 0
            have v4 := HRS.out.frozen 1
            have v5 := HRS.out.frozen 2
            go_wp2_with fail
            have r9 := set3_2 (set3_1 (set3_0 HRS.out (.int .i64 n)) (.slice (some ⟨g1, 0, none⟩) 8 8)) (.slice (some ⟨g2, 0, none⟩) 8 8)
            obtain ⟨u0, u1, u2⟩ := get3 r9
            have mS := set3_mod (X := fun b => b = w.heap.size + 1) w4 rfl (.int .i64 n) (.slice (some ⟨g1, 0, none⟩) 8 8) (.slice (some ⟨g2, 0, none⟩) 8 8)
            refine bodyPost_ret (v := .tuple #[.agg #[.int .i64 n, .slice (some ⟨g1, 0, none⟩) 8 8, .slice (some ⟨g2, 0, none⟩) 8 8], .slice ao j cc]) (by rw [results_cell_tmp rfl]; simp [asAddr, Result.andThen, go_sem, u0, u1, u2]) rfl ?_
            obtain ⟨t1, t2⟩ := HTI.out
            have hll := HLL.out
            have hgx := HGX.out
            have hsz := HSZ.out
            refine ⟨_, _, _, rfl, by rw [t1, List.length_map]; exact hll.symm, ?_, ⟨_, _, by rw [t2]; exact HO9.out.modT HTY.out mS (by have h5 := HGX.out; omega) (by have h5 := HGX.out; omega)⟩, HM9.out.tail2 mS (fun i e => Or.inr (by omega))⟩
            · rw [t1]
              refine (((HOWN.out.mod mS (fun b hb5 e => by omega)).congr (fun i hi => ?_)).mono (fun b hb5 => ?_)).at
              · rw [gi_fst]; rfl
              · omega
  · obtain ⟨kn, hkn⟩ : ∃ kn : Nat, n % 8 = (kn : Int) := ⟨(n % 8).toNat, by omega⟩
    have hkn8 : kn < 8 := by omega
    have hkni : (kn : Int) < 8 := by omega
    have hk0 : ((kn : Int) == 0) = false := by simp; omega
    have hnk : nearK n = kn := by unfold nearK; omega
    have e3 : Int.tmod n 8 = (kn : Int) := by rw [Int.tmod_eq_emod_of_nonneg n0, hkn]
    have HK : Hid (nearK n = kn ∧ ¬ n % 8 = 0) := ⟨hnk, hm⟩
    clear hnk hkn hm
    go_enter Try.func54, Try.ntmps54
    go_upto_region 1 with fail
    try simp only [hWa, hW0, hsa]
    obtain ⟨a0, a1, a2⟩ := get3 HRA.out
    have a3 := HRA.out.frozen 0
    clear hWa hW0 hsa HRA
    go_upto_region 2 with fail
    clear a0 a1 a2 a3 hwr hn
    generalize W0.setCell ⟨w.heap.size, 0, none⟩ (.int .i64 n) = w1 at *
    have HSI : Hid (SI lo g1 g2 w.heap.size n R P C w w1) := HSI0.out
    have HTR : Hid (TR [] R) := HTR0.out
    have HNR : Hid (near1 n R = R) := by unfold near1; exact if_neg HK.out.2
    have HLX : Hid (lo ≤ w1.heap.size) := by have h5 := HGZ.out; have h6 := HSZ0.out; show lo ≤ _; omega
    have HGX : Hid (g1 < w.heap.size ∧ g2 < w.heap.size ∧ w.heap.size + 1 + 1 ≤ w1.heap.size) := ⟨HGZ.out.1, HGZ.out.2.1, by have h6 := HSZ0.out; omega⟩
    clear HSI0 HSZ0
    have hk8 : kn < 8 := by omega
    have HLN : Hid ((R (kn)).length ≤ 20) := HTR.out.rowlen (by omega)
    obtain ⟨p0, p1, p2⟩ := get3 HSI.out.bx
    have r0 := HSI.out.ow.n.cell hk8
    have HAT : Hid (UndosAt (fun b => P (kn) = some ⟨b, 0, none⟩) w1 (P (kn)) (R (kn)).length (lf (R (kn))) (la (R (kn)))) := HSI.out.ow.at (k := kn) (by omega) (by have h5 := HLN.out; omega)
    have HTI : Hid (tickIds n R = (R (kn)).map Prod.fst ∧ tickR n R = updN (R) kn []) := by unfold tickIds tickR; rw [HNR.out, HK.out.1]; exact ⟨rfl, rfl⟩
    obtain ⟨rk, hrk⟩ : ∃ x, R (kn) = x := ⟨_, rfl⟩
    rw [hrk] at HAT HTI HLN r0
    obtain ⟨pk, hpk⟩ : ∃ x, P (kn) = x := ⟨_, rfl⟩
    rw [hpk] at r0 HAT
    obtain ⟨ck, hck⟩ : ∃ x, C (kn) = x := ⟨_, rfl⟩
    rw [hck] at r0
    obtain ⟨L9, hL9⟩ : ∃ x, rk.length = x := ⟨_, rfl⟩
    rw [hL9] at r0 HAT HLN
    have HLL : Hid (rk.length = L9) := hL9
    clear hrk hpk hck hL9
    go_upto_region 14 with fail
    clear p0 p1 p2 r0
    go_loopw [9, 52] (fun s9 i w3 => ∃ (j : Nat) (ao : Option Addr) (cc : Nat), j ≤ L9 ∧ s9 = .slice ao j cc ∧ i = .int .i64 j ∧ Hid (BufI (fun b => w1.heap.size ≤ b) w3 (.slice ao j cc) j (lf rk) ∧ Blw w1 w3)) (fun _ i _ => L9 - (intOf i).toNat)
    case atStart => exact ⟨0, none, 0, Nat.zero_le _, rfl, rfl, ⟨Buf.nil _ _ _ _ _, Blw.refl _⟩⟩
    case round =>
      rename World => w3
      obtain ⟨j, ao, cc, hj, rfl, rfl, hE⟩ := hrel
      by_cases hjl : j < L9
      · have hjl' : (j : Int) < L9 := by omega
        have hL20 : L9 ≤ 20 := HLN.out
        obtain ⟨hB, hb⟩ := hE.out
        obtain ⟨bb, oo, ea, -, g0, g3⟩ := (HAT.out.blw hb).2 j hjl
        subst ea
        simp only [lf, la] at g0 g3
        have hba : Blw w3 (w3.alloc (.cells #[.int .i64 (nth rk j).1, .int .i64 (nth rk j).2] 39)) := (Blw.refl _).alloc _
        obtain ⟨q0, -⟩ := get2 (box2 w3 (.int .i64 (nth rk j).1) (.int .i64 (nth rk j).2) 39)
        have HBa : Hid (BufI (fun b => w1.heap.size ≤ b) (w3.alloc (.cells #[.int .i64 (nth rk j).1, .int .i64 (nth rk j).2] 39)) (.slice ao j cc) j (lf rk) ∧ Blw w1 (w3.alloc (.cells #[.int .i64 (nth rk j).1, .int .i64 (nth rk j).2] 39))) := ⟨Buf.blw hB hba, hb.trans hba⟩
        clear hB hb hE hba HAT
        go_upto_region 16 with fail
        clear g0 g3
        generalize w3.alloc (.cells #[.int .i64 (nth rk j).1, .int .i64 (nth rk j).2] 39) = W3 at *
        have hal : Blw W3 (W3.alloc (.cells #[.int .i64 (nth rk j).1] 3)) := (Blw.refl _).alloc _
        obtain ⟨a9, c9, w9, hrun, hB9, hm9⟩ := BufI.append (Buf.blw HBa.out.1 hal) 1 (one_ints W3 (nth rk j).1) (by omega) 28
        have hs9 := (HBa.out.2.trans hal).size
        have HF9 : Hid (BufI (fun b => w1.heap.size ≤ b) w9 (.slice a9 (j + 1) c9) (j + 1) (lf rk) ∧ Blw w1 w9) := by
          refine ⟨(hB9.mono (fun b hb => hb.1.elim id (fun e => by omega))).congr (fun i hi => ?_), Mod.blw (HBa.out.2.trans hal) hm9 (fun i e => HBa.out.1.2 i e)⟩
          simp only [ic, icat]
          by_cases e : i < j
          · rw [if_pos e]
          · rw [if_neg e]
            obtain rfl : i = j := by omega
            rfl
        clear hB9 hm9 hal hs9
        go_wp2_with (first | (at_builtin; refine wpList_append_run rfl _ _ 28 rfl _ _ rfl rfl hrun ?_))
        go_roundw
        case rel => exact ⟨j + 1, a9, c9, by omega, rfl, by go_num, HF9.out⟩
        case measure => simp [intOf]; omega
      · obtain rfl : j = L9 := by omega
        obtain ⟨hB, hb⟩ := hE.out
        have hsi := HSI.out.blw hb
        obtain ⟨p0, p1, p2⟩ := get3 hsi.bx
        obtain ⟨v0, v1, v2⟩ := get3 hsi.rs
        have v3 := hsi.rs.frozen 0
        have v4 := hsi.rs.frozen 1
        have v5 := hsi.rs.frozen 2
        have r0 := hsi.ow.n.cell hk8
        have r1 := hsi.ow.n.frozen kn
        have x1 := hsi.ow.n.lt
        have x2 := hsi.ow.f.lt
        have hg := HGZ.out
        have HO9 : Hid (OW lo g1 g2 (updN (R) kn []) (updN P kn none) (updN C kn 0) (w3.setCell ⟨g1, kn, none⟩ (.slice none 0 0))) := HSI.out.ow.upd1 (l := []) (a := none) (c := 0) hk8 HLX.out hb (Buf.nil _ _ _ _ _)
        have HM9 : Hid (Mod (fun b => b = g1 ∨ b = g2) w (w3.setCell ⟨g1, kn, none⟩ (.slice none 0 0))) := hsi.md.trans (Mod.setCell _ (p := ⟨g1, kn, none⟩) (Or.inl rfl) _)
        have ms : Mod (fun b => b = g1 ∨ b = g2) w3 (w3.setCell ⟨g1, kn, none⟩ (.slice none 0 0)) := Mod.setCell _ (p := ⟨g1, kn, none⟩) (Or.inl rfl) _
        have HBX : Hid (Row (w3.setCell ⟨g1, kn, none⟩ (.slice none 0 0)) w.heap.size 3 (t3 (.int .i64 n) (.slice (some ⟨g1, 0, none⟩) 8 8) (.slice (some ⟨g2, 0, none⟩) 8 8))) := hsi.bx.mod ms (fun e => by omega)
        have HRS : Hid (Row (w3.setCell ⟨g1, kn, none⟩ (.slice none 0 0)) (w.heap.size + 1) 3 (t3 (.int .i64 0) (.slice none 0 0) (.slice none 0 0))) := hsi.rs.mod ms (fun e => by omega)
        have HTY : Hid (∃ c, (w3.setCell ⟨g1, kn, none⟩ (.slice none 0 0)).heap[w.heap.size + 1]? = some (.cells c 25 (0, 0))) := hsi.ty.imp (fun c e => (ms.block _ hsi.rs.lt (fun e2 => by omega)).trans e)
        have HSZ : Hid ((w3.setCell ⟨g1, kn, none⟩ (.slice none 0 0)).heap.size = w3.heap.size ∧ w1.heap.size ≤ w3.heap.size) := ⟨World.size_setCell .., hb.size⟩
        obtain ⟨ao2, cap2, ee, hown⟩ := BufI.own hB (by have h5 := HLN.out; omega)
        simp only [Value.slice.injEq] at ee
        obtain ⟨rfl, -, rfl⟩ := ee
        have HOWN : Hid (IntsOwn (fun b => w1.heap.size ≤ b) (w3.setCell ⟨g1, kn, none⟩ (.slice none 0 0)) ao j (lf rk)) := hown.mod ms (fun b hb5 e => by have h6 := HGX.out; omega)
        clear hsi hB hb hE ms hown HSI x1 x2 v0 v1 v2 v3 v4 v5
        go_upto_region 19 with fail
        clear p0 p1 p2 r0 r1
        generalize w3.setCell ⟨g1, kn, none⟩ (.slice none 0 0) = w4 at *
        obtain ⟨p0, p1, p2⟩ := get3 HBX.out
        obtain ⟨v0, v1, v2⟩ := get3 HRS.out
        have v3 := HRS.out.frozen 0
        have v4 := HRS.out.frozen 1
        have v5 := HRS.out.frozen 2
        go_wp2_with fail
        have r9 := set3_2 (set3_1 (set3_0 HRS.out (.int .i64 n)) (.slice (some ⟨g1, 0, none⟩) 8 8)) (.slice (some ⟨g2, 0, none⟩) 8 8)
        obtain ⟨u0, u1, u2⟩ := get3 r9
        have mS := set3_mod (X := fun b => b = w.heap.size + 1) w4 rfl (.int .i64 n) (.slice (some ⟨g1, 0, none⟩) 8 8) (.slice (some ⟨g2, 0, none⟩) 8 8)
        refine bodyPost_ret (v := .tuple #[.agg #[.int .i64 n, .slice (some ⟨g1, 0, none⟩) 8 8, .slice (some ⟨g2, 0, none⟩) 8 8], .slice ao j cc]) (by rw [results_cell_tmp rfl]; simp [asAddr, Result.andThen, go_sem, u0, u1, u2]) rfl ?_
        obtain ⟨t1, t2⟩ := HTI.out
        have hll := HLL.out
        have hgx := HGX.out
        have hsz := HSZ.out
        refine ⟨_, _, _, rfl, by rw [t1, List.length_map]; exact hll.symm, ?_, ⟨_, _, by rw [t2]; exact HO9.out.modT HTY.out mS (by have h5 := HGX.out; omega) (by have h5 := HGX.out; omega)⟩, HM9.out.tail2 mS (fun i e => Or.inr (by omega))⟩
        · rw [t1]
          refine (((HOWN.out.mod mS (fun b hb5 e => by omega)).congr (fun i hi => ?_)).mono (fun b hb5 => ?_)).at
          · rw [gi_fst]; rfl
          · omega
end Go.Proofs.Ytkmkidahaagbpaa
