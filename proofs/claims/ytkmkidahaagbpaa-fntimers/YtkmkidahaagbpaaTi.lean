/- A tick of the program. -/
import Derived.Test.YtkmkidahaagbpaaRn
import Derived.Test.YtkmkidahaagbpaaEat
namespace Go.Proofs.Ytkmkidahaagbpaa
open Go.RowKit
set_option linter.unusedSimpArgs false
set_option linter.unusedVariables false
theorem HW.setNow {lo z : Nat} {now : Int} {R : Rws} {P : Nat → Option Addr} {C : Nat → Nat} {w : World} (h : HW lo z now R P C w) (n : Int) : HW lo z n R P C (w.setCell ⟨z, 0, none⟩ (.int .i64 n)) := by
  have ms : Mod (fun b => b = z) w (w.setCell ⟨z, 0, none⟩ (.int .i64 n)) := Mod.setCell (X := fun b => b = z) _ (p := ⟨z, 0, none⟩) rfl _
  refine ⟨(h.box.set 0 (.int .i64 n)).congr (fun i hi => ?_), fun k hk => (h.buf k hk).mod ms (fun b hb e => (h.lo k b hk hb).2 e), h.lo, h.dis⟩
  unfold hcell
  by_cases e : i = 0
  · rw [if_pos e, if_pos e]
  · rw [if_neg e, if_neg e, if_neg e]
theorem updN_none {P : Nat → Option Addr} {k j b : Nat} (e : updN P k none j = some ⟨b, 0, none⟩) : j ≠ k ∧ P j = some ⟨b, 0, none⟩ := by
  unfold updN at e
  split at e
  · cases e
  · rename_i h; exact ⟨h, e⟩
def TickPost (lo z : Nat) (n : Int) (R : Rws) (P : Nat → Option Addr) (w : World) (e : Ending) (w' : World) : Prop :=
  ∃ ao c m, e = .returned (.slice ao m c) ∧ Hid (m = (tickIds n R).length ∧ IntsAt (fun b => w.heap.size ≤ b) w' ao m (gi (tickIds n R)) ∧ (∃ P' C', HW lo z n (tickR n R) P' C' w' ∧ ∀ j b, j < 16 → P' j = some ⟨b, 0, none⟩ → HX z P b ∨ w.heap.size ≤ b) ∧ Mod (HX z P) w w')
set_option maxRecDepth 10000 in
set_option maxHeartbeats 3200000 in
theorem tick_any (lo z : Nat) (now : Int) (R : Rws) (P : Nat → Option Addr) (C : Nat → Nat) (w : World) (h : HW lo z now R P C w) (hlo : lo ≤ w.heap.size) (hT : TR [] R) (h0 : 0 ≤ now) (h1 : now ≤ 1000) :
    Calls Try.prog 50 #[.pointer (some ⟨z, 0, none⟩)] w (TickPost lo z (now + 1) R P w) := by
  have hwr : IntKind.i64.wrap (now + 1) = now + 1 := by rw [IntKind.wrap_i64]; omega
  have n0 : 0 ≤ now + 1 := by omega
  have n1 : now + 1 ≤ 1001 := by omega
  obtain ⟨n, hn⟩ : ∃ n, now + 1 = n := ⟨_, rfl⟩
  rw [hn] at hwr n0 n1 ⊢
  have c0 := h.now0
  have f0 := h.box.frozen 0
  have H1 : Hid (HW lo z n R P C (w.setCell ⟨z, 0, none⟩ (.int .i64 n)) ∧ Mod (HX z P) w (w.setCell ⟨z, 0, none⟩ (.int .i64 n))) := ⟨h.setNow n, Mod.setCell _ (p := ⟨z, 0, none⟩) (Or.inl rfl) _⟩
  have HZW : Hid (z < w.heap.size ∧ lo ≤ w.heap.size) := ⟨h.box.lt, hlo⟩
  have c1 := H1.out.1.now0
  have HSZ0 : Hid ((w.setCell ⟨z, 0, none⟩ (.int .i64 n)).heap.size = w.heap.size) := World.size_setCell ..
  have HTR0 : Hid (TR [] R) := hT
  clear h hlo h0 h1 hT
  by_cases hm : n % 8 = 0
  · obtain ⟨kk, hkk⟩ : ∃ kk : Nat, n / 8 % 8 = (kk : Int) := ⟨(n / 8 % 8).toNat, by omega⟩
    have hk8 : kk < 8 := by omega
    have hfk : farK n = 8 + kk := by unfold farK; omega
    have hnk : nearK n = 0 := by unfold nearK; omega
    have e3 : Int.tmod n 8 = 0 := by rw [Int.tmod_eq_emod_of_nonneg n0]; exact hm
    have e4 : Int.tdiv n 8 = n / 8 := Int.tdiv_eq_ediv_of_nonneg n0
    have e5 : Int.tmod (n / 8) 8 = (kk : Int) := by rw [Int.tmod_eq_emod_of_nonneg (by omega), hkk]
    have HK : Hid (farK n = 8 + kk ∧ nearK n = 0 ∧ n % 8 = 0) := ⟨hfk, hnk, hm⟩
    clear hfk hnk hkk hm
    go_enter Try.func50, Try.ntmps50
    go_upto_region 2 with fail
    clear c0 f0 hwr
    generalize w.setCell ⟨z, 0, none⟩ (.int .i64 n) = w1 at *
    clear hn
    have HEM : Hid (Calls Try.prog 79 #[.pointer (some ⟨z, 0, none⟩), .int .i64 (8 + (kk : Int))] w1 fun e w' => e = .returned (.slice (P (8 + kk)) (R (8 + kk)).length (C (8 + kk))) ∧ w' = w1.setCell ⟨z, 1 + (8 + kk), none⟩ (.slice none 0 0)) := by
      have h5 := emptyRow_any lo z n R P C (8 + kk) w1 H1.out.1 (by omega)
      rwa [show ((8 + kk : Nat) : Int) = 8 + (kk : Int) by omega] at h5
    have hlt1 : lo ≤ w1.heap.size := by have h5 := HSZ0.out; have h6 := HZW.out; omega
    have HW2 : Hid (HW lo z n (updN R (8 + kk) []) (updN P (8 + kk) none) (updN C (8 + kk) 0) (w1.setCell ⟨z, 1 + (8 + kk), none⟩ (.slice none 0 0))) := H1.out.1.empty (by omega) hlt1
    have HLN2 : Hid ((R (8 + kk)).length ≤ 20) := HTR0.out.rowlen (by omega)
    have HAT2 : Hid (UndosAt (fun b => P (8 + kk) = some ⟨b, 0, none⟩) (w1.setCell ⟨z, 1 + (8 + kk), none⟩ (.slice none 0 0)) (P (8 + kk)) (R (8 + kk)).length (lf (R (8 + kk))) (la (R (8 + kk)))) := (H1.out.1.at (by omega) (by have h5 := HLN2.out; omega)).mod (Mod.setCell (X := fun b => b = z) _ (p := ⟨z, 1 + (8 + kk), none⟩) rfl _) (fun b hb e => (H1.out.1.lo (8 + kk) b (by omega) hb).2 e)
    have HM2 : Hid (Mod (HX z P) w (w1.setCell ⟨z, 1 + (8 + kk), none⟩ (.slice none 0 0))) := H1.out.2.tail2 (Mod.setCell (X := fun b => b = z) _ (p := ⟨z, 1 + (8 + kk), none⟩) rfl _) (fun i e => Or.inl (Or.inl e))
    have HT2 : Hid (TR (R (8 + kk)) (updN R (8 + kk) [])) := HTR0.out.emp (by omega)
    have HNR2 : Hid (near1 n R = putL n (R (8 + kk)) (updN R (8 + kk) [])) := by have h5 := HK.out; show near1 n R = _; unfold near1; rw [if_pos h5.2.2, h5.1]
    have HSZ2 : Hid ((w1.setCell ⟨z, 1 + (8 + kk), none⟩ (.slice none 0 0)).heap.size = w.heap.size) := by have h5 := HSZ0.out; show _ = _; rw [World.size_setCell]; exact h5
    have HNO : Hid (∀ b, P (8 + kk) = some ⟨b, 0, none⟩ → ¬ HX z (updN P (8 + kk) none) b ∧ b < w.heap.size) := fun b e => ⟨fun hx => by
      rcases hx with e2 | ⟨j, hj, e2⟩
      · exact (H1.out.1.lo (8 + kk) b (by omega) e).2 e2
      · have h5 := updN_none e2
        exact H1.out.1.dis (8 + kk) j b (by omega) hj (fun q => h5.1 q.symm) e h5.2, by have h5 := H1.out.1.lt (k := 8 + kk) (by omega) e; have h6 := HSZ0.out; omega⟩
    have HXU : Hid (∀ b, HX z (updN P (8 + kk) none) b → HX z P b) := fun b hx => hx.elim Or.inl (fun ⟨j, hj, e2⟩ => Or.inr ⟨j, hj, (updN_none e2).2⟩)
    obtain ⟨l, hl⟩ : ∃ x, R (8 + kk) = x := ⟨_, rfl⟩
    rw [hl] at HEM HLN2 HAT2 HT2 HNR2
    obtain ⟨pa, hpa⟩ : ∃ x, P (8 + kk) = x := ⟨_, rfl⟩
    rw [hpa] at HEM HAT2 HNO
    obtain ⟨ca, hca⟩ : ∃ x, C (8 + kk) = x := ⟨_, rfl⟩
    rw [hca] at HEM
    obtain ⟨R1, hR1⟩ : ∃ x, updN R (8 + kk) [] = x := ⟨_, rfl⟩
    rw [hR1] at HW2 HT2 HNR2
    obtain ⟨P1, hP1⟩ : ∃ x, updN P (8 + kk) none = x := ⟨_, rfl⟩
    rw [hP1] at HW2 HNO HXU
    obtain ⟨C1, hC1⟩ : ∃ x, updN C (8 + kk) 0 = x := ⟨_, rfl⟩
    rw [hC1] at HW2
    obtain ⟨L, hL⟩ : ∃ x, l.length = x := ⟨_, rfl⟩
    rw [hL] at HEM HLN2 HAT2
    have HLl : Hid (l.length = L) := hL
    clear hl hpa hca hR1 hP1 hC1 hL hlt1
    generalize w1.setCell ⟨z, 1 + (8 + kk), none⟩ (.slice none 0 0) = w2 at *
    go_upto_region 4 with (first | (go_at_call 79; refine HEM.out.mono ?_; rintro e w' ⟨rfl, hw⟩; replace hw := hw.symm; subst hw) | fail)
    clear c1 e4 e5 HEM H1 HSZ0 HTR0
    have HI : Hid (HW lo z n (putL n (l.take 0) R1) P1 C1 w2 ∧ (∀ k b, k < 16 → P1 k = some ⟨b, 0, none⟩ → HX z P1 b ∨ w2.heap.size ≤ b) ∧ Mod (HX z P1) w2 w2) := ⟨HW2.out, fun k b hk e => Or.inl (Or.inr ⟨k, hk, e⟩), Mod.refl _ _⟩
    go_loopw [28] (fun i wr => ∃ (j : Nat) (Pj : Nat → Option Addr) (Cj : Nat → Nat), j ≤ L ∧ i = .int .i64 j ∧ Hid (HW lo z n (putL n (l.take j) R1) Pj Cj wr ∧ (∀ k b, k < 16 → Pj k = some ⟨b, 0, none⟩ → HX z P1 b ∨ w2.heap.size ≤ b) ∧ Mod (HX z P1) w2 wr)) (fun i _ => L - (intOf i).toNat)
    case atStart => exact ⟨0, P1, C1, Nat.zero_le _, rfl, HI.out⟩
    case round =>
      obtain ⟨j, Pj, Cj, hj, rfl, hI⟩ := hrel
      clear HI
      by_cases hlt : j < L
      · have hlt' : (j : Int) < L := by omega
        have hL20 : L ≤ 20 := HLN2.out
        obtain ⟨b, o, ea, -, g1, g2⟩ := (HAT2.out.mod hI.out.2.2 (fun b hb => (HNO.out b hb).1)).2 j hlt
        subst ea
        clear HAT2
        simp only [lf, la] at g1 g2
        have htj : TR (l.drop j) (putL n (l.take j) R1) := TR.putL (by rw [List.take_append_drop]; exact HT2.out)
        have hd : l.drop j = nth l j :: l.drop (j + 1) := by rw [nth_get (by have h5 := HLl.out; omega)]; exact List.drop_eq_getElem_cons (by have h5 := HLl.out; omega)
        rw [hd] at htj
        have hbx := htj.bd (nth l j) (by simp)
        have hsr := htj.sd (rowOf n (nth l j).2) (rowOf_lt _ _)
        have hlr := htj.rowlen (rowOf_lt n (nth l j).2)
        have hlw : lo ≤ wr.heap.size := by have h5 := HSZ2.out; have h6 := HZW.out; have h7 := hI.out.2.2.size; omega
        have HPU : Hid (∀ W, Blw wr W → Calls Try.prog 80 #[.pointer (some ⟨z, 0, none⟩), .agg #[.int .i64 (nth l j).1, .int .i64 (nth l j).2]] W fun e w'' => e = .returned (.tuple #[]) ∧ Hid ((∃ P' C', HW lo z n (put n (putL n (l.take j) R1) (nth l j)) P' C' w'' ∧ ∀ j b, j < 16 → P' j = some ⟨b, 0, none⟩ → HX z Pj b ∨ W.heap.size ≤ b) ∧ Mod (HX z Pj) W w'')) := fun W hb => (put_any lo z n _ Pj Cj (nth l j) W (hI.out.1.blw hb) (by have h5 := hb.size; omega) n0 (by omega) hbx.1 (by omega) hsr (by omega)).mono (fun e w'' h => ⟨h.1, h.2.1, h.2.2⟩)
        clear htj hd hbx hsr hlr
        go_wp2_with (first | (go_at_call 80; refine (HPU.out _ ((Blw.refl _).alloc _)).mono ?_; rintro e v7 ⟨rfl, hE7⟩) | fail)
        go_roundw
        case rel =>
          obtain ⟨⟨P', C', hW', hP'⟩, hM'⟩ := hE7.out
          have hs7 := hI.out.2.2.size
          have htk : l.take (j + 1) = l.take j ++ [nth l j] := by rw [nth_get (by have h5 := HLl.out; omega), List.take_append_getElem]
          refine ⟨j + 1, P', C', by omega, by go_num, by rw [htk, putL_snoc]; exact hW', fun k b hk e => ?_, (hI.out.2.2.trans (((Blw.refl wr).alloc _).mod _)).tail2 hM' (fun i hi => ?_)⟩
          · rcases hP' k b hk e with h5 | h5
            · rcases h5 with h6 | ⟨k2, hk2, h6⟩
              · exact Or.inl (Or.inl h6)
              · exact hI.out.2.1 k2 b hk2 h6
            · right; rw [World.size_alloc] at h5; omega
          · rcases hi with h6 | ⟨k2, hk2, h6⟩
            · exact Or.inl (Or.inl h6)
            · exact hI.out.2.1 k2 i hk2 h6
        case measure => simp [intOf]; omega
      · obtain rfl : j = L := by omega
        have hlL := HLl.out
        have htk : l.take j = l := by rw [← hlL]; exact List.take_length
        have hTR9 : TR [] (putL n l R1) := TR.putL (m := []) (by rw [List.append_nil]; exact HT2.out)
        have hI2 := hI.out
        rw [htk] at hI2
        have hs9 := hI2.2.2.size
        have hsz2 := HSZ2.out
        have HWX : Hid (HW lo z n (putL n l R1) Pj Cj wr) := hI2.1
        have HTR : Hid (TR [] (putL n l R1)) := hTR9
        have HNR : Hid (near1 n R = putL n l R1) := HNR2.out
        have HMX : Hid (Mod (HX z P) w wr) := HM2.out.tail2 hI2.2.2 (fun i hi => Or.inl (HXU.out i hi))
        have HLX : Hid (lo ≤ wr.heap.size) := by have h5 := HZW.out; show lo ≤ _; omega
        have HPX : Hid (∀ k b, k < 16 → Pj k = some ⟨b, 0, none⟩ → HX z P b ∨ w.heap.size ≤ b) := fun k b hk e => by
          rcases hI2.2.1 k b hk e with h5 | h5
          · exact Or.inl (HXU.out b h5)
          · right; omega
        clear hI2 hI hTR9 htk hlL hlt HT2 HNR2 HM2 HXU HNO HAT2 hs9 hsz2
        obtain ⟨Rx, hRx⟩ : ∃ x, putL n l R1 = x := ⟨_, rfl⟩
        rw [hRx] at HWX HTR HNR
        clear hRx HW2 HSZ2
        have hk16 : 0 < 16 := by omega
        have HLN : Hid ((Rx (0)).length ≤ 20) := HTR.out.rowlen hk16
        have hz0 := HWX.out.now0
        have HEM : Hid (Calls Try.prog 79 #[.pointer (some ⟨z, 0, none⟩), .int .i64 0] wr fun e w' => e = .returned (.slice (Pj (0)) (Rx (0)).length (Cj (0))) ∧ w' = wr.setCell ⟨z, 1 + 0, none⟩ (.slice none 0 0)) := emptyRow_any lo z n (Rx) Pj Cj 0 wr HWX.out hk16
        have HW9 : Hid (HW lo z n (updN (Rx) 0 []) (updN Pj 0 none) (updN Cj 0 0) (wr.setCell ⟨z, 1 + 0, none⟩ (.slice none 0 0))) := HWX.out.empty hk16 (HLX.out)
        have HAT : Hid (UndosAt (fun b => Pj (0) = some ⟨b, 0, none⟩) (wr.setCell ⟨z, 1 + 0, none⟩ (.slice none 0 0)) (Pj (0)) (Rx (0)).length (lf (Rx (0))) (la (Rx (0)))) := (HWX.out.at hk16 (by have h5 := HLN.out; omega)).mod (Mod.setCell (X := fun b => b = z) _ (p := ⟨z, 1 + 0, none⟩) rfl _) (fun b hb e => (HWX.out.lo 0 b hk16 hb).2 e)
        have HEA : Hid (Calls Try.prog 81 #[.slice (Pj (0)) (Rx (0)).length (Cj (0)), .func (.func 82) #[] #[]] (wr.setCell ⟨z, 1 + 0, none⟩ (.slice none 0 0)) fun e w' => e = .returned (.slice (some ⟨(wr.setCell ⟨z, 1 + 0, none⟩ (.slice none 0 0)).heap.size, 0, none⟩) (Rx (0)).length (Rx (0)).length) ∧ Hid (Row w' (wr.setCell ⟨z, 1 + 0, none⟩ (.slice none 0 0)).heap.size (Rx (0)).length (fun i => .int .i64 (lf (Rx (0)) i)) ∧ Blw (wr.setCell ⟨z, 1 + 0, none⟩ (.slice none 0 0)) w')) := eachT_any _ _ (Rx (0)) _ _ (by have h5 := HLN.out; omega) HAT.out
        have HSZ : Hid ((wr.setCell ⟨z, 1 + 0, none⟩ (.slice none 0 0)).heap.size = wr.heap.size) := World.size_setCell ..
        have HM9 : Hid (Mod (HX z P) w (wr.setCell ⟨z, 1 + 0, none⟩ (.slice none 0 0))) := HMX.out.tail2 (Mod.setCell (X := fun b => b = z) _ (p := ⟨z, 1 + 0, none⟩) rfl _) (fun i e => Or.inl (Or.inl e))
        have HTI : Hid (tickIds n R = (Rx (0)).map Prod.fst ∧ tickR n R = updN (Rx) 0 []) := by unfold tickIds tickR; rw [HNR.out, HK.out.2.1]; exact ⟨rfl, rfl⟩
        obtain ⟨rk, hrk⟩ : ∃ x, Rx (0) = x := ⟨_, rfl⟩
        rw [hrk] at HEM HEA HTI HLN
        obtain ⟨pk, hpk⟩ : ∃ x, Pj (0) = x := ⟨_, rfl⟩
        rw [hpk] at HEM HEA
        obtain ⟨ck, hck⟩ : ∃ x, Cj (0) = x := ⟨_, rfl⟩
        rw [hck] at HEM HEA
        obtain ⟨L9, hL9⟩ : ∃ x, rk.length = x := ⟨_, rfl⟩
        rw [hL9] at HEM HEA HLN
        generalize wr.setCell ⟨z, 1 + 0, none⟩ (.slice none 0 0) = w9 at *
        clear hrk hpk hck HAT HTR HMX
        have HLL : Hid (rk.length = L9) := hL9
        clear hL9
        go_wp2_with (first | (go_at_call 79; refine HEM.out.mono ?_; rintro e w' ⟨rfl, hw⟩; replace hw := hw.symm; subst hw) | (go_at_call 81; refine HEA.out.mono ?_; rintro e w10 ⟨rfl, hE⟩) | fail)
        go_ret
        obtain ⟨hr, hb⟩ := hE.out
        obtain ⟨t1, t2⟩ := HTI.out
        have hll := HLL.out
        have hlx := HLX.out
        have hsz := HSZ.out
        have hm9 := HM9.out
        have hs9 := hm9.size
        refine ⟨_, _, _, rfl, by rw [t1, List.length_map]; exact hll.symm, ?_, ⟨_, _, by rw [t2]; exact HW9.out.blw hb, fun j b hj e => ?_⟩, hm9.trans (hb.mod _)⟩
        · refine ⟨by have h5 := HLN.out; omega, fun i hi => ⟨_, _, rfl, by omega, ?_⟩⟩
          rw [hr.cell (by omega), t1, gi_fst]; simp only [Nat.zero_add, lf]
        · exact HPX.out j b hj (updN_none e).2
  · obtain ⟨kn, hkn⟩ : ∃ kn : Nat, n % 8 = (kn : Int) := ⟨(n % 8).toNat, by omega⟩
    have hk8 : kn < 8 := by omega
    have hk0 : ¬ (kn : Int) = 0 := by omega
    have hnk : nearK n = kn := by unfold nearK; omega
    have e3 : Int.tmod n 8 = (kn : Int) := by rw [Int.tmod_eq_emod_of_nonneg n0, hkn]
    have HK : Hid (nearK n = kn ∧ ¬ n % 8 = 0) := ⟨hnk, hm⟩
    clear hnk hkn hm
    go_enter Try.func50, Try.ntmps50
    go_upto_region 2 with fail
    clear c0 f0 hwr
    generalize w.setCell ⟨z, 0, none⟩ (.int .i64 n) = w1 at *
    clear hn
    have HWX : Hid (HW lo z n R P C w1) := H1.out.1
    have HTR : Hid (TR [] R) := HTR0.out
    have HNR : Hid (near1 n R = R) := by unfold near1; exact if_neg HK.out.2
    have HMX : Hid (Mod (HX z P) w w1) := H1.out.2
    have HLX : Hid (lo ≤ w1.heap.size) := by have h5 := HZW.out; have h6 := HSZ0.out; show lo ≤ _; omega
    clear H1 c1 HSZ0
    have hk16 : kn < 16 := by omega
    have HLN : Hid ((R (kn)).length ≤ 20) := HTR.out.rowlen hk16
    have hz0 := HWX.out.now0
    have HEM : Hid (Calls Try.prog 79 #[.pointer (some ⟨z, 0, none⟩), .int .i64 kn] w1 fun e w' => e = .returned (.slice (P (kn)) (R (kn)).length (C (kn))) ∧ w' = w1.setCell ⟨z, 1 + kn, none⟩ (.slice none 0 0)) := emptyRow_any lo z n (R) P C kn w1 HWX.out hk16
    have HW9 : Hid (HW lo z n (updN (R) kn []) (updN P kn none) (updN C kn 0) (w1.setCell ⟨z, 1 + kn, none⟩ (.slice none 0 0))) := HWX.out.empty hk16 (HLX.out)
    have HAT : Hid (UndosAt (fun b => P (kn) = some ⟨b, 0, none⟩) (w1.setCell ⟨z, 1 + kn, none⟩ (.slice none 0 0)) (P (kn)) (R (kn)).length (lf (R (kn))) (la (R (kn)))) := (HWX.out.at hk16 (by have h5 := HLN.out; omega)).mod (Mod.setCell (X := fun b => b = z) _ (p := ⟨z, 1 + kn, none⟩) rfl _) (fun b hb e => (HWX.out.lo kn b hk16 hb).2 e)
    have HEA : Hid (Calls Try.prog 81 #[.slice (P (kn)) (R (kn)).length (C (kn)), .func (.func 82) #[] #[]] (w1.setCell ⟨z, 1 + kn, none⟩ (.slice none 0 0)) fun e w' => e = .returned (.slice (some ⟨(w1.setCell ⟨z, 1 + kn, none⟩ (.slice none 0 0)).heap.size, 0, none⟩) (R (kn)).length (R (kn)).length) ∧ Hid (Row w' (w1.setCell ⟨z, 1 + kn, none⟩ (.slice none 0 0)).heap.size (R (kn)).length (fun i => .int .i64 (lf (R (kn)) i)) ∧ Blw (w1.setCell ⟨z, 1 + kn, none⟩ (.slice none 0 0)) w')) := eachT_any _ _ (R (kn)) _ _ (by have h5 := HLN.out; omega) HAT.out
    have HSZ : Hid ((w1.setCell ⟨z, 1 + kn, none⟩ (.slice none 0 0)).heap.size = w1.heap.size) := World.size_setCell ..
    have HM9 : Hid (Mod (HX z P) w (w1.setCell ⟨z, 1 + kn, none⟩ (.slice none 0 0))) := HMX.out.tail2 (Mod.setCell (X := fun b => b = z) _ (p := ⟨z, 1 + kn, none⟩) rfl _) (fun i e => Or.inl (Or.inl e))
    have HTI : Hid (tickIds n R = (R (kn)).map Prod.fst ∧ tickR n R = updN (R) kn []) := by unfold tickIds tickR; rw [HNR.out, HK.out.1]; exact ⟨rfl, rfl⟩
    obtain ⟨rk, hrk⟩ : ∃ x, R (kn) = x := ⟨_, rfl⟩
    rw [hrk] at HEM HEA HTI HLN
    obtain ⟨pk, hpk⟩ : ∃ x, P (kn) = x := ⟨_, rfl⟩
    rw [hpk] at HEM HEA
    obtain ⟨ck, hck⟩ : ∃ x, C (kn) = x := ⟨_, rfl⟩
    rw [hck] at HEM HEA
    obtain ⟨L9, hL9⟩ : ∃ x, rk.length = x := ⟨_, rfl⟩
    rw [hL9] at HEM HEA HLN
    generalize w1.setCell ⟨z, 1 + kn, none⟩ (.slice none 0 0) = w9 at *
    clear hrk hpk hck HAT HTR HMX
    have HLL : Hid (rk.length = L9) := hL9
    clear hL9
    go_wp2_with (first | (go_at_call 79; refine HEM.out.mono ?_; rintro e w' ⟨rfl, hw⟩; replace hw := hw.symm; subst hw) | (go_at_call 81; refine HEA.out.mono ?_; rintro e w10 ⟨rfl, hE⟩) | fail)
    go_ret
    obtain ⟨hr, hb⟩ := hE.out
    obtain ⟨t1, t2⟩ := HTI.out
    have hll := HLL.out
    have hlx := HLX.out
    have hsz := HSZ.out
    have hm9 := HM9.out
    have hs9 := hm9.size
    refine ⟨_, _, _, rfl, by rw [t1, List.length_map]; exact hll.symm, ?_, ⟨_, _, by rw [t2]; exact HW9.out.blw hb, fun j b hj e => ?_⟩, hm9.trans (hb.mod _)⟩
    · refine ⟨by have h5 := HLN.out; omega, fun i hi => ⟨_, _, rfl, by omega, ?_⟩⟩
      rw [hr.cell (by omega), t1, gi_fst]; simp only [Nat.zero_add, lf]
    · exact Or.inl (Or.inr ⟨j, hj, (updN_none e).2⟩)
end Go.Proofs.Ytkmkidahaagbpaa
