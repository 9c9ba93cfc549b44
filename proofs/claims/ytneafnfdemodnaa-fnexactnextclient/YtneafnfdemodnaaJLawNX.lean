/- The law on NextClient. -/
import Derived.Test.YtneafnfdemodnaaJoin2
namespace Go.Proofs.Ytneafnfdemodnaa
open Go.RowKit
set_option linter.unusedSimpArgs false
set_option linter.unusedVariables false
set_option maxRecDepth 10000 in
set_option maxHeartbeats 6400000 in
theorem lawNX (ap : Option Addr) (np cp : Nat) (F : Nat → Nat → Int) (w : World) (hp : KAt 3 (fun x => x < w.heap.size) w ap np F) : Calls Try.prog 4 #[.slice ap np cp] w fun e w' => e = .returned (.bool true) ∧ Blw w w' := by
  have HB : Hid (Blw w w) := Blw.refl w
  have hnp := hp.1
  have HP : Hid (St (fun x => x < w.heap.size) (fun W => KAt 3 (fun x => x < w.heap.size) W ap np F) w) := KAt.st hp (fun x hx => hx)
  clear hp
  go_enter Try.func4, Try.ntmps4
  go_wp2_with fail
  refine (szCli_any ap cp np 1048576 _ hnp (by omega) (by omega)).mono ?_
  rintro e w1 ⟨r1, rfl, hr, hb⟩
  replace HP : Hid (St (fun x => x < w.heap.size) (fun W => KAt 3 (fun x => x < w.heap.size) W ap np F) w1) := HP.out.blw hb
  replace HB : Hid (Blw w w1) := HB.out.trans hb
  clear hb
  rcases hr with rfl | ⟨q0, q1⟩
  · go_wp2
    go_ret
    exact ⟨rfl, HB.out⟩
  have hr0 : ¬ r1 < 0 := by omega
  have hnp2 : np ≤ 1048576 := by omega
  go_wp2_with fail
  refine (toCli_any ap cp np F _ _ hnp2 HP.out.out).mono ?_
  rintro e w2 ⟨rfl, row, hb⟩
  clear hr0
  have hlt := row.lt
  have h2P : KAt 3 (fun x => x < w2.heap.size) w2 (some ⟨w1.heap.size, 0, none⟩) np F := (show KOwn 3 (fun x => x < w2.heap.size) w2 (some ⟨w1.heap.size, 0, none⟩) np F from ⟨by omega, fun _ => ⟨_, hlt, rfl, row⟩⟩).at
  replace HP : Hid (St (fun x => x < w.heap.size) (fun W => KAt 3 (fun x => x < w.heap.size) W ap np F) w2) := HP.out.blw hb
  replace HB : Hid (Blw w w2) := HB.out.trans hb
  have H2P : Hid (St (fun x => x < w2.heap.size) (fun W => KAt 3 (fun x => x < w2.heap.size) W (some ⟨w1.heap.size, 0, none⟩) np F) w2) := KAt.st h2P (fun x hx => hx)
  clear hb row hlt h2P
  go_wp2_with fail
  refine (specNext_any (some ⟨w1.heap.size, 0, none⟩) np np F _ _ H2P.out.out).mono ?_
  rintro e w3 ⟨x3, b3, rfl, ho, hb⟩
  clear H2P
  have HO3 : Hid (ncOut np F x3 b3) := ho
  replace HP : Hid (St (fun x => x < w.heap.size) (fun W => KAt 3 (fun x => x < w.heap.size) W ap np F) w3) := HP.out.blw hb
  replace HB : Hid (Blw w w3) := HB.out.trans hb
  clear hb ho
  have HN0 : Hid (w.heap.size ≤ w3.heap.size) := HB.out.size
  go_wp2_with fail
  refine (toCli_any ap cp np F _ _ hnp2 HP.out.out).mono ?_
  rintro e w4 ⟨rfl, row, hb⟩
  have hlt := row.lt
  have HN1 : Hid (w3.heap.size ≤ w3.heap.size ∧ w3.heap.size < w4.heap.size) := ⟨by have hbo := HB.out.size; have o0 := HN0.out; omega, hlt⟩
  have h4P : KOwn 3 (fun x => w3.heap.size ≤ x ∧ x < w4.heap.size) w4 (some ⟨w3.heap.size, 0, none⟩) np F := ⟨by omega, fun _ => ⟨_, HN1.out, rfl, row⟩⟩
  replace HP : Hid (St (fun x => x < w.heap.size) (fun W => KAt 3 (fun x => x < w.heap.size) W ap np F) w4) := HP.out.blw hb
  replace HB : Hid (Blw w w4) := HB.out.trans hb
  have H4P : Hid (St (fun x => w3.heap.size ≤ x ∧ x < w4.heap.size) (fun W => KOwn 3 (fun x => w3.heap.size ≤ x ∧ x < w4.heap.size) W (some ⟨w3.heap.size, 0, none⟩) np F) w4) := KOwn.st h4P (fun x hx => hx.2)
  clear hb row hlt h4P
  go_wp2_with fail
  refine (implNext_any (some ⟨w3.heap.size, 0, none⟩) np np F _ _ (H4P.out.out.at)).mono ?_
  rintro e w5 ⟨x5, b5, rfl, ho, hb⟩
  obtain ⟨ex, eb⟩ := ncOut_same ho HO3.out
  subst ex eb
  have hz := hb.size
  have HN2 : Hid (w4.heap.size ≤ w4.heap.size ∧ w4.heap.size ≤ w5.heap.size) := by have hbo := HB.out.size; have o0 := HN0.out; have o1 := HN1.out; exact ⟨by omega, by omega⟩
  replace HP : Hid (St (fun x => x < w.heap.size) (fun W => KAt 3 (fun x => x < w.heap.size) W ap np F) w5) := HP.out.blw hb
  replace H4P : Hid (St (fun x => w3.heap.size ≤ x ∧ x < w4.heap.size) (fun W => KOwn 3 (fun x => w3.heap.size ≤ x ∧ x < w4.heap.size) W (some ⟨w3.heap.size, 0, none⟩) np F) w5) := H4P.out.blw hb
  replace HB : Hid (Blw w w5) := HB.out.trans hb
  clear hb ho hz
  have hnx : (x5 != x5) = false := by simp
  have hne : (b5 != b5) = false := by simp
  go_wp2_with fail
  refine (toCli_any ap cp np F _ _ hnp2 HP.out.out).mono ?_
  rintro e w6 ⟨rfl, row, hb⟩
  have hlt := row.lt
  have C6 : Hid (KAt 3 (fun x => x < w6.heap.size) w6 (some ⟨w5.heap.size, 0, none⟩) np F) := (show KOwn 3 (fun x => x < w6.heap.size) w6 (some ⟨w5.heap.size, 0, none⟩) np F from ⟨by omega, fun _ => ⟨_, hlt, rfl, row⟩⟩).at
  replace HP : Hid (St (fun x => x < w.heap.size) (fun W => KAt 3 (fun x => x < w.heap.size) W ap np F) w6) := HP.out.blw hb
  replace H4P : Hid (St (fun x => w3.heap.size ≤ x ∧ x < w4.heap.size) (fun W => KOwn 3 (fun x => w3.heap.size ≤ x ∧ x < w4.heap.size) W (some ⟨w3.heap.size, 0, none⟩) np F) w6) := H4P.out.blw hb
  replace HB : Hid (Blw w w6) := HB.out.trans hb
  clear hb row hlt
  go_wp2_with fail
  refine (eqCli_same _ _ _ _ np F _ (H4P.out.out.at) C6.out).mono ?_
  rintro e w7 ⟨rfl, hb⟩
  replace HP : Hid (St (fun x => x < w.heap.size) (fun W => KAt 3 (fun x => x < w.heap.size) W ap np F) w7) := HP.out.blw hb
  replace H4P : Hid (St (fun x => w3.heap.size ≤ x ∧ x < w4.heap.size) (fun W => KOwn 3 (fun x => w3.heap.size ≤ x ∧ x < w4.heap.size) W (some ⟨w3.heap.size, 0, none⟩) np F) w7) := H4P.out.blw hb
  replace HB : Hid (Blw w w7) := HB.out.trans hb
  clear hb C6
  go_wp2
  go_ret
  exact ⟨rfl, HB.out⟩
end Go.Proofs.Ytneafnfdemodnaa
