/- The law on GoodPairs. -/
import Derived.Test.YtglllnklcnlcjaaLawM
import Derived.Test.YtglllnklcnlcjaaGoodP
namespace Go.Proofs.Ytglllnklcnlcjaa
open Go.RowKit
set_option linter.unusedSimpArgs false
set_option linter.unusedVariables false
set_option maxRecDepth 10000 in
set_option maxHeartbeats 6400000 in
theorem lawGoodP (au : Option Addr) (nu cu : Nat) (f g : Nat → Int) (w : World) (hu : UndosAt (fun x => x < w.heap.size) w au nu f g) : Calls Try.prog 5 #[.slice au nu cu] w fun e w' => e = .returned (.bool true) ∧ Blw w w' := by
  have HB : Hid (Blw w w) := Blw.refl _
  have hnu := hu.1
  have HU : Hid (St (fun x => x < w.heap.size) (fun W => UndosAt (fun x => x < w.heap.size) W au nu f g) w) := UndosAt.st (hu.blw HB.out) (fun x hx => Nat.lt_of_lt_of_le hx HB.out.size)
  clear hu
  go_enter Try.func5, Try.ntmps5
  go_wp2_with fail
  refine (szUndoS_any au cu nu 1048576 _ hnu (by omega) (by omega)).mono ?_
  rintro e w1 ⟨r2, rfl, hr2, hb⟩
  replace HU : Hid (St (fun x => x < w.heap.size) (fun W => UndosAt (fun x => x < w.heap.size) W au nu f g) w1) := HU.out.blw hb
  replace HB : Hid (Blw w w1) := HB.out.trans hb
  clear hb
  rcases hr2 with rfl | ⟨q2, q3⟩
  · go_wp2
    go_ret
    exact ⟨rfl, HB.out⟩
  have hnu2 : nu ≤ 1048576 := by omega
  have hr0 : ¬ r2 < 0 := by omega
  clear q3
  go_wp2_with fail
  refine (toUndoS_any au cu nu f g _ _ hnu2 HU.out.out).mono ?_
  rintro e w2 ⟨rfl, row, hb⟩
  try clear hr0
  have hlt := row.lt
  try simp only [World.size_alloc] at hlt row
  have C2u : Hid (St (fun x => x < w2.heap.size) (fun W => UndosAt (fun x => x < w2.heap.size) W (some ⟨w1.heap.size, 0, none⟩) nu f g) w2) := UndosAt.st (row_pairs row (by omega) (X := fun x => x < w2.heap.size) hlt).at (fun x hx => hx)
  replace HU : Hid (St (fun x => x < w.heap.size) (fun W => UndosAt (fun x => x < w.heap.size) W au nu f g) w2) := HU.out.blw hb
  replace HB : Hid (Blw w w2) := HB.out.trans hb
  clear hb row hlt
  have HX : Hid (w.heap.size ≤ w2.heap.size) := by have h1 := HB.out.size; show _ ≤ _; omega
  go_wp2_with fail
  refine (specGoodP_any (some ⟨w1.heap.size, 0, none⟩) nu nu f g _ _ C2u.out.out).mono ?_
  rintro e w3 ⟨b3, rfl, ho, hb⟩
  clear C2u
  have hz := hb.size
  try simp only [World.size_alloc] at hz own
  have HN0 : Hid (w.heap.size ≤ w3.heap.size) := by have h1 := HB.out.size; show _ ≤ _; (try simp only [World.size_alloc] at h1); omega
  have HO3 : Hid (b3 = true ↔ goodP nu f g) := ho
  replace HU : Hid (St (fun x => x < w.heap.size) (fun W => UndosAt (fun x => x < w.heap.size) W au nu f g) w3) := HU.out.blw hb
  replace HB : Hid (Blw w w3) := HB.out.trans hb
  clear hb hz ho
  go_wp2_with fail
  refine (toUndoS_any au cu nu f g _ _ hnu2 HU.out.out).mono ?_
  rintro e w4 ⟨rfl, row, hb⟩
  try clear hr0
  have hlt := row.lt
  have hz := hb.size
  try simp only [World.size_alloc] at hz hlt row
  have HN1 : Hid (w3.heap.size ≤ w3.heap.size ∧ w3.heap.size < w4.heap.size) := ⟨by have o0 := HN0.out; omega, hlt⟩
  have H4u : Hid (St (fun x => w3.heap.size ≤ x ∧ x < w4.heap.size) (fun W => UndosOwn (fun x => w3.heap.size ≤ x ∧ x < w4.heap.size) W (some ⟨w3.heap.size, 0, none⟩) nu f g) w4) := UndosOwn.st (row_pairs row (by omega) HN1.out) (fun x hx => hx.2)
  replace HU : Hid (St (fun x => x < w.heap.size) (fun W => UndosAt (fun x => x < w.heap.size) W au nu f g) w4) := HU.out.blw hb
  replace HB : Hid (Blw w w4) := HB.out.trans hb
  clear hb row hz hlt
  go_wp2_with fail
  refine (implGoodP_any (some ⟨w3.heap.size, 0, none⟩) nu nu f g _ _ H4u.out.out.at).mono ?_
  rintro e w5 ⟨b5, rfl, ho, hb⟩
  have hz := hb.size
  try simp only [World.size_alloc] at hz own
  have HN2 : Hid (w4.heap.size ≤ w5.heap.size) := by have o0 := HN0.out; have o1 := HN1.out; show _ ≤ _; omega
  obtain rfl : b5 = b3 := by have h3 := HO3.out; cases b5 <;> cases b3 <;> simp_all
  replace HU : Hid (St (fun x => x < w.heap.size) (fun W => UndosAt (fun x => x < w.heap.size) W au nu f g) w5) := HU.out.blw hb
  replace H4u : Hid (St (fun x => w3.heap.size ≤ x ∧ x < w4.heap.size) (fun W => UndosOwn (fun x => w3.heap.size ≤ x ∧ x < w4.heap.size) W (some ⟨w3.heap.size, 0, none⟩) nu f g) w5) := H4u.out.blw hb
  replace HB : Hid (Blw w w5) := HB.out.trans hb
  clear hb hz ho
  have hne : (b5 != b5) = false := by simp
  go_wp2_with fail
  refine (toUndoS_any au cu nu f g _ _ hnu2 HU.out.out).mono ?_
  rintro e w6 ⟨rfl, row, hb⟩
  have hlt := row.lt
  try simp only [World.size_alloc] at hlt row
  have C6 : Hid (UndosAt (fun x => x < w6.heap.size) w6 (some ⟨w5.heap.size, 0, none⟩) nu f g) := (row_pairs row (by omega) (X := fun x => x < w6.heap.size) hlt).at
  replace HU : Hid (St (fun x => x < w.heap.size) (fun W => UndosAt (fun x => x < w.heap.size) W au nu f g) w6) := HU.out.blw hb
  replace H4u : Hid (St (fun x => w3.heap.size ≤ x ∧ x < w4.heap.size) (fun W => UndosOwn (fun x => w3.heap.size ≤ x ∧ x < w4.heap.size) W (some ⟨w3.heap.size, 0, none⟩) nu f g) w6) := H4u.out.blw hb
  replace HB : Hid (Blw w w6) := HB.out.trans hb
  clear hb row hlt
  go_wp2_with fail
  refine (eqUndoS_same _ _ _ _ nu f g _ H4u.out.out.at C6.out).mono ?_
  rintro e w7 ⟨rfl, hb⟩
  replace HU : Hid (St (fun x => x < w.heap.size) (fun W => UndosAt (fun x => x < w.heap.size) W au nu f g) w7) := HU.out.blw hb
  replace H4u : Hid (St (fun x => w3.heap.size ≤ x ∧ x < w4.heap.size) (fun W => UndosOwn (fun x => w3.heap.size ≤ x ∧ x < w4.heap.size) W (some ⟨w3.heap.size, 0, none⟩) nu f g) w7) := H4u.out.blw hb
  replace HB : Hid (Blw w w7) := HB.out.trans hb
  clear hb C6
  go_wp2
  go_ret
  exact ⟨rfl, HB.out⟩
end Go.Proofs.Ytglllnklcnlcjaa
