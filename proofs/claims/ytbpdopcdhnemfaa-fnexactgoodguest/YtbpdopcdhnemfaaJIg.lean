/- The program's GoodProgram and GoodGuest. -/
import Derived.Test.YtbpdopcdhnemfaaJoin4
namespace Go.Proofs.Ytbpdopcdhnemfaa
open Go.RowKit
set_option linter.unusedSimpArgs false
set_option linter.unusedVariables false
set_option maxHeartbeats 1600000 in
theorem implGoodP_any (ao : Option Addr) (cp n : Nat) (F : Nat → Nat → Int) (Y : Nat → Prop) (w : World) (h : KAt 3 Y w ao n F) :
    Calls Try.prog 53 #[.slice ao n cp] w fun e w' => ∃ r, e = .returned (.bool r) ∧ (r = true ↔ progOK n F) ∧ Blw w w' := by
  have H : Hid (KAt 3 Y w ao n F) := h
  clear h
  go_enter Try.func53, Try.ntmps53
  go_wp2_with fail
  refine (holdProgram_any ao cp n F Y _ H.out).mono ?_
  rintro e w1 ⟨⟨z, hp, rfl, hr, hz⟩ | ⟨hp, rfl⟩, hb⟩
  · have HP : Hid (progOK n F) := hp
    have HB : Hid (Blw w w1) := hb
    clear hp hb hr hz
    go_wp2
    go_ret
    exact ⟨true, rfl, iff_t HP.out, HB.out⟩
  · have HP : Hid (¬ progOK n F) := hp
    have HB : Hid (Blw w w1) := hb
    clear hp hb
    go_wp2
    go_ret
    exact ⟨false, rfl, iff_f HP.out, HB.out⟩
set_option maxHeartbeats 1600000 in
theorem implGoodG_any (v : GV) (D : GD) (Y : Nat → Prop) (w : World) (h : GAt Y w v D) (hY : ∀ b, Y b → b < w.heap.size) :
    Calls Try.prog 44 #[v.val D] w fun e w' => ∃ r, e = .returned (.bool r) ∧ (r = true ↔ D.Good) ∧ Blw w w' := by
  have HB : Hid (Blw w (w.alloc (.cells #[.int .i64 D.at_, .int .i64 D.acc, .slice v.a1 D.nc v.c1, .slice v.a2 D.nt v.c2, .bool D.d] 61))) := (Blw.refl _).alloc _
  have R0 : Hid (Row (w.alloc (.cells #[.int .i64 D.at_, .int .i64 D.acc, .slice v.a1 D.nc v.c1, .slice v.a2 D.nt v.c2, .bool D.d] 61)) w.heap.size 5 (gb v D)) := row5 w _ _ _ _ _ 61
  have HA : Hid (GAt Y (w.alloc (.cells #[.int .i64 D.at_, .int .i64 D.acc, .slice v.a1 D.nc v.c1, .slice v.a2 D.nt v.c2, .bool D.d] 61)) v D) := h.blw HB.out
  have HYY : Hid (∀ b, Y b → b < (w.alloc (.cells #[.int .i64 D.at_, .int .i64 D.acc, .slice v.a1 D.nc v.c1, .slice v.a2 D.nt v.c2, .bool D.d] 61)).heap.size) := fun b hb => Nat.lt_of_lt_of_le (hY b hb) HB.out.size
  clear h hY
  go_enter Try.func44, Try.ntmps44
  obtain ⟨p0, p1, p2, p3, p4⟩ := get5 R0.out
  go_wp2_with fail
  clear p0 p1 p2 p3 p4
  generalize (w.alloc (.cells #[.int .i64 D.at_, .int .i64 D.acc, .slice v.a1 D.nc v.c1, .slice v.a2 D.nt v.c2, .bool D.d] 61)) = w0 at *
  refine (holdGuest_any v D Y _ HA.out HYY.out).mono ?_
  rintro e w1 ⟨⟨hg, rfl⟩ | ⟨hg, rfl⟩, hb⟩
  · have HG : Hid (D.Good) := hg
    replace HB : Hid (Blw w w1) := HB.out.trans hb
    clear hg hb HA HYY R0
    go_wp2_with (first | (refine alloc_big rfl 148 rfl 32 hz zeroH ?_; intro wa RZ hba hza) | (refine store_big rfl 148 _ _ rfl _ 32 (hc D) hz rfl rfl wdH RZ (fun i _ => hc_one _ i) ?_; intro wb RH hmb hsb) | fail)
    go_ret
    exact ⟨true, rfl, iff_t HG.out, Mod.blw (HB.out.trans hba) hmb (fun i hi => by have := HB.out.size; omega)⟩
  · have HG : Hid (¬ D.Good) := hg
    replace HB : Hid (Blw w w1) := HB.out.trans hb
    clear hg hb HA HYY R0
    go_wp2_with (first | (refine alloc_big rfl 148 rfl 32 hz zeroH ?_; intro wa RZ hba hza) | (refine store_big rfl 148 _ _ rfl _ 32 hz hz rfl rfl wdH RZ (fun i _ => hcf_one _ _ _ _ _ _ i) ?_; intro wb RH hmb hsb) | fail)
    go_ret
    exact ⟨false, rfl, iff_f HG.out, Mod.blw (HB.out.trans hba) hmb (fun i hi => by have := HB.out.size; omega)⟩
def bIff (p : Prop) (r : Bool) : Prop := r = true ↔ p
theorem bIff_same {p : Prop} {a b : Bool} (h : bIff p a) (k : bIff p b) : a = b := by
  unfold bIff at h k
  cases a <;> cases b <;> simp_all
end Go.Proofs.Ytbpdopcdhnemfaa
