/- Lists of structs of K numbers: what they read as, what is owned. -/
import Derived.Test.YtjplodenflkghaaUndo
namespace Go.Proofs.Ytjplodenflkghaa
open Go.RowKit
set_option linter.unusedSimpArgs false
set_option linter.unusedVariables false
def kc (K : Nat) (F : Nat → Nat → Int) : Nat → Value := fun j => .int .i64 (F (j / K) (j % K))
theorem kc_at {K : Nat} (F : Nat → Nat → Int) (i : Nat) {c : Nat} (hc : c < K) : kc K F (i * K + c) = .int .i64 (F i c) := by
  unfold kc
  rw [Nat.mul_comm, Nat.mul_add_div (by omega), Nat.div_eq_of_lt hc, Nat.mul_add_mod, Nat.mod_eq_of_lt hc, Nat.add_zero]
theorem kc_lt {K n i c : Nat} (hi : i < n) (hc : c < K) : i * K + c < n * K := by
  have : (i + 1) * K ≤ n * K := Nat.mul_le_mul_right K hi
  rw [Nat.succ_mul] at this
  omega
/-- The slice at 'ao' reads as the n structs F, all in blocks of Y. -/
def KAt (K : Nat) (Y : Nat → Prop) (w : World) (ao : Option Addr) (n : Nat) (F : Nat → Nat → Int) : Prop :=
  n ≤ 9223372036854775807 ∧ ∀ i, i < n → ∃ b o, ao = some ⟨b, o, none⟩ ∧ Y b ∧ ∀ c, c < K → w.cell? ⟨b, o + i * K + c, none⟩ = some (.int .i64 (F i c))
def KOwn (K : Nat) (X : Nat → Prop) (w : World) (ao : Option Addr) (n : Nat) (F : Nat → Nat → Int) : Prop :=
  n ≤ 9223372036854775807 ∧ (0 < n → ∃ b, X b ∧ ao = some ⟨b, 0, none⟩ ∧ Row w b (n * K) (kc K F))
theorem k_get {w : World} {b n K : Nat} {F : Nat → Nat → Int} (r : Row w b (n * K) (kc K F)) {i c : Nat} (hi : i < n) (hc : c < K) : w.cell? ⟨b, i * K + c, none⟩ = some (.int .i64 (F i c)) := by
  rw [r.cell (kc_lt hi hc), kc_at F i hc]
theorem KOwn.at {K : Nat} {X : Nat → Prop} {w : World} {ao : Option Addr} {n : Nat} {F : Nat → Nat → Int} (h : KOwn K X w ao n F) : KAt K X w ao n F := by
  refine ⟨h.1, fun i hi => ?_⟩
  obtain ⟨b, hx, e, hr⟩ := h.2 (by omega)
  exact ⟨b, 0, e, hx, fun c hc => by rw [Nat.zero_add]; exact k_get hr hi hc⟩
theorem KAt.blw {K : Nat} {Y : Nat → Prop} {w w' : World} {ao : Option Addr} {n : Nat} {F : Nat → Nat → Int} (h : KAt K Y w ao n F) (hb : Blw w w') : KAt K Y w' ao n F :=
  ⟨h.1, fun i hi => let ⟨b, o, e, hY, h0⟩ := h.2 i hi; ⟨b, o, e, hY, fun c hc => hb.cell (h0 c hc)⟩⟩
theorem KAt.mod {K : Nat} {Y : Nat → Prop} {w w' : World} {ao : Option Addr} {n : Nat} {F : Nat → Nat → Int} {X : Nat → Prop} (h : KAt K Y w ao n F) (hb : Mod X w w') (hxy : ∀ k, Y k → ¬ X k) : KAt K Y w' ao n F :=
  ⟨h.1, fun i hi => let ⟨b, o, e, hY, h0⟩ := h.2 i hi; ⟨b, o, e, hY, fun c hc => hb.cell (h0 c hc) (hxy _ hY)⟩⟩
theorem KAt.mono {K : Nat} {Y : Nat → Prop} {w : World} {ao : Option Addr} {n : Nat} {F : Nat → Nat → Int} {X : Nat → Prop} (h : KAt K X w ao n F) (hxy : ∀ b, X b → Y b) : KAt K Y w ao n F :=
  ⟨h.1, fun i hi => let ⟨b, o, e, hY, h0⟩ := h.2 i hi; ⟨b, o, e, hxy _ hY, h0⟩⟩
theorem KAt.congr {K : Nat} {Y : Nat → Prop} {w : World} {ao : Option Addr} {n : Nat} {F : Nat → Nat → Int} {F' : Nat → Nat → Int} (h : KAt K Y w ao n F) (e : ∀ i c, i < n → c < K → F i c = F' i c) : KAt K Y w ao n F' :=
  ⟨h.1, fun i hi => let ⟨b, o, ea, hY, h0⟩ := h.2 i hi; ⟨b, o, ea, hY, fun c hc => by rw [← e i c hi hc]; exact h0 c hc⟩⟩
theorem KOwn.mod {K : Nat} {X Z : Nat → Prop} {w w' : World} {ao : Option Addr} {n : Nat} {F : Nat → Nat → Int} (h : KOwn K X w ao n F) (hb : Mod Z w w') (hxz : ∀ b, X b → ¬ Z b) : KOwn K X w' ao n F :=
  ⟨h.1, fun hn => let ⟨b, hx, e, hr⟩ := h.2 hn; ⟨b, hx, e, hr.mod hb (hxz _ hx)⟩⟩
theorem KOwn.blw {K : Nat} {X : Nat → Prop} {w w' : World} {ao : Option Addr} {n : Nat} {F : Nat → Nat → Int} (h : KOwn K X w ao n F) (hb : Blw w w') : KOwn K X w' ao n F := h.mod (hb.mod (fun _ => False)) (fun _ _ => id)
theorem KOwn.mono {K : Nat} {X Y : Nat → Prop} {w : World} {ao : Option Addr} {n : Nat} {F : Nat → Nat → Int} (h : KOwn K X w ao n F) (hxy : ∀ b, X b → Y b) : KOwn K Y w ao n F :=
  ⟨h.1, fun hn => let ⟨b, hx, e, hr⟩ := h.2 hn; ⟨b, hxy _ hx, e, hr⟩⟩
theorem KOwn.nil (K : Nat) (X : Nat → Prop) (w : World) (ao : Option Addr) (F : Nat → Nat → Int) : KOwn K X w ao 0 F := ⟨by omega, fun h => absurd h (by omega)⟩
theorem KOwn.congr {K : Nat} {X : Nat → Prop} {w : World} {ao : Option Addr} {n : Nat} {F F' : Nat → Nat → Int} (hK : 0 < K) (h : KOwn K X w ao n F) (e : ∀ i c, i < n → c < K → F i c = F' i c) : KOwn K X w ao n F' :=
  ⟨h.1, fun hn => let ⟨b, hx, ea, hr⟩ := h.2 hn; ⟨b, hx, ea, hr.congr fun j hj => by
    unfold kc
    rw [e (j / K) (j % K) (Nat.div_lt_of_lt_mul (by rw [Nat.mul_comm]; exact hj)) (Nat.mod_lt _ hK)]⟩⟩
def updF (F : Nat → Nat → Int) (i c : Nat) (v : Int) : Nat → Nat → Int := fun a b => if a = i ∧ b = c then v else F a b
theorem setK {w : World} {b n K : Nat} {F : Nat → Nat → Int} (r : Row w b (n * K) (kc K F)) (i : Nat) {c : Nat} (hc : c < K) (v : Int) : Row (w.setCell ⟨b, i * K + c, none⟩ (.int .i64 v)) b (n * K) (kc K (updF F i c v)) :=
  (r.set (i * K + c) _).congr (fun j hj => by
    have hK : 0 < K := by omega
    by_cases e : j = i * K + c
    · rw [if_pos e, e, kc_at _ i hc]; unfold updF; rw [if_pos ⟨rfl, rfl⟩]
    · rw [if_neg e]
      unfold kc updF
      have : ¬ (j / K = i ∧ j % K = c) := fun h => e (by have h1 := Nat.div_add_mod j K; rw [h.1, h.2, Nat.mul_comm] at h1; exact h1.symm)
      rw [if_neg this])
/-- What a list holds behind a mark. -/
def mkK (K : Nat) (k : Int) : Nat → Nat → Int := fun i c => k + K * i + c
def upK (G F : Nat → Nat → Int) (i : Nat) : Nat → Nat → Int := fun a c => if a < i then G a c else F a c
theorem upK_zero (G F : Nat → Nat → Int) : upK G F 0 = F := by funext a c; unfold upK; rw [if_neg (Nat.not_lt_zero _)]
theorem upK_all {K : Nat} {X : Nat → Prop} {w : World} {ao : Option Addr} {n : Nat} {G F : Nat → Nat → Int} (hK : 0 < K) (h : KOwn K X w ao n (upK G F n)) : KOwn K X w ao n G := h.congr hK (fun i c hi _ => by unfold upK; rw [if_pos hi])
theorem kAt_get {K : Nat} {Y : Nat → Prop} {w : World} {ao : Option Addr} {n : Nat} {F : Nat → Nat → Int} (h : KAt K Y w ao n F) {i : Nat} (hi : i < n) : ∃ b o, ao = some ⟨b, o, none⟩ ∧ Y b ∧ ∀ c, c < K → w.cell? ⟨b, o + i * K + c, none⟩ = some (.int .i64 (F i c)) := h.2 i hi
theorem Row.madeK (w : World) (z : Array Value) (v : Value) (hz : ∀ i, i < z.size → z[i]? = some v) (h0 : 0 < z.size) (n : Nat) (t : TypeId) : Row (w.alloc (.cells (madeCells z n) t)) w.heap.size n (fun _ => v) := by
  refine ⟨_, t, heap_alloc_new _ _, by simp [madeCells], fun i hi => ?_⟩
  have h2 : i % z.size < z.size := Nat.mod_lt _ h0
  have := hz (i % z.size) h2
  simp [madeCells, hi, getElem!_def, this]
end Go.Proofs.Ytjplodenflkghaa
