/- MappedIn: the program's, and the law. -/
import Derived.Test.YtjplodenflkghaaMappedI
namespace Go.Proofs.Ytjplodenflkghaa
open Go.RowKit
set_option linter.unusedSimpArgs false
set_option linter.unusedVariables false
theorem lf_nonneg {n kn : Nat} {c : Nat → Int} {len : Nat → Nat} {p m : Nat → Nat → Int} (g : BD.Good ⟨n, c, ⟨kn, len, p, m⟩⟩) {a : Nat} (ha : a < 16) : 0 ≤ lfP c m a := by
  unfold lfP
  by_cases h : 0 ≤ c (a / 4)
  · rw [if_pos h]
    have hn : n = 4 := g.n
    have ht := g.top (a / 4) (by show a / 4 < n; omega)
    have ht' : c (a / 4) ≤ (kn : Int) - 1 := ht.2
    have := ((g.leaf (c (a / 4)).toNat (by show _ < kn; omega)).2 (a % 4) (by omega)).2.1.1
    exact this
  · rw [if_neg h]; omega
end Go.Proofs.Ytjplodenflkghaa
