/- Lists of numbers that stand in a law. -/
import Derived.Test.YtfmmpddknanhbaaLawF
namespace Go.Proofs.Ytfmmpddknanhbaa
open Go.RowKit
theorem IntsAt.st {Y : Nat → Prop} {W : World} {ao : Option Addr} {n : Nat} {f : Nat → Int} (h : IntsAt Y W ao n f) (hY : ∀ b, Y b → b < W.heap.size) : St Y (fun W => IntsAt Y W ao n f) W :=
  ⟨hY, fun _ _ hm hx => h.mod hm hx⟩
theorem IntsOwn.st {Y : Nat → Prop} {W : World} {ao : Option Addr} {n : Nat} {f : Nat → Int} (h : IntsOwn Y W ao n f) (hY : ∀ b, Y b → b < W.heap.size) : St Y (fun W => IntsOwn Y W ao n f) W :=
  ⟨hY, fun _ _ hm hx => h.mod hm hx⟩
end Go.Proofs.Ytfmmpddknanhbaa
