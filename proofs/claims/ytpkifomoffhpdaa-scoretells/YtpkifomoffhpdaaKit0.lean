/- A fact laid aside, so that the walk does not use it. -/
import Derived.Below
namespace Go.Proofs.Ytpkifomoffhpdaa
theorem hid {p : Prop} (h : p) : RowKit.Hid p := h
end Go.Proofs.Ytpkifomoffhpdaa
