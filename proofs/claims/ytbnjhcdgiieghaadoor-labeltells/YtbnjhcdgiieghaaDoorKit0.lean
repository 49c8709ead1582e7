/- A fact laid aside, so that the walk does not use it. -/
import Derived.Below
namespace Go.Proofs.YtbnjhcdgiieghaaDoor
theorem hid {p : Prop} (h : p) : RowKit.Hid p := h
end Go.Proofs.YtbnjhcdgiieghaaDoor
