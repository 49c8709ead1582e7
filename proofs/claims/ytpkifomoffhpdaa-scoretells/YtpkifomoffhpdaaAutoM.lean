/- The automata as plain functions. -/
import Derived.Test.YtpkifomoffhpdaaMod
namespace Go.Proofs.Ytpkifomoffhpdaa

def aW (b lo hi nx : Int) : Int := if lo ≤ b then (if b ≤ hi then nx else 9) else 9
def aU1 (b : Int) : Int :=
  if b < 128 then 0 else if b < 194 then 9 else if b < 224 then 1 else if b = 224 then 4 else if b = 237 then 5
  else if b < 240 then 2 else if b = 240 then 6 else if b < 244 then 3 else if b = 244 then 7 else 9
def aU (s b : Int) : Int :=
  if s = 0 then aU1 b else if s = 1 then aW b 128 191 0 else if s = 2 then aW b 128 191 1 else if s = 3 then aW b 128 191 2
  else if s = 4 then aW b 160 191 1 else if s = 5 then aW b 128 159 1 else if s = 6 then aW b 144 191 2 else if s = 7 then aW b 128 143 2 else 9
def aS1 (b : Int) : Int := if b = 27 then 3 else if b = 14 then 9 else if b = 15 then 9 else if 127 < b then 9 else 0
def aS2 (b : Int) : Int := if b = 27 then 3 else if b = 10 then 0 else aW b 33 126 2
def aS3 (b : Int) : Int := if b = 40 then 4 else if b = 36 then 5 else 9
def aS (s b : Int) : Int :=
  if s = 0 then aS1 b else if s = 1 then aS2 b else if s = 2 then aW b 33 126 1 else if s = 3 then aS3 b
  else if s = 4 then aW b 66 66 0 else if s = 5 then aW b 66 66 1 else 9
def aT1 (b : Int) : Int := if b < 128 then 0 else if 129 ≤ b then (if b ≤ 159 then 1 else aW b 161 223 0) else aW b 161 223 0
def aT (s b : Int) : Int := if s = 0 then aT1 b else if s = 1 then (if b = 127 then 9 else aW b 64 252 0) else 9
def aL (s b : Int) : Int :=
  if s = 0 then (if b = 129 then 9 else if b = 141 then 9 else if b = 143 then 9 else if b = 144 then 9 else if b = 157 then 9 else 0) else 9
def aWU (b wh hf : Int) : Int := if b < 216 then wh else if 223 < b then wh else if b < 220 then hf else 9
def aLo (s b : Int) : Int := if s = 0 then 1 else if s = 1 then aWU b 0 2 else if s = 2 then 3 else if s = 3 then aW b 220 223 0 else 9
def aHi (s b : Int) : Int := if s = 0 then aWU b 1 2 else if s = 1 then 0 else if s = 2 then 3 else if s = 3 then aW b 220 223 1 else 9
/-- The state behind a byte. -/
def aStep (e s b : Int) : Int :=
  if e = 1 then aU s b else if e = 2 then aS s b else if e = 3 then aT s b else if e = 4 then aL s b else if e = 5 then aLo s b else if e = 6 then aHi s b else 9
/-- Whether bytes may end in a state. -/
def aEnds (e s : Int) : Bool :=
  if e = 2 then (s == 0 || s == 1) else if 1 ≤ e ∧ e ≤ 6 then s == 0 else false
/-- The state behind bytes. -/
def aRun (e : Int) : Int → List UInt8 → Int
  | s, [] => s
  | s, b :: r => aRun e (aStep e s (nb b)) r
end Go.Proofs.Ytpkifomoffhpdaa
