/- A reply shares no memory with the detector. -/
import Derived.Test.YtmdnpgcnbpppfaaGreatDoorQF
import Derived.Test.YtmdnpgcnbpppfaaGreatDoorDeRun
namespace Go.Proofs.YtmdnpgcnbpppfaaGreatDoor
open Go.RowKit

/-- A row of numbers is no row of bytes. -/
theorem Bys.apart {w : World} {B B' : Nat} {v u : Value} {l : List UInt8} {m : List Int} (h : Bys w B v l) (ho : Out w B' u m) (x : Nat) (h1 : v.ownBlock = some x) (h2 : u.ownBlock = some x) : False := by
  rcases ho.2 with ⟨rfl, _⟩ | ⟨g', cap, cur, rfl, _, hh, _⟩
  · cases h2
  · simp only [Value.ownBlock, Option.some.injEq] at h2
    subst h2
    rcases h.2 with ⟨rfl, _⟩ | ⟨g2, cap2, cur2, rfl, _, hh2, _⟩
    · cases h1
    · simp only [Value.ownBlock, Option.some.injEq] at h1
      subst h1
      rw [hh] at hh2
      injection hh2 with hh2
      injection hh2 with _ ht _
      exact absurd ht (by decide)
theorem actR (W : World) (hl : Laid W) : ActR (detC W hl) := by
  intro w F a d k b hw h
  have h' : IsDet W w F a d := h
  refine (do_any k b h' hl hw).mono fun e w' ⟨⟨A, c, he, hO⟩, F', hD, hF, ho⟩ => ⟨A, c, F', he, hO, hD, hF, ho, hw.trans (ho.below hw.size (fun k hk => (h'.lt k hk).1)), fun x hx hx' => ?_⟩
  obtain ⟨b', v', e', rfl, _, _, _, hs, _⟩ := hD
  rcases hx' with rfl | hx'
  · obtain ⟨b2, v2, e2, rfl, _, _, hD2, _⟩ := h'
    rw [e'] at e2
    injection e2 with e2
    have h1 := (hO.own _ hx).1
    have h2 := hD2.lt
    omega
  · exact hs.apart hO x hx' hx
end Go.Proofs.YtmdnpgcnbpppfaaGreatDoor
