/-
  The model's step on a machine of its own: contracts by kind.
-/
import Derived.Test.YtilnegmjnbffhaaDoorOwnM
import Derived.Deep.RegionWith
import Derived.StillTailTactics
namespace Go.Proofs.YtilnegmjnbffhaaDoor
open Go.ChangeShapes Go.WideShapes Go.ChangeAt Go.RowKit

/-- what l3Do answers -/
def GaveDo (w : World) (base g1 g2 g3 c1 c2 c3 : Nat) (r : Mch × Int × Bool) (e : Ending) (w' : World) : Prop :=
  e = .returned (.tuple #[.agg #[.int .i64 r.1.a, .slice (some ⟨g1, 0, none⟩) 6 c1, .slice (some ⟨g2, 0, none⟩) 16 c2, .slice (some ⟨g3, 0, none⟩) 16 c3], .int .i64 r.2.1, .bool r.2.2]) ∧ OwnM w' base g1 g2 g3 c1 c2 c3 r.1 ∧ Kept w w' (three g1 g2 g3)
theorem do_shut {w w1 w' : World} {base g1 g2 g3 c1 c2 c3 : Nat} {a f : Int} {b : Bool} (r : Mch × Int × Bool) (hO : OwnM w1 base g1 g2 g3 c1 c2 c3 r.1) (hk : Kept w w1 (three g1 g2 g3)) (hb : Below w1.heap.size w1 w') (h1 : a = r.1.a) (h2 : f = r.2.1) (h3 : b = r.2.2) :
    GaveDo w base g1 g2 g3 c1 c2 c3 r (.returned (.tuple #[.agg #[.int .i64 a, .slice (some ⟨g1, 0, none⟩) 6 c1, .slice (some ⟨g2, 0, none⟩) 16 c2, .slice (some ⟨g3, 0, none⟩) 16 c3], .int .i64 f, .bool b])) w' := by
  subst h1 h2 h3
  exact ⟨rfl, hO.below hb, hk.trans (.of_below hb)⟩

end Go.Proofs.YtilnegmjnbffhaaDoor
