/- Layer 15's laws: a step. -/
import Derived.Test.YtgeafpaognhokaaGreatG00
import Derived.Test.YtgeafpaognhokaaGreatG80
import Derived.Test.YtgeafpaognhokaaGreatCauJoin
import Derived.Test.YtgeafpaognhokaaGreatG60
import Derived.Test.YtgeafpaognhokaaGreatG100
namespace Go.Proofs.YtgeafpaognhokaaGreat
open Go.ChangeShapes Go.WideShapes Go.ChangeAt Go.RowKit
namespace Cs
open Tr Cx Sp Rw Classical
structure StepIs (s:SM) (i:Nat) (s':SM):Prop where
 leq:∀ j,j<3→leqB (s.know j).k (s'.know j).k=true
 ev:s'.ev=s.ev∨∃ x,s'.ev=s.ev++[x]∧hasC (s'.know i).k.2 x.ev.d.1 x.ev.d.2=true
theorem StepIs.refl {s:SM} (h:StK s) (i:Nat):StepIs s i s:=⟨fun j hj=>leq_refl (h.knows j hj).right,.inl rfl⟩
end Cs
end Go.Proofs.YtgeafpaognhokaaGreat
