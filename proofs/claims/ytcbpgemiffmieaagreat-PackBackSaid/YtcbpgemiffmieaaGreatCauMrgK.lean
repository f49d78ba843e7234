/- What is known: two rising lists of kids, side by side. -/
import Derived.Test.YtcbpgemiffmieaaGreatG00
import Derived.Test.YtcbpgemiffmieaaGreatCauStayK
namespace Go.Proofs.YtcbpgemiffmieaaGreat
open Go.ChangeShapes Go.WideShapes Go.ChangeAt Go.RowKit
namespace Cs
open Tr Cx Sp Rw
def RdK (w:World) (B:Nat) (A:Option Addr) (n c:Nat) (ks:List Kd):Prop:=∃ xs:List Value,Rd w B 3 A n c xs∧ks.length=n∧∀ (i:Nat) (h:i<ks.length),∃ se sk:SV,xs[i*3]?=some (.string (ks[i]).1)∧xs[i*3+1]?=some (.slice se.A se.n se.c)∧xs[i*3+2]?=some (.slice sk.A sk.n sk.c)∧RdT w B (ks[i]).2 se sk
theorem RdK.below {w w2:World} {B n c:Nat} {A:Option Addr} {ks:List Kd} (h:RdK w B A n c ks) (hb:Below B w w2):RdK w2 B A n c ks:=by
 obtain⟨xs,h1,h2,h3⟩:=h;refine⟨xs,h1.below hb,h2,fun i hi=>?_⟩;obtain⟨se,sk,e1,e2,e3,e4⟩:=h3 i hi;exact⟨se,sk,e1,e2,e3,RdT.below e4 hb⟩
end Cs
end Go.Proofs.YtcbpgemiffmieaaGreat
