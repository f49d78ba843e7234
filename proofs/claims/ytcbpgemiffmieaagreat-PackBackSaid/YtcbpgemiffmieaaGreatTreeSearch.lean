/- The library's two binary searches: over kids, over texts. -/
import Derived.Test.YtcbpgemiffmieaaGreatG00
namespace Go.Proofs.YtcbpgemiffmieaaGreat
open Go.ChangeShapes Go.WideShapes Go.ChangeAt Go.RowKit
namespace Tr
open Sp Rw
def strs (l:List ByteArray):List Value:=l.map Value.string
theorem strs_one (l:List ByteArray):∀ u∈strs l,u.oneCell'=true:=by
 intro u hu;obtain⟨x,_,rfl⟩:=List.mem_map.1 hu;rfl
end Tr
end Go.Proofs.YtcbpgemiffmieaaGreat
