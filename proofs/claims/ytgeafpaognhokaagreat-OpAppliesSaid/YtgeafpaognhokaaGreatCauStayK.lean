/- What is known: which kids stay. -/
import Derived.Test.YtgeafpaognhokaaGreatG00
import Derived.Test.YtgeafpaognhokaaGreatCauMrgE
import Derived.Test.YtgeafpaognhokaaGreatG10
namespace Go.Proofs.YtgeafpaognhokaaGreat
open Go.ChangeShapes Go.WideShapes Go.ChangeAt Go.RowKit
namespace Cs
open Tr Cx Sp Rw
section
variable {l:List (Addr×Value)} {w0 W w':World} {p:Nat}
theorem _root_.Go.Proofs.YtgeafpaognhokaaGreat.Kept.past3 (K:Kept l w0 W) (hp:w0.heap.size≤p) (hl:∀ x∈l,x.1.block≠p) (v0 v1 v2:Value):Kept l w0 (((W.setCell ⟨p,0,none⟩ v0).setCell ⟨p,1,none⟩ v1).setCell ⟨p,2,none⟩ v2):=
 ((K.set (a:=⟨p,0,none⟩) hp hl v0).set (a:=⟨p,1,none⟩) hp hl v1).set (a:=⟨p,2,none⟩) hp hl v2
theorem _root_.Go.Proofs.YtgeafpaognhokaaGreat.Kept.set3 (K:Kept l w0 W) (hp:w0.heap.size≤p) (hl:∀ x∈l,x.1.block≠p) (h0:∃ u,W.cell? ⟨p,0,none⟩=some u) (h1:∃ u,W.cell? ⟨p,1,none⟩=some u) (h2:∃ u,W.cell? ⟨p,2,none⟩=some u) (v0 v1 v2:Value):Kept ((⟨p,0,none⟩,v0)::(⟨p,1,none⟩,v1)::(⟨p,2,none⟩,v2)::l) w0 (((W.setCell ⟨p,0,none⟩ v0).setCell ⟨p,1,none⟩ v1).setCell ⟨p,2,none⟩ v2):=by
 obtain⟨u0,h0⟩:=h0;obtain⟨u1,h1⟩:=h1;obtain⟨u2,h2⟩:=h2
 refine (((K.past3 hp hl v0 v1 v2).cons_of ?_).cons_of ?_).cons_of ?_ <;> go_simp
end
end Cs
end Go.Proofs.YtgeafpaognhokaaGreat
