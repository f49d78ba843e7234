/- Sets: an element is added: the program. -/
import Derived.Test.YtjpcechcefhcfaaGreatSet1
import Derived.Test.YtjpcechcefhcfaaGreatG10
import Derived.Test.YtjpcechcefhcfaaGreatG20
namespace Go.Proofs.YtjpcechcefhcfaaGreat
open Go.ChangeShapes Go.WideShapes Go.ChangeAt Go.RowKit
namespace Cs
open Tr Cx Sp Rw Classical
theorem levels_one (e:E):levels (oneT e)=1:=by
 unfold oneT;rw[levels_mk];rfl
theorem wrapE_one {e:E} {s:ByteArray} (he:RightE e) (hs:KeyOk s):wrapE (oneT e) [s]=0:=by
 unfold wrapE;rw[if_neg,if_neg,if_neg,if_neg]
 ·rw[levels_one];simp
 ·unfold oneT;simp[T.es]
 ·simp
 ·rw[Tr.rightB_iff.2 (right_oneT (d:=4) he),show badB [s]=false from badB_iff.2 fun k hk=>by rw[List.mem_singleton.1 hk];exact hs]
  simp
theorem wrapR_one {e:E} {s:ByteArray} (he:RightE e) (hs:KeyOk s):wrapR (oneT e) [s]=wrapT (oneT e) [s]:=by
 unfold wrapR;rw[if_pos ⟨wrapE_one he hs,by unfold oneT;simp[T.es]⟩]
noncomputable def roomB (t:T) (s:ByteArray):Bool:=decide (t.ks.length<24)||decide (s∈keysOf t.ks)
theorem kid_some {t:T} {s:ByteArray} (h:RightT 5 t):s∈keysOf t.ks↔¬((kidAt t.ks s).es=[]∧(kidAt t.ks s).ks=[]):=by
 constructor
 ·intro hs
  obtain⟨x,hx,rfl⟩:=List.mem_map.1 hs
  cases t with
  | mk es ks=>
   rw[show kidAt (T.mk es ks).ks x.1=x.2 from kidAt_of h.2.2.1 hx];exact (h.2.2.2 x hx).2.1
 ·intro hs
  by_cases h2:s∈keysOf t.ks
  ·exact h2
  ·exact absurd (by rw[kidAt_no h2];exact⟨rfl,rfl⟩) hs
theorem kid_none {w:World} {B:Nat} {u:T} {Ge Gk:Option Addr} {gn gm gc gd:Nat} (h:RdT w B u ⟨Ge,gn,gc⟩ ⟨Gk,gm,gd⟩):(gn=0∧gm=0)↔(u.es=[]∧u.ks=[]):=by
 have h2:=h;rw[← T.eta u]at h2;have h3:=rd_lens h2;rw[← h3.1,← h3.2,List.length_eq_zero_iff,List.length_eq_zero_iff]
end Cs
end Go.Proofs.YtjpcechcefhcfaaGreat
