/- What is known: is a dot there. -/
import Derived.Test.YtcbpgemiffmieaaGreatG00
import Derived.Test.YtcbpgemiffmieaaGreatG01
import Derived.Test.YtcbpgemiffmieaaGreatCtx1
namespace Go.Proofs.YtcbpgemiffmieaaGreat
open Go.ChangeShapes Go.WideShapes Go.ChangeAt Go.RowKit
namespace Cs
open Tr Cx Sp Rw
def kS (s:S3):Int×Int:=(s.1,s.2.2)
theorem right_tail {s:S3} {c:List S3} (h:RightC (s::c)):RightC c:=by
 refine⟨h.rise.2.2.mono h.rise.1,fun d hd=>?_⟩;have h1:=h.part d hd;rw[part_cons]at h1
 split at h1
 ·obtain⟨g1,g2,_,g4⟩:=h1
  exact g4.mono (by omega)
 ·exact h1
def apS (s t:S3):Prop:=s.1<t.1∨(s.1=t.1∧s.2.2<t.2.1)
theorem ap_ctx:∀ {l:List S3},RightC l→l.Pairwise apS
 | [],_=>List.Pairwise.nil
 | s::c,h=>by
  refine List.pairwise_cons.2 ⟨fun t ht=>?_,ap_ctx (right_tail h)⟩;have h1:=h.rise.2.2.mem t ht;have h2:=h.rise.1;have h3:=h.rise.2.1;unfold apS
  by_cases e:s.1=t.1
  ·refine .inr ⟨e,?_⟩
   have h4:=h.part s.1 ⟨h2,h3⟩;rw[part_cons,if_pos rfl]at h4;obtain⟨g1,g2,_,g4⟩:=h4;have:=g4.mem t.2 (part_mem.2 (by rw[e];exact ht));omega
  ·exact .inl (by omega)
theorem hasC_iff {l:List S3} {d n:Int} : hasC l d n=true↔∃ s∈l,s.1=d∧s.2.1≤n∧n≤s.2.2:=by
 unfold hasC;rw[has_true];constructor
 ·rintro⟨r,hr,h1,h2⟩
  exact⟨(d,r),part_mem.1 hr,rfl,h1,h2⟩
 ·rintro⟨s,hs,rfl,h1,h2⟩
  exact⟨s.2,part_mem.2 hs,h1,h2⟩
structure SrD (l:List S3) (x:Int×Int) (lo hi:Nat):Prop where
 low:∀ (i:Nat) (h:i<l.length),i<lo→ltD (kS l[i]) x
 high:∀ (i:Nat) (h:i<l.length),hi≤i→¬ltD (kS l[i]) x
theorem SrD.has {l:List S3} {d n:Int} {i:Nat} (h:SrD l (d,n) i i) (hr:RightC l):hasC l d n=true↔∃ hi:i<l.length,(l[i]).1=d∧(l[i]).2.1≤n:=by
 rw[hasC_iff];constructor
 ·rintro⟨s,hs,h1,h2,h3⟩
  obtain⟨j,hj,rfl⟩:=List.getElem_of_mem hs
  have hij:i≤j:=by
   rcases Nat.lt_or_ge j i with h4 | h4
   ·have h5:=h.low j hj h4
    unfold ltD kS at h5;dsimp only at h5;omega
   ·exact h4
  have hi:i<l.length:=by omega
  have h6:=h.high i hi (Nat.le_refl _);unfold ltD kS at h6;dsimp only at h6
  by_cases e:i=j
  ·subst e
   exact⟨hi,h1,h2⟩
  ·have h7:=List.pairwise_iff_getElem.1 (ap_ctx hr) i j hi hj (by omega)
   unfold apS at h7;omega
 ·rintro⟨hi,h1,h2⟩
  have h3:=h.high i hi (Nat.le_refl _);unfold ltD kS at h3;dsimp only at h3;exact⟨l[i],List.getElem_mem hi,h1,h2,by omega⟩
end Cs
end Go.Proofs.YtcbpgemiffmieaaGreat
