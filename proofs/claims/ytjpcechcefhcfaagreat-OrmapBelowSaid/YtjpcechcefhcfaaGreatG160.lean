/- Maps: what a change is: mathematics. -/
import Derived.Test.YtjpcechcefhcfaaGreatG90
import Derived.Test.YtjpcechcefhcfaaGreatSet2
namespace Go.Proofs.YtjpcechcefhcfaaGreat
open Go.ChangeShapes Go.WideShapes Go.ChangeAt Go.RowKit
namespace Cs
open Tr Cx Sp Rw Classical
theorem wrapE_three (t:T) (p:List ByteArray):wrapE t p=0∨wrapE t p=1∨wrapE t p=10:=by
 unfold wrapE
 split
 ·exact .inr (.inl rfl)
 ·split
  ·exact .inr (.inr rfl)
  ·split
   ·exact .inl rfl
   ·split
    ·exact .inr (.inr rfl)
    ·exact .inl rfl
noncomputable def mroomB (t:T) (key:ByteArray) (x:T):Bool:=decide (x.es=[]∧x.ks=[])||roomB t key
noncomputable def updE (t:T) (key:ByteArray) (kd:K):Int:=if (Tr.rightB 5 t&&rightKB kd)=true then (if wrapE kd.1 [key]=1 then 1 else if mroomB t key kd.1=true then wrapE kd.1 [key]else 4)else 1
noncomputable def updK (t:T) (key:ByteArray) (kd:K):K:=if updE t key kd=0 then (wrapR kd.1 [key],kd.2)else noneK
theorem updE_of {t:T} {key:ByteArray} {kd:K} {x:Int} (h1:Tr.rightB 5 t=true) (h2:rightKB kd=true) (h:wrapE kd.1 [key]=x) (h3:¬x=1):updE t key kd=if mroomB t key kd.1=true then x else 4:=by
 unfold updE;rw[h1,h2,if_pos (by rfl),h,if_neg h3]
theorem updE_bad {t:T} {key:ByteArray} {kd:K} (h:Tr.rightB 5 t=false∨rightKB kd=false∨wrapE kd.1 [key]=1):updE t key kd=1:=by
 unfold updE
 rcases h with h | h | h
 ·rw[h];rfl
 ·rw[h,Bool.and_false];rfl
 ·rw[h,if_pos rfl,ite_self]
theorem upd_ok {t:T} {key:ByteArray} {kd:K} (h:updE t key kd=0):Tr.rightB 5 t=true∧rightKB kd=true∧wrapE kd.1 [key]=0∧updK t key kd=(wrapR kd.1 [key],kd.2):=by
 have hk:updK t key kd=(wrapR kd.1 [key],kd.2):=by unfold updK;rw[if_pos h]
 unfold updE at h
 by_cases h1:(Tr.rightB 5 t&&rightKB kd)=true
 ·rw[if_pos h1]at h
  rw[Bool.and_eq_true]at h1
  by_cases h2:wrapE kd.1 [key]=1
  ·rw[if_pos h2]at h;cases h
  ·rw[if_neg h2]at h
   by_cases h3:mroomB t key kd.1=true
   ·rw[if_pos h3]at h
    exact⟨h1.1,h1.2,h,hk⟩
   ·rw[if_neg h3]at h;cases h
 ·rw[if_neg h1]at h;cases h
theorem upd_not {t:T} {key:ByteArray} {kd:K} (h:¬updE t key kd=0):updK t key kd=noneK:=by unfold updK;rw[if_neg h]
theorem wrapE_key {x:T} {key:ByteArray} (h:keyB key=false):wrapE x [key]=1:=by
 unfold wrapE;rw[if_pos]
 have hb:badB [key]=true:=by
  cases hb:badB [key]with
  | true=>rfl
  | false=>
   have h2:=badB_iff.1 hb key (by simp);rw[keyB_iff.2 h2]at h
   cases h
 rw[hb,Bool.or_true]
theorem wrapE_good {x:T} {key:ByteArray} (hx:Tr.rightB 5 x=true) (h:keyB key=true):¬wrapE x [key]=1:=by
 unfold wrapE
 have hb:badB [key]=false:=badB_iff.2 fun k hk=>by rw[List.mem_singleton.1 hk];exact keyB_iff.1 h
 rw[if_neg (by rw[hx,hb];simp)]
 split
 ·intro h2;cases h2
 ·split
  ·intro h2;cases h2
  ·split
   ·intro h2;cases h2
   ·intro h2;cases h2
theorem leaves_zero {x:T} (h:RightT 5 x):(leaves x).length=0↔(x.es=[]∧x.ks=[]):=by
 constructor
 ·intro h2
  exact Classical.byContradiction fun h3=>leaves_some h h3 (List.length_eq_zero_iff.1 h2)
 ·intro h2
  rw[show x=none_ from by rw[← T.eta x,h2.1,h2.2];rfl,leaves_none];rfl
theorem ent_wrapR {x:T} {key:ByteArray} (h:wrapE x [key]=0) (p:List ByteArray) (q:Int×Int):entAt (wrapR x [key]) (key::p) q=entAt x p q:=by
 by_cases he:x.es=[]∧x.ks=[]
 ·have hx:x=none_:=by rw[← T.eta x,he.1,he.2];rfl
  have h2:wrapR x [key]=none_:=by unfold wrapR;rw[if_neg (fun h=>h.2 he)]
  rw[h2,hx,entAt_none,entAt_none]
 ·have h2:wrapR x [key]=wrapT x [key]:=by unfold wrapR;rw[if_pos ⟨h,he⟩]
  rw[h2,entAt_wrapK]
theorem right_wrapR {x:K} {key:ByteArray} (hx:RK x) (h:wrapE x.1 [key]=0):RK (wrapR x.1 [key],x.2):=by
 refine⟨Tr.rightB_iff.1 (wrap_ok h).rx,hx.ctx,fun y hy=>?_⟩;have he:=(leaf_iff (Tr.rightB_iff.1 (wrap_ok h).rx) y.1 y.2).1 hy
 have hp:∃ p,y.1=key::p:=by
  cases hq:y.1 with
  | nil=>
   rw[hq]at he
   by_cases h0:x.1.es=[]∧x.1.ks=[]
   ·have h2:wrapR x.1 [key]=none_:=by unfold wrapR;rw[if_neg (fun h=>h.2 h0)]
    rw[h2,entAt_none]at he
    cases he
   ·have h2:wrapR x.1 [key]=wrapT x.1 [key]:=by unfold wrapR;rw[if_pos ⟨h,h0⟩]
    rw[h2]at he;have h3:0<(wrapT x.1 [key]).es.length:=es_some.2 ⟨_,_,he⟩;simp[wrapT,T.es]at h3
  | cons k p=>
   rw[hq]at he
   by_cases hk:k=key
   ·exact⟨p,by rw[hk]⟩
   ·exfalso
    have h3:=(wrap_ok h).other key k [] rfl hk;rw[entAt_kid,h3,entAt_none]at he
    cases he
 obtain⟨p,hp⟩:=hp;rw[hp,ent_wrapR h]at he;exact hx.known he
end Cs
end Go.Proofs.YtjpcechcefhcfaaGreat
