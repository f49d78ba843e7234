/- Texts of the lower layers, and of layer 9, put together. -/
import Derived.Test.YtjpcechcefhcfaaGreatG00
import Derived.Test.YtjpcechcefhcfaaGreatTreeDots
import Derived.Test.YtjpcechcefhcfaaGreatG20
import Derived.Test.YtjpcechcefhcfaaGreatCauRight
import Derived.Test.YtjpcechcefhcfaaGreatG10
namespace Go.Proofs.YtjpcechcefhcfaaGreat
namespace Cs
open Tr Cx Sp Rw Classical
theorem cen_of {a n:Int} (h:Dt.rightB a n=true):Cen a:=(good_num (x:=(a,n)) h).1
def oneC (a n:Int):List S3:=[(a,n,n)]
theorem part_oneC (a n d:Int):Cx.part (oneC a n) d=if a=d then [(n,n)]else []:=by
 unfold oneC;rw[part_cons,part_nil]
theorem has_oneC (a n d m:Int):hasC (oneC a n) d m=decide (d=a∧m=n):=by
 unfold hasC;rw[part_oneC]
 by_cases h:a=d
 ·rw[if_pos h,has_cons,has_nil,Bool.or_false]
  by_cases h2:m=n
  ·rw[decide_eq_true (by omega),decide_eq_true ⟨h.symm,h2⟩]
  ·rw[decide_eq_false (by omega),decide_eq_false fun h3=>h2 h3.2]
 ·rw[if_neg h,has_nil,decide_eq_false fun h3=>h h3.1.symm]
theorem right_oneC {a n:Int} (h:Dt.rightB a n=true):RightC (oneC a n):=by
 obtain⟨hc,h1,h2⟩:=Cx.good_num (x:=(a,n)) h;refine⟨⟨hc.1,hc.2,trivial⟩,fun d _=>?_⟩;rw[part_oneC]
 split
 ·exact⟨h1,Int.le_refl _,h2,trivial⟩
 ·trivial
theorem of_oneC {a n:Int} (h:Dt.rightB a n=true):OfC [(a,n)] (oneC a n):=⟨right_oneC h,fun d m _=>by
 rw[has_oneC,decide_eq_true_iff,List.mem_singleton];constructor
 ·rintro⟨rfl,rfl⟩;rfl
 ·intro h;injection h with h1 h2;exact⟨h1,h2⟩⟩
noncomputable def checkB (t:T) (a n:Int):Bool:=Tr.rightB 5 t&&Dt.rightB a n && !decide ((a,n)∈dl t)
theorem check_iff {t:T} {a n:Int} : checkB t a n=true↔RightT 5 t∧Dt.rightB a n=true∧(a,n)∉dl t:=by
 unfold checkB;rw[Bool.and_eq_true,Bool.and_eq_true,Tr.rightB_iff,Bool.not_eq_true',decide_eq_false_iff_not,and_assoc]
theorem has_dl {t:T} {u:List S3} (ht:RightT 5 t) (hu:OfC (dl t) u) (a n:Int):hasC u a n=decide ((a,n)∈dl t):=by
 by_cases hd:Cen a
 ·by_cases h:(a,n)∈dl t
  ·rw[(hu.has a n hd).2 h,decide_eq_true h]
  ·rw[decide_eq_false h]
   cases h2:hasC u a n with
   | false=>rfl
   | true=>exact absurd ((hu.has a n hd).1 h2) h
 ·rw[not_cen hu.right hd,decide_eq_false fun h=>hd (good_num (x:=(a,n)) (good_dl ht _ h)).1]
theorem known_right {t:T} {u:List S3} (ht:RightT 5 t) (hu:OfC (dl t) u):RK (t,u):=⟨ht,hu.right,fun x hx=>by
 show hasC u x.2.a x.2.n=true;rw[has_dl ht hu]
 exact decide_eq_true (List.mem_map.2 ⟨x,hx,rfl⟩)⟩
theorem uni_has {u v:List S3} {a n:Int} (hu:RightC u) (hd:Dt.rightB a n=true) (hv:PutC uniF u (oneC a n) v) (d m:Int):hasC v d m=(hasC u d m||decide (d=a∧m=n)):=by
 by_cases h:Cen d
 ·rw[hv.has d m h,has_oneC];rfl
 ·rw[not_cen hv.right h,not_cen hu h,decide_eq_false fun h2=>h (by rw[h2.1];exact cen_of hd)];rfl
theorem uni_sup {u v:List S3} {a n:Int} (hu:RightC u) (hd:Dt.rightB a n=true) (hv:PutC uniF u (oneC a n) v) (d m:Int) (h:hasC u d m=true):hasC v d m=true:=by
 rw[uni_has hu hd hv,h];rfl
theorem right_oneT {d:Nat} {e:E} (he:RightE e):RightT (d+1) (oneT e):=⟨fun x hx=>by
 rw[List.mem_singleton.1 hx];exact he,by simp,by simp,by simp⟩
theorem nodes_one (e:E):nodes (oneT e)=1:=by unfold oneT;rw[nodes_mk];rfl
theorem RK.ent_of {k:K} (h:RK k) (p:List ByteArray) (q:Int×Int) (o:Option (Option E)) (hs:Cs.st k p q=o):entAt k.1 p q=o.join:=by
 rw[← hs]
 cases h1:hasC k.2 q.1 q.2 with
 | true=>rw[st_some h1];rfl
 | false=>rw[st_none h1,h.unknown h1];rfl
theorem st_over {a z:K} {p:List ByteArray} {q:Int×Int} (hsup:hasC a.2 q.1 q.2=true→hasC z.2 q.1 q.2=true) (hno:hasC a.2 q.1 q.2=true→entAt z.1 p q=none):mx (Cs.st a p q) (Cs.st z p q)=Cs.st z p q:=by
 cases h1:hasC a.2 q.1 q.2 with
 | false=>rw[st_none h1,mx_none]
 | true=>
  rw[st_some h1,st_some (hsup h1),hno h1]
  cases entAt a.1 p q <;> rfl
end Cs
end Go.Proofs.YtjpcechcefhcfaaGreat
namespace Go.Proofs.YtjpcechcefhcfaaGreat
namespace Cs
open Tr Cx Sp Rw Classical
theorem kidAt_of {ks:List Kd} (h:ks.Pairwise fun x y=>ltS x.1 y.1) {x:Kd} (hx:x∈ks):kidAt ks x.1=x.2:=by
 rw[kidAt_look,show look keyK ks x.1=some x from (look_iff (key:=keyK) tot_str h).2 ⟨hx,rfl⟩];rfl
theorem es_some {t:T} : 0<t.es.length↔∃ q e,entAt t [] q=some e:=by
 constructor
 ·intro h
  cases he:t.es with
  | nil=>rw[he]at h;simp at h
  | cons e l=>
   refine⟨keyE e,e,?_⟩;show look keyE t.es _=_;rw[he];exact look_cons_eq rfl _
 ·rintro⟨q,e,h⟩
  exact List.length_pos_of_mem (look_mem h).1
theorem entAt_kid (t:T) (k:ByteArray) (p:List ByteArray) (q:Int×Int):entAt t (k::p) q=entAt (kidAt t.ks k) p q:=rfl
theorem rise_ext {l m:List ByteArray} (hl:l.Pairwise ltS) (hm:m.Pairwise ltS) (h:∀ x,x∈l↔x∈m):l=m:=by
 refine up_ext (key:=id) tot_str hl hm fun k=>?_
 by_cases hk:k∈l
 ·rw[show look id l k=some k from (look_iff (key:=id) tot_str hl).2 ⟨hk,rfl⟩,show look id m k=some k from (look_iff (key:=id) tot_str hm).2 ⟨(h k).1 hk,rfl⟩]
 ·rw[show look id l k=none from look_none fun x hx e=>hk (by rw[← show x=k from e];exact hx),show look id m k=none from look_none fun x hx e=>hk (by rw[← show x=k from e];exact (h x).2 hx)]
structure SortIs (l m:List ByteArray):Prop where
 rise:m.Pairwise ltS
 mem:∀ x,x∈m↔x∈l
theorem SortIs.eq {l m m':List ByteArray} (h:SortIs l m) (h':SortIs l m'):m=m':=rise_ext h.rise h'.rise fun x=>(h.mem x).trans (h'.mem x).symm
theorem entAt_wrap1 (e:E) (s:ByteArray) (p:List ByteArray) (q:Int×Int):entAt (wrapT (oneT e) [s]) p q=if p=[s]∧keyE e=q then some e else none:=by
 cases p with
 | nil=>
  rw[if_neg fun h=>by cases h.1];exact look_nil q
 | cons k p=>
  show entAt (if s=k then oneT e else none_) p q=_
  by_cases h:s=k
  ·subst h
   rw[if_pos rfl,entAt_one]
   by_cases h2:p=[]∧keyE e=q
   ·rw[if_pos h2,if_pos ⟨by rw[h2.1],h2.2⟩]
   ·rw[if_neg h2,if_neg fun h3=>h2 ⟨by have:=h3.1;simpa using this,h3.2⟩]
  ·rw[if_neg h,entAt_none,if_neg fun h2=>h (by have:=h2.1;injection this with h3 h4;exact h3.symm)]
theorem right_wrap1 {e:E} {s:ByteArray} (he:RightE e) (hs:KeyOk s):RightT 5 (wrapT (oneT e) [s]):=by
 have h:=RightT.wrap (d:=1) (right_oneT (d:=0) he) (fun h=>by cases h.1) (p:=[s]) (fun k hk=>by rw[List.mem_singleton.1 hk];exact hs);exact RightT.more (RightT.more (RightT.more h))
theorem right_wrapK {e:E} {s:ByteArray} {c:List S3} (he:RightE e) (hs:KeyOk s) (hc:RightC c) (hh:hasC c e.a e.n=true):RK (wrapT (oneT e) [s],c):=⟨right_wrap1 he hs,hc,fun x hx=>by
 have h1:=(leaf_iff (right_wrap1 he hs) x.1 x.2).1 hx;rw[entAt_wrap1]at h1
 split at h1
 ·injection h1 with h1
  rw[← h1];exact hh
 ·cases h1⟩
theorem ent_dl {d:Nat} {t:T} (h:RightT d t) {p:List ByteArray} {q:Int×Int} {e:E} (he:entAt t p q=some e):q∈dl t:=by
 have hk:=entAt_key he;have h1:(p,e)∈leaves t:=(leaf_iff h p e).2 (by rw[hk];exact he);exact List.mem_map.2 ⟨(p,e),h1,hk⟩
theorem dl_ent {d:Nat} {t:T} (h:RightT d t) {q:Int×Int} (hq:q∈dl t):∃ p e,entAt t p q=some e:=by
 obtain⟨x,hx,rfl⟩:=List.mem_map.1 hq;exact⟨x.1,x.2,(leaf_iff h x.1 x.2).1 hx⟩
theorem kid_right {t:T} (h:RightT 5 t) (k:ByteArray):RightT 5 (kidAt t.ks k):=by
 cases t
 exact RightT.kid (d:=4) h k
theorem kid_sub {t:T} (ht:RightT 5 t) {s:ByteArray} {q:Int×Int} (h:q∈dl (kidAt t.ks s)):q∈dl t:=by
 obtain⟨p,e,h1⟩:=dl_ent (kid_right ht s) h;exact ent_dl ht (p:=s::p) (e:=e) h1
end Cs
end Go.Proofs.YtjpcechcefhcfaaGreat
namespace Go.Proofs.YtjpcechcefhcfaaGreat
namespace Cs
open Tr Cx Sp Rw Classical
theorem entAt_wrapK (x:T) (key:ByteArray) (p:List ByteArray) (q:Int×Int):entAt (wrapT x [key]) (key::p) q=entAt x p q:=by
 show entAt (if key=key then x else none_) p q=_
 rw[if_pos rfl]
theorem map_below {t x':T} {u:List S3} {x r s:K} {key:ByteArray} (ht:RightT 5 t) (hu:OfC (dl t) u) (hx:RK x) (hx':RK (x',x.2)) (hent:∀ p q,entAt x' (key::p) q=entAt x.1 p q) (h:IsJ (t,u) (x',x.2) r) (h2:IsJ (kidAt t.ks key,u) x s):kidAt r.1.ks key=s.1:=by
 have hc:=known_right ht hu
 have hk:RK (kidAt t.ks key,u):=⟨kid_right ht key,hu.right,fun y hy=>by
  have h3:=(leaf_iff (kid_right ht key) y.1 y.2).1 hy;show hasC u y.2.a y.2.n=true;rw[has_dl ht hu]
  exact decide_eq_true (kid_sub ht (List.mem_map.2 ⟨y,hy,rfl⟩))⟩
 have hr:=h.right hc hx';refine tree_ext (d:=5) (.inl (kid_right hr.tree key)) (.inl (h2.right hk hx).tree) fun p q=>?_;rw[h2.ent hk hx];show entAt r.1 (key::p) q=_;rw[h.ent hc hx',hent];rfl
theorem right_kid_known {t:T} {u:List S3} {key:ByteArray} (ht:RightT 5 t) (hu:OfC (dl t) u):RK (kidAt t.ks key,u):=⟨kid_right ht key,hu.right,fun y hy=>by
 show hasC u y.2.a y.2.n=true;rw[has_dl ht hu]
 exact decide_eq_true (kid_sub ht (List.mem_map.2 ⟨y,hy,rfl⟩))⟩
theorem map_keeps {t:T} {u v:List S3} {e:E} {b m:Int} {key:ByteArray} {r:K} (ht:RightT 5 t) (hu:OfC (dl t) u) (he:RightE e) (hkey:KeyOk key) (hd:Dt.rightB b m=true) (hc:(e.a,e.n)∉dl t) (hne:¬(e.a=b∧e.n=m)) (hv:PutC uniF u (oneC b m) v) (hr:RK r) (h:∀ p q,Cs.st r p q=mx (Cs.st (t,u) p q) (mx (Cs.st (none_,v) p q) (Cs.st (wrapT (oneT e) [key],oneC e.a e.n) p q))):r.1=wrapT (oneT e) [key]:=by
 have hue:hasC u e.a e.n=false:=by rw[has_dl ht hu,decide_eq_false hc]
 have hsv:=uni_has hu.right hd hv;refine tree_ext (d:=5) (.inl hr.tree) (.inl (right_wrap1 he hkey)) fun p q=>?_;rw[hr.ent_of p q _ (h p q),← mx_assoc,st_over (a:=(t,u)) (z:=(none_,v)) (fun h1=>uni_sup hu.right hd hv _ _ h1) (fun _=>entAt_none p q),entAt_wrap1]
 by_cases hq:q=(e.a,e.n)
 ·subst hq
  have h1:hasC (oneC e.a e.n) e.a e.n=true:=by rw[has_oneC];exact decide_eq_true ⟨rfl,rfl⟩
  have h2:hasC v e.a e.n=false:=by rw[hsv,hue,decide_eq_false hne];rfl
  rw[st_none (k:=(none_,v)) h2,st_some (k:=(wrapT (oneT e) [key],oneC e.a e.n)) h1,mx_none,entAt_wrap1];rfl
 ·have h3:hasC (oneC e.a e.n) q.1 q.2=false:=by
   rw[has_oneC];exact decide_eq_false fun h4=>hq (Prod.ext h4.1 h4.2)
  rw[st_none (k:=(wrapT (oneT e) [key],oneC e.a e.n)) h3,none_mx,if_neg fun h4=>hq h4.2.symm]
  cases h5:hasC v q.1 q.2 with
  | false=>rw[st_none (k:=(none_,v)) h5];rfl
  | true=>rw[st_some (k:=(none_,v)) h5,entAt_none];rfl
end Cs
end Go.Proofs.YtjpcechcefhcfaaGreat
namespace Go.Proofs.YtjpcechcefhcfaaGreat
namespace Cs
open Tr Cx Sp Rw Classical
def sumE (l:List E):Int:=(l.map fun e=>e.v).sum
theorem one_right {e:E} (he:RightE e):RK (oneT e,oneC e.a e.n):=right_one (right_oneT he) (right_oneC he.1) (by rw[has_oneC];exact decide_eq_true ⟨rfl,rfl⟩)
end Cs
end Go.Proofs.YtjpcechcefhcfaaGreat
namespace Go.Proofs.YtjpcechcefhcfaaGreat
namespace Cs
open Tr Cx Sp Rw Classical
noncomputable def oneK (e:E):K:=(oneT e,oneC e.a e.n)
theorem put_one {a n:Int} (h:Dt.rightB a n=true):PutC uniF [] (oneC a n) (oneC a n):=⟨right_oneC h,fun d m _=>by
 show hasC (oneC a n) d m=(false||hasC (oneC a n) d m)
 rw[Bool.false_or]⟩
def cA (k:Nat):Int:=((k % 4:Nat):Int)
def cN (k:Nat):Int:=1099511627776-(k:Int)
theorem oneK_right {e:E} (he:RightE e):RK (oneK e):=one_right he
def sumL (l:List Int) (k:Nat):Int:=(l.take k).sum
theorem sumL_zero (l:List Int):sumL l 0=0:=by unfold sumL;simp
structure Made (c:K) (l:List Int) (xs:List K):Prop where
 each:∀ (j:Nat) (h:j<xs.length) (h2:j<l.length),xs[j]=oneK ⟨cA j,cN j,⟨#[]⟩,l[j]⟩∧RightE ⟨cA j,cN j,⟨#[]⟩,l[j]⟩∧hasC c.2 (cA j) (cN j)=false
theorem Made.nil (c:K) (l:List Int):Made c l []:=⟨fun j h _=>absurd h (Nat.not_lt_zero j)⟩
theorem Made.snoc {c:K} {l:List Int} {xs:List K} (h:Made c l xs) (hl:xs.length<l.length) {k:K} (hk:k=oneK ⟨cA xs.length,cN xs.length,⟨#[]⟩,l[xs.length]⟩) (he:RightE ⟨cA xs.length,cN xs.length,⟨#[]⟩,l[xs.length]⟩) (hn:hasC c.2 (cA xs.length) (cN xs.length)=false):Made c l (xs++[k]):=⟨fun j hj hj2=>by
 by_cases e:j<xs.length
 ·rw[List.getElem_append_left e]
  exact h.each j e hj2
 ·rw[List.length_append,List.length_singleton]at hj
  obtain rfl:j=xs.length:=by omega
  rw[List.getElem_append_right (Nat.le_refl _)];simp only[Nat.sub_self,List.getElem_cons_zero]
  exact⟨hk,he,hn⟩⟩
theorem Made.right {c:K} {l:List Int} {xs:List K} (h:Made c l xs) (hl:xs.length≤l.length) (j:Nat) (hj:j<xs.length):RK xs[j]:=by
 obtain⟨h1,h2,_⟩:=h.each j hj (by omega);rw[h1];exact oneK_right h2
structure Fore (c:K) (l:List Int) (xs:List K) (k:Nat) (ka:K):Prop where
 all:AllJ (c::xs.take k) ka
 sum:sumE ka.1.es=sumE c.1.es+sumL l k
theorem Fore.zero {c:K} (hc:RK c) (l:List Int) (xs:List K):Fore c l xs 0 c:=⟨by rw[List.take_zero];exact AllJ.one hc,by rw[sumL_zero,Int.add_zero]⟩
end Cs
end Go.Proofs.YtjpcechcefhcfaaGreat
