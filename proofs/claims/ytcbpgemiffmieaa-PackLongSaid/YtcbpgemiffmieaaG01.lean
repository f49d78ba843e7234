/- Texts of the lower layers, and of layer 9, put together. -/
import Derived.Test.YtcbpgemiffmieaaG00
import Derived.Shelf.SlGeneric
import Derived.Shelf.SortG.Plain
import Derived.Shelf.SortG.SortNone
import Derived.Ground.SlgnProg
import Derived.Sort.OwnSortedInts
import Derived.Lib.SliceRun
namespace Go.Proofs.Ytcbpgemiffmieaa
namespace Cs
open Tr Cx Classical
def ltD (x y:Int×Int):Prop:=x.1<y.1∨(x.1=y.1∧x.2<y.2)
theorem tot_dot:Tot ltD:=by
 refine⟨fun a h=>?_,fun a b c h1 h2=>?_,fun a b=>?_⟩
 ·unfold ltD at h;omega
 ·unfold ltD at *;omega
 ·unfold ltD
  rcases a with ⟨a1,a2⟩
  rcases b with ⟨b1,b2⟩
  simp only[Prod.mk.injEq];omega
def keyE (e:E):Int×Int:=(e.a,e.n)
theorem ltE_key {x y:E} : ltE x y↔ltD (keyE x) (keyE y):=ltE_iff
theorem upE {es:List E} (h:es.Pairwise ltE):Up keyE ltD es:=h.imp fun h=>ltE_key.1 h
def ltV (x y:E):Prop:=x.v<y.v∨(x.v=y.v∧ltS x.s y.s)
theorem ltV_irr (x:E):¬ltV x x:=fun h=>by
 rcases h with h | h
 ·omega
 ·exact tot_str.irr _ h.2
theorem ltV_tr {x y z:E} (h1:ltV x y) (h2:ltV y z):ltV x z:=by
 unfold ltV at *
 rcases h1 with h1 | h1 <;> rcases h2 with h2 | h2
 ·exact .inl (by omega)
 ·exact .inl (by omega)
 ·exact .inl (by omega)
 ·exact .inr ⟨by omega,tot_str.tr _ _ _ h1.2 h2.2⟩
theorem ltV_tri (x y:E):ltV x y∨(x.v=y.v∧x.s=y.s)∨ltV y x:=by
 unfold ltV
 rcases tot_int.tri x.v y.v with h | h | h
 ·exact .inl (.inl h)
 ·rcases tot_str.tri x.s y.s with h2 | h2 | h2
  ·exact .inl (.inr ⟨h,h2⟩)
  ·exact .inr (.inl ⟨h,h2⟩)
  ·exact .inr (.inr (.inr ⟨h.symm,h2⟩))
 ·exact .inr (.inr (.inl h))
theorem ltV_le {x y z:E} (h1:¬ltV y x) (h2:¬ltV z y):¬ltV z x:=fun h3=>by
 rcases ltV_tri x y with h4 | h4 | h4
 ·exact h2 (ltV_tr h3 h4)
 ·apply h2
  unfold ltV at h3 ⊢;rw[← h4.1,← h4.2];exact h3
 ·exact h1 h4
noncomputable def grE (x y:E):E:=if ltV x y then y else x
theorem grE_or (x y:E):(ltV x y∧grE x y=y)∨(¬ltV x y∧grE x y=x):=by
 unfold grE
 by_cases h:ltV x y
 ·exact .inl ⟨h,if_pos h⟩
 ·exact .inr ⟨h,if_neg h⟩
theorem E.ext {x y:E} (h1:keyE x=keyE y) (h2:x.v=y.v) (h3:x.s=y.s):x=y:=by
 cases x;cases y
 simp only[keyE,Prod.mk.injEq]at h1
 simp_all
theorem grE_comm {x y:E} (h:keyE x=keyE y):grE x y=grE y x:=by
 rcases grE_or x y with ⟨h1,e1⟩ | ⟨h1,e1⟩ <;> rcases grE_or y x with ⟨h2,e2⟩ | ⟨h2,e2⟩
 ·exact absurd (ltV_tr h1 h2) (ltV_irr _)
 ·rw[e1,e2]
 ·rw[e1,e2]
 ·rw[e1,e2]
  rcases ltV_tri x y with h3 | h3 | h3
  ·exact absurd h3 h1
  ·exact E.ext h h3.1 h3.2
  ·exact absurd h3 h2
theorem grE_assoc (x y z:E):grE (grE x y) z=grE x (grE y z):=by
 rcases grE_or x y with ⟨h1,e1⟩ | ⟨h1,e1⟩ <;> rcases grE_or y z with ⟨h2,e2⟩ | ⟨h2,e2⟩ <;> rw[e1,e2]
 ·rcases grE_or x z with ⟨h3,e3⟩ | ⟨h3,e3⟩
  ·rw[e3]
  ·exact absurd (ltV_tr h1 h2) h3
 ·exact e1.symm
 ·rw[e1]
  rcases grE_or x z with ⟨h3,e3⟩ | ⟨h3,e3⟩
  ·exact absurd h3 (ltV_le h2 h1)
  ·exact e3
theorem grE_key {x y:E} (h:keyE x=keyE y):keyE (grE x y)=keyE x:=by
 rcases grE_or x y with ⟨_,e⟩ | ⟨_,e⟩ <;> rw[e]
 exact h.symm
noncomputable def stE (ca cb:List S3):Option E→Option E→Option E
 | some x,some y=>some (grE x y)
 | some x,none=>if hasC cb x.a x.n=true then none else some x
 | none,some y=>if hasC ca y.a y.n=true then none else some y
 | none,none=>none
theorem stE_left (ca cb:List S3) (x:E):stE ca cb (some x) none=if hasC cb x.a x.n=true then none else some x:=rfl
theorem stE_right (ca cb:List S3) (y:E):stE ca cb none (some y)=if hasC ca y.a y.n=true then none else some y:=rfl
theorem stE_both (ca cb:List S3) (x y:E):stE ca cb (some x) (some y)=some (grE x y):=rfl
theorem keepsE (ca cb:List S3):Keeps keyE (stE ca cb):=by
 refine⟨rfl,fun x z h=>?_,fun y z h=>?_,fun x y z hk h=>?_⟩
 ·rw[stE_left]at h
  split at h
  ·cases h
  ·injection h with h;rw[h]
 ·rw[stE_right]at h
  split at h
  ·cases h
  ·injection h with h;rw[h]
 ·rw[stE_both]at h
  injection h with h;rw[← h];exact grE_key hk
theorem stE_or {ca cb:List S3} {ox oy:Option E} {z:E} (h:stE ca cb ox oy=some z):ox=some z∨oy=some z:=by
 cases ox with
 | none=>
  cases oy with
  | none=>cases h
  | some y=>
   rw[stE_right]at h
   split at h
   ·cases h
   ·exact .inr h
 | some x=>
  cases oy with
  | none=>
   rw[stE_left]at h
   split at h
   ·cases h
   ·exact .inl h
  | some y=>
   rw[stE_both]at h;injection h with h
   rcases grE_or x y with ⟨_,e⟩ | ⟨_,e⟩ <;> rw[e]at h <;> rw[h]
   ·exact .inr rfl
   ·exact .inl rfl
abbrev Kd:=ByteArray×T
def keyK (k:Kd):ByteArray:=k.1
def EmptyT (t:T):Prop:=t.es=[]∧t.ks=[]
theorem EmptyT.eq {t:T} (h:EmptyT t):t=none_:=by rw[← T.eta t,h.1,h.2];rfl
theorem empty_none:EmptyT none_:=⟨rfl,rfl⟩
def treeOf:Option Kd→T | some k=>k.2 | none=>none_
def nameOf:Option Kd→Option Kd→ByteArray
 | some x,_=>x.1
 | none,some y=>y.1
 | none,none=>⟨#[]⟩
noncomputable def stK (f:T→T→T) (x y:Option Kd):Option Kd:=if EmptyT (f (treeOf x) (treeOf y))then none else some (nameOf x y,f (treeOf x) (treeOf y))
theorem stK_some {f:T→T→T} {x y:Option Kd} {z:Kd} (h:stK f x y=some z):¬EmptyT (f (treeOf x) (treeOf y))∧z=(nameOf x y,f (treeOf x) (treeOf y)):=by
 unfold stK at h
 split at h
 ·cases h
 ·rename_i hn
  injection h with h;exact⟨hn,h.symm⟩
theorem keepsK {f:T→T→T} (h0:f none_ none_=none_):Keeps keyK (stK f):=by
 refine⟨?_,fun x z h=>?_,fun y z h=>?_,fun x y z hk h=>?_⟩
 ·unfold stK treeOf
  rw[h0,if_pos empty_none]
 ·rw[(stK_some h).2];rfl
 ·rw[(stK_some h).2];rfl
 ·rw[(stK_some h).2];rfl
noncomputable def joinT:Nat→List S3→List S3→T→T→T
 | 0,_,_,_,_=>none_
 | d+1,ca,cb,a,b=>.mk (mrg keyE ltD (stE ca cb) a.es b.es) (mrg keyK ltS (stK (joinT d ca cb)) a.ks b.ks)
theorem joinT_none:∀ (d:Nat) (ca cb:List S3),joinT d ca cb none_ none_=none_
 | 0,_,_=>rfl
 | d+1,ca,cb=>by
  unfold joinT none_;show T.mk (mrg keyE ltD (stE ca cb) [] []) (mrg keyK ltS (stK (joinT d ca cb)) [] [])=_;rw[mrg_nil,mrg_nil]
noncomputable def entAt (t:T) (p:List ByteArray) (q:Int×Int):Option E:=look keyE (getT t p).es q
theorem entAt_key {t:T} {p:List ByteArray} {q:Int×Int} {e:E} (h:entAt t p q=some e):keyE e=q:=(look_mem h).2
theorem getT_no:∀ p:List ByteArray,getT none_ p=none_
 | []=>rfl
 | k::p=>by
  unfold getT;show getT (kidAt [] k) p=none_;exact getT_no p
theorem entAt_none (p:List ByteArray) (q:Int×Int):entAt none_ p q=none:=by
 unfold entAt;rw[getT_no];rfl
def RT (d:Nat) (t:T):Prop:=RightT d t∨t=none_
theorem RT.succ {d:Nat} {t:T} (h:RT (d+1) t):RightT (d+1) t:=by
 rcases h with h | rfl
 ·exact h
 ·exact RightT.none
theorem RT.kid {d:Nat} {es:List E} {ks:List Kd} (h:RightT (d+1) (.mk es ks)) (k:ByteArray):RT d (kidAt ks k):=by
 rcases kidAt_mem (ks:=ks) (key:=k)with ⟨x,h1,_,h3⟩ | ⟨_,h2⟩
 ·rw[h3];exact .inl (h.2.2.2 x h1).2.2
 ·rw[h2];exact .inr rfl
theorem kidAt_look:∀ (ks:List Kd) (k:ByteArray),kidAt ks k=treeOf (look keyK ks k)
 | [],k=>rfl
 | x::ks,k=>by
  unfold kidAt
  by_cases h:x.1=k
  ·rw[if_pos h,look_cons_eq (key:=keyK) h];rfl
  ·rw[if_neg h,look_cons_ne (key:=keyK) h];exact kidAt_look ks k
theorem kid_join {d:Nat} (ca cb:List S3) {ks ks2:List Kd} (h1:ks.Pairwise fun x y=>ltS x.1 y.1) (h2:ks2.Pairwise fun x y=>ltS x.1 y.1) (k:ByteArray):kidAt (mrg keyK ltS (stK (joinT d ca cb)) ks ks2) k=joinT d ca cb (kidAt ks k) (kidAt ks2 k):=by
 rw[kidAt_look,kidAt_look,kidAt_look,(mrg_all (key:=keyK) tot_str (keepsK (joinT_none d ca cb)) ks ks2 h1 h2).2.2 k];unfold stK
 split
 ·rename_i h
  rw[h.eq];rfl
 ·rfl
theorem ent_join:∀ (d:Nat) (ca cb:List S3) (a b:T),RT d a→RT d b→∀ (p:List ByteArray) (q:Int×Int),entAt (joinT d ca cb a b) p q=stE ca cb (entAt a p q) (entAt b p q)
 | 0,ca,cb,a,b,ha,hb,p,q=>by
  have e:∀ t:T,RT 0 t→t=none_:=fun t h=>by
   rcases h with h | h
   ·exact h.elim
   ·exact h
  rw[e a ha,e b hb,entAt_none];show entAt none_ p q=_;rw[entAt_none];rfl
 | d+1,ca,cb,.mk es ks,.mk es2 ks2,ha,hb,[],q=>by
  show look keyE (mrg keyE ltD (stE ca cb) es es2) q=stE ca cb (look keyE es q) (look keyE es2 q);exact (mrg_all (key:=keyE) tot_dot (keepsE ca cb) es es2 (upE ha.succ.2.1) (upE hb.succ.2.1)).2.2 q
 | d+1,ca,cb,.mk es ks,.mk es2 ks2,ha,hb,k::p,q=>by
  show entAt (kidAt (mrg keyK ltS (stK (joinT d ca cb)) ks ks2) k) p q=stE ca cb (entAt (kidAt ks k) p q) (entAt (kidAt ks2 k) p q);rw[kid_join ca cb ha.succ.2.2.1 hb.succ.2.2.1];exact ent_join d ca cb _ _ (RT.kid ha.succ k) (RT.kid hb.succ k) p q
theorem right_join:∀ (d:Nat) (ca cb:List S3) (a b:T),RightT d a→RightT d b→RightT d (joinT d ca cb a b)
 | 0,_,_,_,_,ha,_=>ha.elim
 | d+1,ca,cb,.mk es ks,.mk es2 ks2,ha,hb=>by
  have m1:=mrg_all (key:=keyE) tot_dot (keepsE ca cb) es es2 (upE ha.2.1) (upE hb.2.1);have m2:=mrg_all (key:=keyK) tot_str (keepsK (joinT_none d ca cb)) ks ks2 ha.2.2.1 hb.2.2.1;refine⟨fun e he=>?_,?_,?_,fun k hk=>?_⟩
  ·obtain⟨ox,oy,h1,h2,h3,_⟩:=mrg_from (key:=keyE) (lt:=ltD) (st:=stE ca cb) rfl es es2 e he
   rcases stE_or h1 with h | h
   ·exact ha.1 e (h2 e h)
   ·exact hb.1 e (h3 e h)
  ·exact m1.1.imp fun h=>ltE_key.2 h
  ·exact m2.1
  ·obtain⟨ox,oy,h1,h2,h3,h4⟩:=mrg_from (key:=keyK) (lt:=ltS) (st:=stK (joinT d ca cb)) (keepsK (joinT_none d ca cb)).zero ks ks2 k hk
   obtain⟨hne,rfl⟩:=stK_some h1
   have hT:∀ (o:Option Kd) (l:List Kd),(∀ x,o=some x→x∈l)→(∀ x∈l,RightT d x.2)→RT d (treeOf o):=fun o l ho hl=>by
    cases o with
    | none=>exact .inr rfl
    | some x=>exact .inl (hl x (ho x rfl))
   have hx:=hT ox ks h2 fun x hx=>(ha.2.2.2 x hx).2.2;have hy:=hT oy ks2 h3 fun x hx=>(hb.2.2.2 x hx).2.2;refine⟨?_,hne,?_⟩
   ·cases ox with
    | some x=>exact (ha.2.2.2 x (h2 x rfl)).1
    | none=>
     cases oy with
     | some y=>exact (hb.2.2.2 y (h3 y rfl)).1
     | none=>exact absurd ⟨rfl,rfl⟩ h4
   ·cases d with
    | zero=>
     have e:∀ t:T,RT 0 t→t=none_:=fun t h=>by
      rcases h with h | h
      ·exact h.elim
      ·exact h
     rw[e _ hx,e _ hy,joinT_none]at hne;exact absurd empty_none hne
    | succ d=>exact right_join (d+1) ca cb _ _ hx.succ hy.succ
theorem leaf_iff:∀ {d:Nat} {t:T},RightT d t→∀ (p:List ByteArray) (e:E),((p,e)∈leaves t↔entAt t p (keyE e)=some e)
 | 0,_,h,_,_=>h.elim
 | d+1,.mk es ks,h,[],e=>by
  have h1:(([]:List ByteArray),e)∈leaves (.mk es ks)↔e∈es:=by
   have:=rootE_leaves es ks;constructor
   ·intro hm
    rw[← this];unfold rootE;rw[List.mem_filterMap];exact⟨_,hm,rfl⟩
   ·intro hm
    rw[leaves_mk];exact List.mem_append_left _ (List.mem_map.2 ⟨e,hm,rfl⟩)
  rw[h1];show _↔look keyE es (keyE e)=some e;rw[look_iff tot_dot (upE h.2.1)];simp
 | d+1,.mk es ks,h,k::p,e=>by
  have h1:(k::p,e)∈leaves (.mk es ks)↔(p,e)∈leaves (kidAt ks k):=by
   have:=under_leaves h k;show _↔(p,e)∈leaves (kidAt (T.mk es ks).ks k);rw[← this];unfold under;rw[List.mem_filterMap];constructor
   ·intro hm
    exact⟨_,hm,by simp⟩
   ·rintro⟨⟨q,e2⟩,hm,hx⟩
    cases q with
    | nil=>cases hx
    | cons k2 q=>
     dsimp only at hx
     split at hx
     ·rename_i hk
      injection hx with hx;injection hx with hx1 hx2;rw[← hx1,← hx2,← hk];exact hm
     ·cases hx
  rw[h1];show _↔entAt (kidAt ks k) p (keyE e)=some e
  rcases RT.kid h k with hr | hn
  ·exact leaf_iff hr p e
  ·rw[hn,leaves_none,entAt_none]
   simp
theorem up_ext {α κ:Type} {key:α→κ} {lt:κ→κ→Prop} (T:Tot lt):∀ {l m:List α},Up key lt l→Up key lt m→(∀ k,look key l k=look key m k)→l=m
 | [],[],_,_,_=>rfl
 | [],y::m,_,_,h=>by have:=h (key y);rw[look_nil,look_cons_eq rfl]at this;cases this
 | x::l,[],_,_,h=>by have:=h (key x);rw[look_nil,look_cons_eq rfl]at this;cases this
 | x::l,y::m,hl,hm,h=>by
  have l1:=List.pairwise_cons.1 hl;have m1:=List.pairwise_cons.1 hm
  have e:key x=key y:=by
   rcases T.tri (key x) (key y)with h1 | h1 | h1
   ·have:=h (key x)
    rw[look_cons_eq rfl,look_none (l:=y::m)]at this
    ·cases this
    ·intro z hz hk
     rcases List.mem_cons.1 hz with rfl | hz
     ·rw[hk]at h1;exact T.irr _ h1
     ·have:=T.tr _ _ _ h1 (m1.1 z hz);rw[hk]at this;exact T.irr _ this
   ·exact h1
   ·have:=h (key y)
    rw[look_cons_eq (l:=m) rfl,look_none (l:=x::l)]at this
    ·cases this
    ·intro z hz hk
     rcases List.mem_cons.1 hz with rfl | hz
     ·rw[hk]at h1;exact T.irr _ h1
     ·have:=T.tr _ _ _ h1 (l1.1 z hz);rw[hk]at this;exact T.irr _ this
  have hxy:x=y:=by
   have:=h (key x);rw[look_cons_eq rfl,look_cons_eq e.symm]at this;injection this
  subst hxy
  congr 1
  refine up_ext T l1.2 m1.2 fun k=>?_
  by_cases hk:key x=k
  ·rw[look_none fun z hz hz2=>?_,look_none fun z hz hz2=>?_]
   ·have:=m1.1 z hz;rw[hz2,hk]at this;exact T.irr _ this
   ·have:=l1.1 z hz;rw[hz2,hk]at this;exact T.irr _ this
  ·have:=h k
   rwa [look_cons_ne hk,look_cons_ne hk]at this
theorem tree_ext:∀ {d:Nat} {t u:T},RT d t→RT d u→(∀ p q,entAt t p q=entAt u p q)→t=u
 | 0,t,u,ht,hu,_=>by
  have e:∀ t:T,RT 0 t→t=none_:=fun t h=>by
   rcases h with h | h
   ·exact h.elim
   ·exact h
  rw[e t ht,e u hu]
 | d+1,.mk es ks,.mk es2 ks2,ht,hu,h=>by
  have h1:=ht.succ;have h2:=hu.succ;have e1:es=es2:=up_ext tot_dot (upE h1.2.1) (upE h2.2.1) fun q=>h [] q;have ek:∀ k,kidAt ks k=kidAt ks2 k:=fun k=>tree_ext (RT.kid h1 k) (RT.kid h2 k) fun p q=>h (k::p) q
  have e2:ks=ks2:=by
   refine up_ext (key:=keyK) tot_str h1.2.2.1 h2.2.2.1 fun k=>?_;have hk:=ek k;rw[kidAt_look,kidAt_look]at hk;have hne:∀ (l:List Kd),(∀ x∈l,KeyOk x.1∧¬(x.2.es=[]∧x.2.ks=[])∧RightT d x.2)→∀ x,look keyK l k=some x→¬x.2=none_:=fun l hl x hx e=>(hl x (look_mem hx).1).2.1 (by rw[e];exact empty_none);have hname:∀ (l:List Kd) x,look keyK l k=some x→x.1=k:=fun l x hx=>(look_mem hx).2
   cases ha:look keyK ks k with
   | none=>
    cases hb:look keyK ks2 k with
    | none=>rfl
    | some y=>
     rw[ha,hb]at hk;exact absurd hk.symm (hne ks2 h2.2.2.2 y hb)
   | some x=>
    cases hb:look keyK ks2 k with
    | none=>
     rw[ha,hb]at hk;exact absurd hk (hne ks h1.2.2.2 x ha)
    | some y=>
     rw[ha,hb]at hk;have a1:=hname ks x ha;have b1:=hname ks2 y hb;have:x=y:=Prod.ext (a1.trans b1.symm) hk;rw[this]
  rw[e1,e2]
end Cs
end Go.Proofs.Ytcbpgemiffmieaa
namespace Go.Proofs.Ytcbpgemiffmieaa
namespace Cs
open Tr Cx Sp Classical
abbrev K:=T×List S3
structure RK (k:K):Prop where
 tree:RightT 5 k.1
 ctx:RightC k.2
 has:∀ x∈leaves k.1,hasC k.2 x.2.a x.2.n=true
noncomputable def rightKB (k:K):Bool:=decide (RK k)
theorem rightKB_iff {k:K} : rightKB k=true↔RK k:=decide_eq_true_iff
theorem not_cen {c:List S3} (h:RightC c) {d n:Int} (hd:¬Cen d):hasC c d n=false:=by
 unfold hasC
 have e:Cx.part c d=[]:=by
  rw[List.eq_nil_iff_forall_not_mem];intro r hr;have:=h.rise.mem _ (part_mem.1 hr)
  apply hd
  unfold Cen;dsimp only at this;omega
 rw[e];rfl
theorem ctx_ext {a b:List S3} (ha:RightC a) (hb:RightC b) (h:∀ d n,hasC a d n=hasC b d n):a=b:=extC ha hb fun d n _=>h d n
noncomputable def st (k:K) (p:List ByteArray) (q:Int×Int):Option (Option E):=if hasC k.2 q.1 q.2=true then some (entAt k.1 p q)else none
noncomputable def mx:Option (Option E)→Option (Option E)→Option (Option E)
 | none,y=>y
 | some x,none=>some x
 | some none,some _=>some none
 | some (some _),some none=>some none
 | some (some x),some (some y)=>some (some (grE x y))
theorem mx_none (y:Option (Option E)):mx none y=y:=by cases y <;> rfl
theorem none_mx (y:Option (Option E)):mx y none=y:=by rcases y with _ | _ | y <;> rfl
def At (q:Int×Int) (x:Option (Option E)):Prop:=∀ e,x=some (some e)→keyE e=q
theorem mx_comm {q:Int×Int} {x y:Option (Option E)} (hx:At q x) (hy:At q y):mx x y=mx y x:=by
 rcases x with _ | _ | x <;> rcases y with _ | _ | y <;> try rfl
 show some (some (grE x y))=some (some (grE y x));rw[grE_comm ((hx x rfl).trans (hy y rfl).symm)]
theorem mx_assoc (x y z:Option (Option E)):mx (mx x y) z=mx x (mx y z):=by
 rcases x with _ | _ | x <;> rcases y with _ | _ | y <;> rcases z with _ | _ | z <;> try rfl
 show some (some (grE (grE x y) z))=some (some (grE x (grE y z)));rw[grE_assoc]
theorem At.mx {q:Int×Int} {x y:Option (Option E)} (hx:At q x) (hy:At q y):At q (mx x y):=by
 rcases x with _ | _ | x <;> rcases y with _ | _ | y <;> intro e he
 ·cases he
 ·cases he
 ·exact hy e he
 ·cases he
 ·cases he
 ·cases he
 ·exact hx e he
 ·cases he
 ·have h1:some (some (grE x y))=some (some e):=he
  injection h1 with h1;injection h1 with h1;rw[← h1,grE_key ((hx x rfl).trans (hy y rfl).symm)];exact hx x rfl
theorem st_at (k:K) (p:List ByteArray) (q:Int×Int):At q (st k p q):=by
 intro e he;unfold st at he
 split at he
 ·injection he with he
  exact entAt_key he
 ·cases he
theorem RK.known {k:K} (h:RK k) {p:List ByteArray} {q:Int×Int} {e:E} (he:entAt k.1 p q=some e):hasC k.2 q.1 q.2=true:=by
 have hk:=entAt_key he;have:=h.has (p,e) ((leaf_iff h.tree p e).2 (by rw[hk];exact he))
 have e1:e.a=q.1:=by rw[← hk];rfl
 have e2:e.n=q.2:=by rw[← hk];rfl
 rw[← e1,← e2];exact this
theorem st_some {k:K} {p:List ByteArray} {q:Int×Int} (h:hasC k.2 q.1 q.2=true):st k p q=some (entAt k.1 p q):=by unfold st;rw[if_pos h]
theorem st_none {k:K} {p:List ByteArray} {q:Int×Int} (h:hasC k.2 q.1 q.2=false):st k p q=none:=by unfold st;rw[if_neg (by simp[h])]
theorem RK.unknown {k:K} (h:RK k) {p:List ByteArray} {q:Int×Int} (hq:hasC k.2 q.1 q.2=false):entAt k.1 p q=none:=by
 cases he:entAt k.1 p q with
 | none=>rfl
 | some e=>rw[h.known he]at hq;cases hq
theorem ext_st {a b:K} (ha:RK a) (hb:RK b) (h:∀ p q,st a p q=st b p q):a=b:=by
 have hc:∀ d n,hasC a.2 d n=hasC b.2 d n:=fun d n=>by
  have:=h [] (d,n)
  cases h1:hasC a.2 d n with
  | true=>
   cases h2:hasC b.2 d n with
   | true=>rfl
   | false=>rw[st_some (q:=(d,n)) h1,st_none (q:=(d,n)) h2]at this;cases this
  | false=>
   cases h2:hasC b.2 d n with
   | false=>rfl
   | true=>rw[st_none (q:=(d,n)) h1,st_some (q:=(d,n)) h2]at this;cases this
 refine Prod.ext (tree_ext (d:=5) (.inl ha.tree) (.inl hb.tree) fun p q=>?_) (ctx_ext ha.ctx hb.ctx hc)
 cases h1:hasC a.2 q.1 q.2 with
 | true=>
  have:=h p q;rw[st_some h1,st_some (by rw[← hc];exact h1)]at this;injection this
 | false=>rw[ha.unknown h1,hb.unknown (by rw[← hc];exact h1)]
structure IsJ (a b x:K):Prop where
 tree:x.1=joinT 5 a.2 b.2 a.1 b.1
 ctx:PutC (fun x y=>x||y) a.2 b.2 x.2
theorem IsJ.eq {a b x y:K} (h:IsJ a b x) (h2:IsJ a b y):x=y:=Prod.ext (h.tree.trans h2.tree.symm) (h.ctx.eq h2.ctx)
theorem IsJ.hasC {a b x:K} (ha:RK a) (hb:RK b) (h:IsJ a b x) (d n:Int):hasC x.2 d n=(hasC a.2 d n||hasC b.2 d n):=by
 by_cases hd:Cen d
 ·exact h.ctx.has d n hd
 ·rw[not_cen h.ctx.right hd,not_cen ha.ctx hd,not_cen hb.ctx hd];rfl
theorem st_two {a b:K} (ha:RK a) (hb:RK b) (p:List ByteArray) (q:Int×Int):mx (st a p q) (st b p q)=if (Cx.hasC a.2 q.1 q.2||Cx.hasC b.2 q.1 q.2)=true then some (stE a.2 b.2 (entAt a.1 p q) (entAt b.1 p q))else none:=by
 cases h1:Cx.hasC a.2 q.1 q.2 with
 | false=>
  rw[st_none h1,mx_none]
  cases h2:Cx.hasC b.2 q.1 q.2 with
  | false=>rw[st_none h2];rfl
  | true=>
   rw[st_some h2,ha.unknown h1];show _=some _
   cases hy:entAt b.1 p q with
   | none=>rfl
   | some y=>
    have hk:=entAt_key hy
    have e1:Cx.hasC a.2 y.a y.n=false:=by rw[show y.a=q.1 by rw[← hk];rfl,show y.n=q.2 by rw[← hk];rfl];exact h1
    rw[stE_right,if_neg (by simp[e1])]
 | true=>
  rw[st_some h1]
  cases h2:Cx.hasC b.2 q.1 q.2 with
  | false=>
   rw[st_none h2,none_mx,hb.unknown h2];show _=some _
   cases hx:entAt a.1 p q with
   | none=>rfl
   | some x=>
    have hk:=entAt_key hx
    have e1:Cx.hasC b.2 x.a x.n=false:=by rw[show x.a=q.1 by rw[← hk];rfl,show x.n=q.2 by rw[← hk];rfl];exact h2
    rw[stE_left,if_neg (by simp[e1])]
  | true=>
   rw[st_some h2];show _=some _
   cases hx:entAt a.1 p q with
   | none=>
    cases hy:entAt b.1 p q with
    | none=>rfl
    | some y=>
     have hk:=entAt_key hy
     have e1:Cx.hasC a.2 y.a y.n=true:=by rw[show y.a=q.1 by rw[← hk];rfl,show y.n=q.2 by rw[← hk];rfl];exact h1
     rw[stE_right,if_pos e1];rfl
   | some x=>
    have hk:=entAt_key hx
    have e1:Cx.hasC b.2 x.a x.n=true:=by rw[show x.a=q.1 by rw[← hk];rfl,show x.n=q.2 by rw[← hk];rfl];exact h2
    cases hy:entAt b.1 p q with
    | none=>rw[stE_left,if_pos e1];rfl
    | some y=>rfl
theorem IsJ.ent {a b x:K} (ha:RK a) (hb:RK b) (h:IsJ a b x) (p:List ByteArray) (q:Int×Int):entAt x.1 p q=stE a.2 b.2 (entAt a.1 p q) (entAt b.1 p q):=by
 rw[h.tree];exact ent_join 5 a.2 b.2 a.1 b.1 (.inl ha.tree) (.inl hb.tree) p q
theorem IsJ.right {a b x:K} (ha:RK a) (hb:RK b) (h:IsJ a b x):RK x:=by
 have ht:RightT 5 x.1:=by rw[h.tree];exact right_join 5 _ _ _ _ ha.tree hb.tree
 refine⟨ht,h.ctx.right,fun y hy=>?_⟩;have h1:=(leaf_iff ht y.1 y.2).1 hy;rw[h.ent ha hb]at h1;rw[h.hasC ha hb]
 rcases stE_or h1 with h2 | h2
 ·have:=ha.known h2
  rw[show Cx.hasC a.2 y.2.a y.2.n=true from this];rfl
 ·have:=hb.known h2
  rw[show Cx.hasC b.2 y.2.a y.2.n=true from this,Bool.or_true]
theorem IsJ.st {a b x:K} (ha:RK a) (hb:RK b) (h:IsJ a b x) (p:List ByteArray) (q:Int×Int):Cs.st x p q=mx (Cs.st a p q) (Cs.st b p q):=by
 rw[st_two ha hb];unfold Cs.st;rw[h.hasC ha hb,h.ent ha hb]
def noneK:K:=(none_,[])
theorem right_noneC:RightC []:=⟨trivial,fun d _=>by rw[part_nil];trivial⟩
theorem right_noneK:RK noneK:=⟨RightT.none (d:=4),right_noneC,fun x hx=>by
 have:x∈leaves none_:=hx;rw[leaves_none]at this
 cases this⟩
theorem st_noneK (p:List ByteArray) (q:Int×Int):st noneK p q=none:=st_none rfl
theorem join_none {a x:K} (ha:RK a) (h:IsJ noneK a x):x=a:=ext_st (h.right right_noneK ha) ha fun p q=>by rw[h.st right_noneK ha,st_noneK,mx_none]
noncomputable def stAll (l:List K) (p:List ByteArray) (q:Int×Int):Option (Option E):=l.foldr (fun k y=>mx (st k p q) y) none
theorem stAll_append (a b:List K) (p:List ByteArray) (q:Int×Int):stAll (a++b) p q=mx (stAll a p q) (stAll b p q):=by
 induction a with
 | nil=>show _=mx none _;rw[mx_none];rfl
 | cons k a ih=>
  show mx (st k p q) (stAll (a++b) p q)=mx (mx (st k p q) (stAll a p q)) (stAll b p q);rw[ih,mx_assoc]
theorem stAll_one (k:K) (p:List ByteArray) (q:Int×Int):stAll [k] p q=st k p q:=none_mx _
theorem stAll_at (l:List K) (p:List ByteArray) (q:Int×Int):At q (stAll l p q):=by
 induction l with
 | nil=>intro e he;cases he
 | cons k l ih=>exact (st_at k p q).mx ih
theorem stAll_reverse (l:List K) (p:List ByteArray) (q:Int×Int):stAll l.reverse p q=stAll l p q:=by
 induction l with
 | nil=>rfl
 | cons k l ih=>
  rw[List.reverse_cons,stAll_append,stAll_one,ih];exact mx_comm (stAll_at l p q) (st_at k p q)
structure AllJ (l:List K) (x:K):Prop where
 right:RK x
 st:∀ p q,Cs.st x p q=stAll l p q
theorem AllJ.eq {l:List K} {x y:K} (h:AllJ l x) (h2:AllJ l y):x=y:=ext_st h.right h2.right fun p q=>(h.st p q).trans (h2.st p q).symm
theorem AllJ.nil:AllJ [] noneK:=⟨right_noneK,fun p q=>st_noneK p q⟩
theorem AllJ.app {a b:List K} {x y z:K} (h:AllJ a x) (h2:AllJ b y) (hj:IsJ x y z):AllJ (a++b) z:=⟨hj.right h.right h2.right,fun p q=>by rw[hj.st h.right h2.right,stAll_append,h.st,h2.st]⟩
theorem AllJ.one {k:K} (h:RK k):AllJ [k] k:=⟨h,fun p q=>(stAll_one k p q).symm⟩
theorem AllJ.reverse {l:List K} {x:K} (h:AllJ l x):AllJ l.reverse x:=⟨h.right,fun p q=>by rw[stAll_reverse];exact h.st p q⟩
end Cs
end Go.Proofs.Ytcbpgemiffmieaa
namespace Go.Proofs.Ytcbpgemiffmieaa
open Go.ChangeShapes Go.WideShapes Go.ChangeAt Go.RowKit
namespace Cs
open Tr Cx Sp
end Cs
end Go.Proofs.Ytcbpgemiffmieaa
namespace Go.Proofs.Ytcbpgemiffmieaa
open Go.Shelf
namespace Sp
def sortI_ren:Go.Shelf.Ren:=⟨fun | 53=>69 | 64=>80 | 63=>79 | 78=>93 | 79=>94 | 70=>84 | 71=>85 | 72=>86 | 73=>87 | 74=>88 | 75=>89 | 59=>90 | 76=>91 | 77=>92 | 88=>95 | 89=>96 | 90=>97 | 91=>98 | 92=>99 | 68=>83 | 96=>100 | n=>n,fun | 22=>91 | 23=>2 | 3=>3 | 51=>125 | 0=>0 | 67=>148 | 69=>49 | 4=>4 | 61=>140 | 60=>139 | 44=>145 | 5=>5 | 9=>9 | 75=>150 | 79=>154 | 83=>156 | 84=>157 | n=>n,fun | n=>n⟩
theorem sortI:Go.Proofs.SlLaysN.n53 Try.prog sortI_ren:={
 mixed:=by kernel_rfl
 f53:=⟨Try.f69.name,by decide,Try.func69.trans (congrArg some (by kernel_rfl))⟩
 f59:=⟨Try.f90.name,by decide,Try.func90.trans (congrArg some (by kernel_rfl))⟩
 f63:=⟨Try.f79.name,by decide,Try.func79.trans (congrArg some (by kernel_rfl))⟩
 f64:=Try.func80.trans (congrArg some (by kernel_rfl))
 f68:=⟨Try.f83.name,by decide,Try.func83.trans (congrArg some (by kernel_rfl))⟩
 f70:=⟨Try.f84.name,by decide,Try.func84.trans (congrArg some (by kernel_rfl))⟩
 f71:=⟨Try.f85.name,by decide,Try.func85.trans (congrArg some (by kernel_rfl))⟩
 f72:=⟨Try.f86.name,by decide,Try.func86.trans (congrArg some (by kernel_rfl))⟩
 f73:=⟨Try.f87.name,by decide,Try.func87.trans (congrArg some (by kernel_rfl))⟩
 f74:=⟨Try.f88.name,by decide,Try.func88.trans (congrArg some (by kernel_rfl))⟩
 f75:=⟨Try.f89.name,by decide,Try.func89.trans (congrArg some (by kernel_rfl))⟩
 f76:=⟨Try.f91.name,by decide,Try.func91.trans (congrArg some (by kernel_rfl))⟩
 f77:=⟨Try.f92.name,by decide,Try.func92.trans (congrArg some (by kernel_rfl))⟩
 f78:=Try.func93.trans (congrArg some (by kernel_rfl))
 f79:=Try.func94.trans (congrArg some (by kernel_rfl))
 f88:=⟨Try.f95.name,by decide,Try.func95.trans (congrArg some (by kernel_rfl))⟩
 f89:=Try.func96.trans (congrArg some (by kernel_rfl))
 f90:=Try.func97.trans (congrArg some (by kernel_rfl))
 f91:=⟨Try.f98.name,by decide,Try.func98.trans (congrArg some (by kernel_rfl))⟩
 f92:=⟨Try.f99.name,by decide,Try.func99.trans (congrArg some (by kernel_rfl))⟩
 f96:=⟨Try.f100.name,by decide,Try.func100.trans (congrArg some (by kernel_rfl))⟩
 t0:=Try.underlying0
 a0:=Try.isAgg0
 z0:=Try.sizeOf0
 v0:=Try.zeroValue0
 t3:=Try.underlying3
 a3:=Try.isAgg3
 z3:=Try.sizeOf3
 v3:=Try.zeroValue3
 t4:=Try.underlying4
 a4:=Try.isAgg4
 z4:=Try.sizeOf4
 v4:=Try.zeroValue4
 t5:=Try.underlying5
 a5:=Try.isAgg5
 z5:=Try.sizeOf5
 v5:=Try.zeroValue5
 t9:=Try.underlying9
 a9:=Try.isAgg9
 z9:=Try.sizeOf9
 v9:=Try.zeroValue9
 t22:=Try.underlying91
 a22:=Try.isAgg91
 z22:=Try.sizeOf91
 v22:=Try.zeroValue91
 t23:=Try.underlying2
 a23:=Try.isAgg2
 z23:=Try.sizeOf2
 v23:=Try.zeroValue2
 t44:=Try.underlying145
 a44:=Try.isAgg145
 z44:=Try.sizeOf145
 v44:=Try.zeroValue145
 t51:=Try.underlying125
 a51:=Try.isAgg125
 z51:=Try.sizeOf125
 v51:=Try.zeroValue125
 t60:=Try.underlying139
 a60:=Try.isAgg139
 z60:=Try.sizeOf139
 v60:=Try.zeroValue139
 t61:=Try.underlying140
 a61:=Try.isAgg140
 z61:=Try.sizeOf140
 v61:=Try.zeroValue140
 t67:=Try.underlying148
 a67:=Try.isAgg148
 z67:=Try.sizeOf148
 v67:=Try.zeroValue148
 t69:=Try.underlying49
 a69:=Try.isAgg49
 z69:=Try.sizeOf49
 v69:=Try.zeroValue49
 t75:=Try.underlying150
 a75:=Try.isAgg150
 z75:=Try.sizeOf150
 v75:=Try.zeroValue150
 t79:=Try.underlying154
 a79:=Try.isAgg154
 z79:=Try.sizeOf154
 v79:=Try.zeroValue154
 t83:=Try.underlying156
 a83:=Try.isAgg156
 z83:=Try.sizeOf156
 v83:=Try.zeroValue156
 t84:=Try.underlying157
 a84:=Try.isAgg157
 z84:=Try.sizeOf157
 v84:=Try.zeroValue157 }
end Sp
end Go.Proofs.Ytcbpgemiffmieaa
namespace Go.Proofs.Ytcbpgemiffmieaa
open Go.ChangeShapes Go.WideShapes Go.ChangeAt Go.RowKit
namespace Sp
def srt (ns:List Int):List Int:=ns.mergeSort fun x y=>decide (x≤y)
theorem srt_len (ns:List Int):(srt ns).length=ns.length:=List.length_mergeSort _
theorem srt_mem {ns:List Int} {x:Int} : x∈srt ns↔x∈ns:=List.mem_mergeSort
theorem srt_le (ns:List Int) {i j:Nat} (hi:i<j) (hj:j<(srt ns).length):(srt ns)[i]≤(srt ns)[j]:=by
 have h:=List.pairwise_mergeSort (le:=fun x y:Int=>decide (x≤y)) (by intro a b c;simp;omega) (by intro a b;simp;omega) ns;exact of_decide_eq_true (List.pairwise_iff_getElem.1 h i j (Nat.lt_trans hi hj) hj hi)
theorem own_emptyI (w:World):Own (w.alloc (.cells #[] 2)) w.heap.size 2 1 (some ⟨w.heap.size,0,none⟩) 0 0 (intsC []):=
 ⟨⟨rfl,.inr ⟨w.heap.size,0,#[],rfl,Nat.le_refl _,heap_alloc_new _ _,Nat.le_refl _,by simp[maxLen],rfl,rfl⟩⟩,by simp[intsC]⟩
set_option maxHeartbeats 400000 in
theorem clone_any (ns:List Int) (n:Nat) (A:Option Addr) (c:Nat) (w:World) (hl:ns.length=n) (hn:n≤900000) (hr:Rd w w.heap.size 1 A n c (intsC ns)) :
  Calls Try.prog 68 #[.slice A n c] w fun e w'=>∃ A' c',e = .returned (.slice A' n c')∧Own w' w.heap.size 2 1 A' n c' (intsC ns)∧Below w.heap.size w w':=by
 have hnil:∀ (W:World) (a:Option Addr) (n c n' c':Nat),(binOp .eql 91 (.slice a n c) (.slice none n' c')).run Try.prog W = .ok (.bool a.isNone) W:=fun W a n c n' c'=>Lib.run_eql_slice_nil W _ _ a n c n' c' Try.underlying91
 cases A with
 | none=>
  have hn0:n=0:=by
   rcases Nat.eq_zero_or_pos n with h | h
   ·exact h
   ·obtain⟨b,o,e,_⟩:=hr.at_ h
    cases e
  subst hn0;have:ns=[]:=List.eq_nil_of_length_eq_zero hl;subst this;clear hr hl;go_enter Try.func68,Try.ntmps68;go_wp2;go_ret;exact⟨none,0,rfl,⟨World.ownsRow_nil _ _ _ _,by simp[intsC]⟩,Below.refl _ _⟩
 | some a=>
  obtain⟨A2,c2,w2,hrun,ho,hb⟩:=run_apps (own_emptyI w) ((hr.alloc (Nat.le_refl _) (.cells #[] 2)).more (by simp)) (by omega) (by simp);rw[List.nil_append,Nat.zero_add]at ho;rw[Nat.zero_add]at hrun;have Hrun:=Lib.hid hrun;have HO:=Lib.hid ho;have HB:=Lib.hid (((Below.refl w.heap.size w).alloc (Nat.le_refl _) (.cells #[] 2)).trans hb);clear hr hl hrun ho hb;go_enter Try.func68,Try.ntmps68;go_wp2_with (at_builtin;refine Lib.wpList_append_run _ rfl _ _ _ _ rfl _ _ rfl rfl _ _ Hrun.out ?_);go_ret;exact⟨A2,c2,rfl,HO.out,HB.out⟩
theorem sort_own (ns:List Int) (n:Nat) (A:Option Addr) (c base:Nat) (w:World) (hl:ns.length=n) (hn:n≤900000) (ho:Own w base 2 1 A n c (intsC ns)) (hb:base≤w.heap.size) :
  Calls Try.prog 69 #[.slice A n c] w fun e w'=>e = .returned (.tuple #[])∧Own w' base 2 1 A n c (intsC (srt ns))∧Below base w w':=by
 rcases Nat.eq_zero_or_pos n with h0 | h0
 ·subst h0
  have:ns=[]:=List.eq_nil_of_length_eq_zero hl;subst this;refine (Go.Proofs.AnyG.slices_Sort_int_none sortI A c w).mono ?_;rintro e w' ⟨rfl,rfl⟩;exact⟨rfl,by rw[show srt []=[] from List.mergeSort_nil];exact ho,Below.refl _ _⟩
 ·subst hl
  rcases ho.row.2 with ⟨_,h⟩ | ⟨g,cap,cur,hv,hg,hh,h1,h2,h3,h4⟩
  ·omega
  ·injection hv with e1 _ e3
   subst e1;subst e3;rw[Nat.mul_one]at h4;refine (Go.Proofs.AnyG.slices_Sort_int sortI g 0 c ns w (holds_of_blockI hh h4) (Array.getElem?_eq_some_iff.1 hh).1 (by omega)).mono ?_;rintro e w' ⟨rfl,k,os,rfl⟩;refine⟨rfl,⟨?_,intsC_one _⟩,(Below.refl base w).grown (grownBy_sortedI _) hb (fun k hk=>by injection hk with hk;omega)⟩;exact ownsRow_sortedI (List.length_mergeSort _) hg hh h1 h2 h3
structure OfP (ys:List Int) (k:Nat) (out:List (Int×Int)):Prop where
 right:RightF 1 out
 has:∀ n,hasB out n=true↔n∈ys.take k
 len:out.length≤k
 last:∀ (j:Nat) (h:j<ys.length),k=j+1→∃ d s,out=d++[(s,ys[j])]
theorem OfP.zero (ys:List Int):OfP ys 0 []:=⟨trivial,fun n=>by simp[hasB],Nat.zero_le _,fun j _ h=>by omega⟩
theorem OfP.first {ys:List Int} (h:0<ys.length) (hb:1≤ys[0]∧ys[0]≤1099511627776):OfP ys 1 [(ys[0],ys[0])]:=by
 refine⟨⟨hb.1,Int.le_refl _,hb.2,trivial⟩,fun n=>?_,by simp,fun j hj e=>?_⟩
 ·rw[List.take_one,List.head?_eq_getElem?,List.getElem?_eq_getElem h]
  simp[hasB];omega
 ·obtain rfl:j=0:=by omega
  exact⟨[],ys[0],rfl⟩
theorem OfP.push {ys _d:List Int} {out:List (Int×Int)} {j:Nat} (h:OfP ys (j+1) out) (hj:j+1<ys.length) (hle:ys[j]+1<ys[j+1]) (hb:ys[j+1]≤1099511627776):OfP ys (j+1+1) (out++[(ys[j+1],ys[j+1])]):=by
 obtain⟨d,s,hd⟩:=h.last j (by omega) rfl;have hr:=h.right;rw[hd]at hr;obtain⟨k1,k2,k3,k4,k5⟩:=hr.of_snoc;dsimp only at k2 k3 k4 k5;refine⟨h.right.snoc (fun q hq=>?_) (by show 1≤ys[j+1];omega) (Int.le_refl _) hb,fun n=>?_,by have:=h.len;simp;omega,fun i hi e=>?_⟩
 ·show q.2+2≤ys[j+1]
  rw[hd]at hq
  rcases List.mem_append.1 hq with hq | hq
  ·have:=k2 q hq;omega
  ·rw[List.mem_singleton.1 hq];show ys[j]+2≤_;omega
 ·rw[has_append,Bool.or_eq_true,h.has n,List.take_succ_eq_append_getElem hj,List.mem_append,has_cons,has_nil,Bool.or_false,List.mem_singleton,decide_eq_true_eq]
  dsimp only;constructor
  ·rintro (h | h)
   ·exact .inl h
   ·right;omega
  ·rintro (h | h)
   ·exact .inl h
   ·right;omega
 ·obtain rfl:i=j+1:=by omega
  exact⟨out,ys[j+1],rfl⟩
theorem OfP.grow {ys:List Int} {d:List (Int×Int)} {s:Int} {j:Nat} (hj:j+1<ys.length) (h:OfP ys (j+1) (d++[(s,ys[j])])) (hle:ys[j]≤ys[j+1]) (hle2:ys[j+1]≤ys[j]+1) (hb:ys[j+1]≤1099511627776):OfP ys (j+1+1) (d++[(s,ys[j+1])]):=by
 obtain⟨k1,k2,k3,k4,k5⟩:=h.right.of_snoc;dsimp only at k2 k3 k4 k5;refine⟨k1.snoc k2 k3 (by show s≤ys[j+1];omega) hb,fun n=>?_,by have:=h.len;simp at this ⊢;omega,fun i hi e=>?_⟩
 ·have h1:=h.has n
  rw[has_append,Bool.or_eq_true,has_cons,has_nil,Bool.or_false,decide_eq_true_eq]at h1;rw[has_append,Bool.or_eq_true,List.take_succ_eq_append_getElem hj,List.mem_append,← h1,has_cons,has_nil,Bool.or_false,List.mem_singleton,decide_eq_true_eq];dsimp only at h1 ⊢;constructor
  ·rintro (h | h)
   ·exact .inl (.inl h)
   ·rcases (by omega:n≤ys[j]∨n=ys[j+1])with h' | h'
    ·exact .inl (.inr ⟨h.1,h'⟩)
    ·exact .inr h'
  ·rintro ((h | h) | h)
   ·exact .inl h
   ·right;omega
   ·right;omega
 ·obtain rfl:i=j+1:=by omega
  exact⟨d,s,rfl⟩
def OfIs (ns:List Int) (w:World) (e:Ending) (w':World):Prop:=
 ((∀ x∈ns,1≤x∧x≤1099511627776)∧∃ l A c,e = .returned (.tuple #[.slice A l.length c,.int .i64 0])∧SetIs ns l∧l.length≤ns.length∧Own w' w.heap.size 121 2 A l.length c (runsC l)∧Below w.heap.size w w') ∨
 ((∃ x∈ns,x<1∨1099511627776<x)∧e = .returned (.tuple #[.slice none 0 0,.int .i64 1])∧Below w.heap.size w w')
set_option maxRecDepth 100000 in
set_option maxHeartbeats 4000000 in
theorem of_any (ns:List Int) (n:Nat) (A:Option Addr) (c:Nat) (w:World) (hl:ns.length=n) (hn:n≤100000) (hr:Rd w w.heap.size 1 A n c (intsC ns)) :
  Calls Try.prog 47 #[.slice A n c] w (OfIs ns w):=by
 have HC:=Lib.hid (clone_any ns n A c w hl (by omega) hr);have HL:=Lib.hid hl;clear hl hr;go_enter Try.func47,Try.ntmps47;go_wp2_with fail;refine HC.out.mono ?_;rintro e w1 ⟨A1,c1,rfl,ho1,hb1⟩;have HS:=Lib.hid (sort_own ns n A1 c1 w.heap.size w1 HL.out (by omega) ho1 hb1.size);have HB1:=Lib.hid hb1;clear ho1 hb1 HC;go_wp2_with fail;refine HS.out.mono ?_;rintro e w2 ⟨rfl,ho2,hb2⟩;have HB2:=Lib.hid (HB1.out.trans hb2);have HR:=Lib.hid ho2.rd;clear ho2 hb2 HS HB1;obtain⟨ys,hys⟩:∃ ys,ys=srt ns:=⟨_,rfl⟩
 have HLE:Hid (∀ (i j:Nat) (hi:i<j) (hj:j<ys.length),ys[i]≤ys[j]):=by
  subst hys;exact fun i j hi hj=>srt_le ns hi hj
 have HYL:Hid (ys.length=n):=by rw[hys];exact (srt_len ns).trans HL.out
 have HM:Hid (∀ x,x∈ys↔x∈ns):=by rw[hys];exact fun x=>srt_mem
 rw[← hys]at HR;clear hys;go_wp2
 go_loopw [5,14] (fun lv iv wr=>∃ (k q:Nat) (A':Option Addr) (c':Nat) (out:List (Int×Int)),k≤n∧lv = .slice A' q c'∧iv = .int .i64 k∧Hid (q=out.length)∧Hid (OfP ys k out)∧Hid (∀ x∈ys.take k,1≤x∧x≤1099511627776)∧Hid (Own wr w2.heap.size 121 2 A' q c' (runsC out))∧Hid (Below w2.heap.size w2 wr)) (fun _ iv _=>n-(intOf iv).toNat)
 case atStart=>exact⟨0,0,none,0,[],by omega,rfl,rfl,rfl,OfP.zero _,Lib.hid (by simp),⟨World.ownsRow_nil _ _ _ _,by simp[runsC]⟩,Below.refl _ _⟩
 case round=>
  obtain⟨k,q,A',c',out,hk,rfl,rfl,HQ,HI,HG,HO,HB⟩:=hrel
  by_cases hlt:k<n
  ·have hky:k<ys.length:=by rw[HYL.out];exact hlt
   obtain⟨b,o,rfl,hbl,hc⟩:=rd_int HR.out HYL.out hlt;have q0:=hc k hky;obtain⟨x,hx⟩:∃ x,x=ys[k]:=⟨_,rfl⟩;have HX:=Lib.hid hx;rw[← hx]at q0;have q0:=(HB.out.cell (p:=⟨b,o+k,none⟩) hbl).trans q0;have HBW:Hid (Below w.heap.size w wr):=HB2.out.trans (HB.out.mono HB2.out.size)
   by_cases h1:x<1
   ·have f1:decide (x<1)=true:=by simpa using h1
    have HE:Hid (∃ x∈ns,x<1∨1099511627776<x):=⟨x,(HM.out x).1 (by rw[hx];exact List.getElem_mem hky),.inl h1⟩;clear hc hx;go_wp2;go_ret2;exact .inr ⟨HE.out,rfl,HBW.out⟩
   ·have f1:decide (x<1)=false:=by simpa using h1
    by_cases h2:1099511627776<x
    ·have f2:decide (1099511627776<x)=true:=by simpa using h2
     have HE:Hid (∃ x∈ns,x<1∨1099511627776<x):=⟨x,(HM.out x).1 (by rw[hx];exact List.getElem_mem hky),.inr h2⟩;clear hc hx;go_wp2;go_ret2;exact .inr ⟨HE.out,rfl,HBW.out⟩
    ·have f2:decide (1099511627776<x)=false:=by simpa using h2
     have HG2:Hid (∀ x∈ys.take (k+1),1≤x∧x≤1099511627776):=fun y hy=>by
      rw[List.take_succ_eq_append_getElem hky]at hy
      rcases List.mem_append.1 hy with hy | hy
      ·exact HG.out y hy
      ·rw[List.mem_singleton.1 hy,← hx];omega
     have hlen:=HI.out.len
     rcases Nat.eq_zero_or_pos k with rfl | hk0
     ·have hout:out=[]:=List.eq_nil_of_length_eq_zero (by omega)
      subst hout;have hq:q=0:=HQ.out;subst hq
      have HY:Hid (OfP ys 1 ([]++[(x,x)])):=by
       unfold Hid;rw[HX.out];exact OfP.first hky (by rw[← hx];omega)
      simp only[Nat.add_zero]at q0;obtain⟨A2,c2,w3,hrun2,ho2',hb2'⟩:=push_run Try.underlying94 infoR wr w2.heap.size wr.heap.size rfl HB.out.size _ ([]:List (Int×Int)) HO.out.row x x (by omega);have Hrun2:=Lib.hid hrun2;have HO2:=Lib.hid ho2';have HB3:=Lib.hid (HB.out.trans hb2');obtain⟨q2,hq2⟩:∃ q2,q2=(([]:List (Int×Int))++[(x,x)]).length:=⟨_,rfl⟩;rw[← hq2]at Hrun2 HO2;have HQ2:=Lib.hid hq2;clear hrun2 ho2' hb2' hq2 hc hx hlen;go_wp2_with (at_builtin;refine Lib.wpList_append_run _ rfl _ _ _ _ rfl _ _ rfl rfl _ _ Hrun2.out ?_);go_roundw
      case rel=>exact⟨1,q2,A2,c2,([]:List (Int×Int))++[(x,x)],by omega,rfl,rfl,HQ2.out,HY.out,HG2.out,HO2.out,HB3.out⟩
      case measure=>simp[intOf];omega
     ·obtain⟨j,rfl⟩:∃ j,k=j+1:=⟨k-1,by omega⟩
      obtain⟨dd,s,hd⟩:=HI.out.last j (by omega) rfl;obtain⟨e0,he0⟩:∃ e,e=ys[j]:=⟨_,rfl⟩;have hord:=HLE.out j (j+1) (by omega) hky
      have hjy:j<ys.length:=by omega
      have he1:=HG.out e0 (by rw[he0,List.take_succ_eq_append_getElem hjy];exact List.mem_append_right _ List.mem_cons_self);rw[← he0]at hd hord;rw[← hx]at hord;subst hd;obtain⟨D,hD⟩:∃ D,D=dd.length:=⟨_,rfl⟩
      have hq:q=D+1:=by rw[hD];have:=HQ.out;simpa using this
      subst hq
      have hD2:D≤400000:=by rw[List.length_append,List.length_singleton]at hlen;omega
      obtain⟨g,rfl,hgb,hgl,hfz,hcell⟩:=Own.place HO.out (by omega);have hfz:=hfz (D*2+1)
      have hcl:wr.cell? ⟨g,D*2+1,none⟩=some (.int .i64 e0):=by
       have:=(runsC_at (dd++[(s,e0)]) D (by simp[hD])).2;rw[show (dd++[(s,e0)])[D]'(by simp[hD])=(s,e0) from by simp[hD]]at this;exact hcell _ _ this
      have eD:(dd++[(s,e0)]).length=D+1:=by simp[hD]
      by_cases he:e0+1<x
      ·have f5:decide (e0+1<x)=true:=by simpa using he
       have HY:Hid (OfP ys (j+1+1) ((dd++[(s,e0)])++[(x,x)])):=by
        unfold Hid;rw[HX.out];exact OfP.push (_d:=[]) HI.out hky (by rw[← hx,← he0];exact he) (by rw[← hx];omega)
       have hown:wr.ownsRow w2.heap.size 121 2 (.slice (some ⟨g,0,none⟩) (D+1) c') (dd++[(s,e0)]).length (runsC (dd++[(s,e0)])):=by rw[eD];exact HO.out.row
       obtain⟨A2,c2,w3,hrun2,ho2',hb2'⟩:=push_run Try.underlying94 infoR wr w2.heap.size wr.heap.size rfl HB.out.size _ (dd++[(s,e0)]) hown x x (by omega);have Hrun2:=Lib.hid hrun2;have HO2:=Lib.hid ho2';have HB3:=Lib.hid (HB.out.trans hb2');obtain⟨q2,hq2⟩:∃ q2,q2=((dd++[(s,e0)])++[(x,x)]).length:=⟨_,rfl⟩;rw[← hq2]at Hrun2 HO2;have HQ2:=Lib.hid hq2;clear hrun2 ho2' hb2' hq2 hcell hD eD hown hc hx he0 hlen he;go_wp2_with (at_builtin;refine Lib.wpList_append_run _ rfl _ _ _ _ rfl _ _ rfl rfl _ _ Hrun2.out ?_);go_roundw
       case rel=>exact⟨j+1+1,q2,A2,c2,(dd++[(s,e0)])++[(x,x)],by omega,rfl,by go_num,HQ2.out,HY.out,HG2.out,HO2.out,HB3.out⟩
       case measure=>simp[intOf];omega
      ·have f5:decide (e0+1<x)=false:=by simpa using he
       have HY:Hid (OfP ys (j+1+1) (dd++[(s,x)])):=by
        unfold Hid;rw[HX.out];refine OfP.grow hky (by rw[← he0];exact HI.out) (by rw[← hx,← he0];exact hord) (by rw[← hx,← he0];omega) (by rw[← hx];omega)
       have HO2:Hid (Own (wr.setCell ⟨g,D*2+1,none⟩ (.int .i64 x)) w2.heap.size 121 2 (some ⟨g,0,none⟩) (D+1) c' (runsC (dd++[(s,x)]))):=by
        rw[hD];exact own_close (by rw[← hD];exact HO.out)
       have HB3:Hid (Below w2.heap.size w2 (wr.setCell ⟨g,D*2+1,none⟩ (.int .i64 x))):=HB.out.setCell hgb _
       have HQ2:Hid (D+1=(dd++[(s,x)]).length):=by unfold Hid;rw[hD];simp
       clear hcell hD eD hc hx he0 hlen he;go_wp2;go_roundw
       case rel=>exact⟨j+1+1,D+1,_,c',dd++[(s,x)],by omega,rfl,by go_num,HQ2.out,HY.out,HG2.out,HO2.out,HB3.out⟩
       case measure=>simp[intOf];omega
  ·obtain rfl:k=n:=by omega
   have hI:=HI.out;have hG:=HG.out;have htk:ys.take k=ys:=List.take_of_length_le (by rw[HYL.out];omega);have HSET:Hid (SetIs ns out):=⟨hI.right,fun m=>by rw[hI.has m,htk];exact HM.out m⟩;have HGD:Hid (∀ x∈ns,1≤x∧x≤1099511627776):=fun x hx=>hG x (by rw[htk];exact (HM.out x).2 hx)
   have HLN:Hid (out.length≤ns.length):=by unfold Hid;rw[HL.out];exact hI.len
   have hq:=HQ.out;subst hq;clear hI hG htk;go_wp2;go_ret2;exact .inl ⟨HGD.out,out,_,_,rfl,HSET.out,HLN.out,HO.out.mono HB2.out.size,HB2.out.trans (HB.out.mono HB2.out.size)⟩
end Sp
end Go.Proofs.Ytcbpgemiffmieaa
namespace Go.Proofs.Ytcbpgemiffmieaa
namespace Cs
open Tr Cx Sp Classical
def oneT (e:E):T:=.mk [e] []
theorem entAt_one (e:E) (p:List ByteArray) (q:Int×Int):entAt (oneT e) p q=if p=[]∧keyE e=q then some e else none:=by
 cases p with
 | nil=>
  show look keyE [e] q=_
  by_cases h:keyE e=q
  ·rw[look_cons_eq h,if_pos ⟨rfl,h⟩]
  ·rw[look_cons_ne h,look_nil,if_neg fun h2=>h h2.2]
 | cons k p=>
  rw[if_neg fun h2=>by cases h2.1];exact entAt_none p q
theorem right_one {e:E} {c:List S3} (he:RightT 5 (oneT e)) (hc:RightC c) (hh:hasC c e.a e.n=true):RK (oneT e,c):=⟨he,hc,fun x hx=>by
 have h1:=(leaf_iff he x.1 x.2).1 hx;rw[entAt_one]at h1
 split at h1
 ·injection h1 with h1
  rw[← h1];exact hh
 ·cases h1⟩
end Cs
end Go.Proofs.Ytcbpgemiffmieaa
namespace Go.Proofs.Ytcbpgemiffmieaa
open Go.ChangeShapes Go.WideShapes Go.ChangeAt Go.RowKit
namespace Pk
open Tr Cx Sp Codec
structure OutC (w:World) (l:List (Addr×Value)) (B a:Nat) (g:Option Nat) (bs:List UInt8) (long:Bool):Prop where
 at_:OutAt w a g bs long
 ba:B≤a
 bg:∀ k,g=some k→B≤k
 cells:∀ x∈l,x.1.block<w.heap.size∧w.cell? x.1=some x.2∧x.1.block≠a∧g≠some x.1.block
def Pt (B a:Nat) (g:Option Nat) (bs:List UInt8) (long:Bool) (w:World) (l:List (Addr×Value)) (s:List UInt8) (wr:World):Prop:=
 ∃ g',OutC wr l B a g' (outB bs long s) (outL bs long s)∧Two a g w wr∧Fresh g g' w
section
variable {w wr w' W:World} {l l2:List (Addr×Value)} {B a:Nat} {g g':Option Nat} {bs s t:List UInt8} {long:Bool}
theorem OutC.later (h:OutC w l B a g bs long) (hb:Below w.heap.size w w'):OutC w' l B a g bs long:=
 ⟨h.at_.below hb,h.ba,h.bg,fun x hx=>by
  obtain⟨h1,h2,h3⟩:=h.cells x hx
  exact⟨Nat.lt_of_lt_of_le h1 hb.size,(hb.cell (p:=x.1) h1).trans h2,h3⟩⟩
theorem OutC.add (h:OutC w l B a g bs long) (hb:Below w.heap.size w w') (h2:∀ x∈l2,w.heap.size≤x.1.block∧x.1.block<w'.heap.size∧w'.cell? x.1=some x.2):OutC w' (l2++l) B a g bs long:=by
 have h':=h.later hb;refine⟨h'.at_,h.ba,h.bg,fun x hx=>?_⟩
 rcases List.mem_append.1 hx with hx | hx
 ·obtain⟨h3,h4,h5⟩:=h2 x hx
  have h6:=h.at_.lt;refine⟨h4,h5,by omega,fun e=>?_⟩;have:=h.at_.glt e;omega
 ·exact h'.cells x hx
theorem OutC.sub (h:OutC w l B a g bs long) (hs:∀ x∈l2,x∈l):OutC w l2 B a g bs long:=⟨h.at_,h.ba,h.bg,fun x hx=>h.cells x (hs x hx)⟩
theorem OutC.bw (h:OutC w l B a g bs long):B≤w.heap.size:=by have h1:=h.at_.lt;have h2:=h.ba;omega
theorem out_none (h:OutAt w a g bs long):outB bs long []=bs∧outL bs long []=long:=by
 have hs:=h.small
 cases long with
 | true=>rw[h.none_ rfl];simp[outB,outL]
 | false=>
  constructor
  ·unfold outB;rw[if_neg (by simp;omega)];simp
  ·unfold outL;simp;omega
theorem Pt.refl (h:OutC w l B a g bs long):Pt B a g bs long w l [] w:=by
 obtain⟨e1,e2⟩:=out_none h.at_;exact⟨g,by rw[e1,e2];exact h,Two.refl _ _ _,Fresh.refl _ _⟩
theorem Pt.add (h:Pt B a g bs long w l s wr) (hb:Below wr.heap.size wr w') (h2:∀ x∈l2,wr.heap.size≤x.1.block∧x.1.block<w'.heap.size∧w'.cell? x.1=some x.2):Pt B a g bs long w (l2++l) s w':=by
 obtain⟨g',h1,h3,h4⟩:=h;exact⟨g',h1.add hb h2,h3.trans h4 (Two.of_below hb),h4⟩
theorem Pt.later (h:Pt B a g bs long w l s wr) (hb:Below wr.heap.size wr w'):Pt B a g bs long w l s w':=by
 obtain⟨g',h1,h3,h4⟩:=h;exact⟨g',h1.later hb,h3.trans h4 (Two.of_below hb),h4⟩
theorem Pt.sub (h:Pt B a g bs long w l s wr) (hs:∀ x∈l2,x∈l):Pt B a g bs long w l2 s wr:=by
 obtain⟨g',h1,h3,h4⟩:=h;exact⟨g',h1.sub hs,h3,h4⟩
theorem Pt.below (h:Pt B a g bs long w l s wr) (hw:OutC w l2 B a g bs long):Below B w wr:=by
 obtain⟨g',_,h3,_⟩:=h;exact h3.below hw.ba hw.bg hw.bw
theorem Pt.then (h:Pt B a g bs long w l s wr) {P:Program} {F:FuncId} {args:Array Value} (hc:∀ g' bs' long',OutC wr l B a g' bs' long'→Calls P F args wr fun e w'=>e = .returned (.tuple #[])∧Pt B a g' bs' long' wr l t w') :
  Calls P F args wr fun e w'=>e = .returned (.tuple #[])∧Hid (Pt B a g bs long w l (s++t) w'):=by
 have h0:=h;obtain⟨g',h1,h3,h4⟩:=h;refine (hc _ _ _ h1).mono fun e w' ⟨he,h5⟩=>⟨he,?_⟩;obtain⟨g2,k1,k3,k4⟩:=h5;obtain⟨e1,e2⟩:=outB_two bs long s t;rw[e1,e2]at k1;exact⟨g2,k1,h3.trans h4 k3,h4.trans h3.size k4⟩
theorem Pt.cell (h:Pt B a g bs long w l s wr) {p:Addr} {v:Value} (hx:(p,v)∈l):wr.cell? p=some v:=by
 obtain⟨g',h1,_⟩:=h;exact (h1.cells _ hx).2.1
theorem Pt.c0 {p:Addr} {v:Value} (h:Pt B a g bs long w ((p,v)::l) s wr):wr.cell? p=some v:=h.cell (by simp)
theorem Pt.c1 {x0:Addr×Value} {p:Addr} {v:Value} (h:Pt B a g bs long w (x0::(p,v)::l) s wr):wr.cell? p=some v:=h.cell (by simp)
theorem Pt.c2 {x0 x1:Addr×Value} {p:Addr} {v:Value} (h:Pt B a g bs long w (x0::x1::(p,v)::l) s wr):wr.cell? p=some v:=h.cell (by simp)
theorem Pt.c3 {x0 x1 x2:Addr×Value} {p:Addr} {v:Value} (h:Pt B a g bs long w (x0::x1::x2::(p,v)::l) s wr):wr.cell? p=some v:=h.cell (by simp)
theorem Pt.c4 {x0 x1 x2 x3:Addr×Value} {p:Addr} {v:Value} (h:Pt B a g bs long w (x0::x1::x2::x3::(p,v)::l) s wr):wr.cell? p=some v:=h.cell (by simp)
theorem took_pt (h:OutC w l B a g bs long) (ht:Took a g bs long s w w'):Pt B a g bs long w l s w':=by
 obtain⟨g',h1,h2,h3⟩:=ht;refine⟨g',⟨h1,h.ba,fun k hk=>?_,fun x hx=>?_⟩,h2,h3⟩
 ·rcases h3 with rfl | rfl | ⟨q,rfl,hq⟩
  ·cases hk
  ·exact h.bg k hk
  ·injection hk with hk
   have:=h.bw;omega
 ·obtain⟨k1,k2,k3,k4⟩:=h.cells x hx
  refine⟨Nat.lt_of_lt_of_le k1 h2.size,(h2.cell (p:=x.1) k1 k3 (fun e=>k4 e.symm)).trans k2,k3,?_⟩
  rcases h3 with rfl | rfl | ⟨q,rfl,hq⟩
  ·intro e;cases e
  ·exact k4
  ·intro e
   injection e with e;omega
theorem pnum_any (v:Int) (hv:I64 v) (h:OutC w l B a g bs long) :
  Calls Try.prog 34 #[.pointer (some ⟨a,0,none⟩),.int .i64 v] w fun e w'=>e = .returned (.tuple #[])∧Pt B a g bs long w l (numB v) w':=
 (num_any a g bs long v w h.at_ hv.1 hv.2).mono fun _ _ ⟨he,ht⟩=>⟨he,took_pt h ht⟩
theorem ptext_any (x:ByteArray) (hx:x.size≤maxLen) (h:OutC w l B a g bs long) :
  Calls Try.prog 35 #[.pointer (some ⟨a,0,none⟩),.string x] w fun e w'=>e = .returned (.tuple #[])∧Pt B a g bs long w l (txtB x) w':=
 (text_any a g bs long x w h.at_ hx).mono fun _ _ ⟨he,ht⟩=>⟨he,took_pt h (by
  have e:txtB x=textB x.data.toList:=by unfold txtB textB;rw[text_len]
  rw[e];exact ht)⟩
end
end Pk
end Go.Proofs.Ytcbpgemiffmieaa
namespace Go.Proofs.Ytcbpgemiffmieaa
open Go.ChangeShapes Go.WideShapes Go.ChangeAt Go.RowKit
namespace Pk
open Tr Cx Cs Sp
def longE (s:ByteArray) (k:Nat):List E:=(List.range k).map fun j:Nat=>(⟨1,(j:Int)+1,s,(j:Int)⟩:E)
theorem longE_len (s:ByteArray) (k:Nat):(longE s k).length=k:=by unfold longE;simp
theorem longE_succ (s:ByteArray) (k:Nat):longE s (k+1)=longE s k++[⟨1,(k:Int)+1,s,(k:Int)⟩]:=by unfold longE;rw[List.range_succ,List.map_append];rfl
def longC (k:Nat):List S3:=if k=0 then []else [(1,1,(k:Int))]
def longT (s:ByteArray) (k:Nat):T:=.mk (longE s k) []
theorem longT_nodes (s:ByteArray) (k:Nat):nodes (longT s k)=k:=by unfold longT;rw[nodes_mk,longE_len];simp
theorem longE_right {s:ByteArray} {k:Nat} (hs:s.size≤30) (hk:k≤2000):∀ e∈longE s k,RightE e:=by
 intro e he;unfold longE at he;obtain⟨j,hj,rfl⟩:=List.mem_map.1 he;have hj:=List.mem_range.1 hj;refine⟨?_,hs,?_,?_⟩
 ·unfold Dt.rightB
  apply decide_eq_true
  dsimp only;omega
 ·dsimp only;omega
 ·dsimp only;omega
theorem longE_rise (s:ByteArray) (k:Nat):(longE s k).Pairwise ltE:=by
 unfold longE;rw[List.pairwise_map];refine List.Pairwise.imp (fun {a b} hab=>?_) List.pairwise_lt_range;rw[ltE_iff];dsimp only;omega
theorem longT_right {s:ByteArray} {k:Nat} (hs:s.size≤30) (hk:k≤2000):RightT 5 (longT s k):=⟨longE_right hs hk,longE_rise s k,by simp,by simp⟩
theorem longC_right {k:Nat} (hk:k≤2000):RightC (longC k):=by
 unfold longC
 split
 ·exact Cs.right_noneC
 ·rename_i h
  refine⟨?_,fun d _=>?_⟩
  ·simp[RiseC]
  ·unfold Cx.part
   by_cases h2:(1:Int)=d
   ·simp[h2,RightF]
    omega
   ·simp[h2,RightF]
theorem longK_right {s:ByteArray} {k:Nat} (hs:s.size≤30) (hk:k≤2000):RK (longT s k,longC k):=by
 refine⟨longT_right hs hk,longC_right hk,fun x hx=>?_⟩;unfold longT at hx;rw[leaves_mk]at hx
 rcases List.mem_append.1 hx with hx | hx
 ·obtain⟨e,he,rfl⟩:=List.mem_map.1 hx
  unfold longE at he;obtain⟨j,hj,rfl⟩:=List.mem_map.1 he;have hj:=List.mem_range.1 hj
  have h0:¬k=0:=by omega
  unfold hasC longC;rw[if_neg h0];unfold Cx.part;simp[hasB];omega
 ·simp[below]at hx
def longW (s:ByteArray) (m k:Nat):Nat:=2+(numB m).length+((List.range k).map fun j:Nat=>1+(numB ((j:Int)+1)).length+(txtB s).length+(numB j).length).sum
theorem longW_succ (s:ByteArray) (m k:Nat):longW s m (k+1)=longW s m k+(1+(numB ((k:Int)+1)).length+(txtB s).length+(numB k).length):=by
 unfold longW;rw[List.range_succ,List.map_append,List.sum_append];simp;omega
theorem numB_small {v:Int} (h : -64≤v∧v≤63):(numB v).length=1:=by
 unfold numB
 have h1:foldN v<128:=by unfold foldN;split <;> omega
 rw[sev_lt h1];rfl
theorem longE_bytes (s:ByteArray) (k:Nat):((longE s k).flatMap entB).length=((List.range k).map fun j:Nat=>1+(numB ((j:Int)+1)).length+(txtB s).length+(numB j).length).sum:=by
 induction k with
 | zero=>rfl
 | succ k ih=>
  rw[longE_succ,List.flatMap_append,List.length_append,ih,List.range_succ,List.map_append,List.sum_append];have h1:=numB_small (v:=1) (by omega);simp only[List.flatMap_cons,List.flatMap_nil,List.append_nil,List.map_cons,List.map_nil,List.sum_cons,List.sum_nil];unfold entB;simp only[List.length_append,h1];omega
theorem long_bytes (s:ByteArray) (k:Nat):(causB (longT s k,longC k)).length=longW s k k+(if k=0 then 0 else 2+(numB k).length):=by
 unfold causB longT ctxB;dsimp only;rw[treeB_mk];unfold listB longW;simp only[List.length_append,longE_bytes,longE_len,List.flatMap_nil,List.length_nil];have h0:=numB_small (v:=(((0:Nat):Int))) (by omega);unfold longC
 by_cases hk:k=0
 ·subst hk
  have h5:=numB_small (v:=0) (by omega);simp;omega
 ·rw[if_neg hk,if_neg hk]
  have h1:=numB_small (v:=1) (by omega);simp only[List.length_cons,List.length_nil,List.flatMap_cons,List.flatMap_nil,List.append_nil];unfold spB;simp only[List.length_append,h0];have h2:=numB_small (v:=(((0+1:Nat):Int))) (by omega);rw[h2,h1];omega
theorem longW_le {s:ByteArray} {m k:Nat} (hs:s.size≤30) (hm:m≤2000) (hk:k≤2000):longW s m k≤12+61*k:=by
 unfold longW;have h0:=num_le (v:=(m:Int)) ⟨by omega,by omega⟩
 have h1:∀ l:List Nat,(∀ j∈l,j≤2000)→(l.map fun j:Nat=>1+(numB ((j:Int)+1)).length+(txtB s).length+(numB j).length).sum≤61*l.length:=by
  intro l
  induction l with
  | nil=>simp
  | cons j l ih=>
   intro hl;have hj:=hl j (List.mem_cons_self);have g1:=num_le (v:=(j:Int)+1) ⟨by omega,by omega⟩;have g2:=num_le (v:=(j:Int)) ⟨by omega,by omega⟩;have g3:=txt_le (s:=s) (by omega);have g4:=ih fun i hi=>hl i (List.mem_cons_of_mem _ hi);rw[List.map_cons,List.sum_cons,List.length_cons];omega
 have h2:=h1 (List.range k) fun j hj=>by have:=List.mem_range.1 hj;omega
 rw[List.length_range]at h2;omega
end Pk
end Go.Proofs.Ytcbpgemiffmieaa
