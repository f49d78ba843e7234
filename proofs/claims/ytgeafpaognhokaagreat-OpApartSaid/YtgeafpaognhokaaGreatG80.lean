/- Texts of the lower layers, and of layer 9, put together. -/
import Derived.Test.YtgeafpaognhokaaGreatOpApply
import Derived.Test.YtgeafpaognhokaaGreatG50
import Derived.Test.YtgeafpaognhokaaGreatG60
import Derived.Test.YtgeafpaognhokaaGreatG10
import Derived.Test.YtgeafpaognhokaaGreatG00
import Derived.Test.YtgeafpaognhokaaGreatOpPView
import Derived.Test.YtgeafpaognhokaaGreatG70
import Derived.Test.YtgeafpaognhokaaGreatTreeRight
import Derived.Test.YtgeafpaognhokaaGreatOpRef5
import Derived.Test.YtgeafpaognhokaaGreatOpView
namespace Go.Proofs.YtgeafpaognhokaaGreat
open Go.ChangeShapes Go.WideShapes Go.ChangeAt Go.RowKit
namespace Cs
open Tr Cx Sp Rw Classical
structure SM where
 know:Nat→CP
 num:Nat→Nat
 ev:List EvP
 A:Option Addr
 n:Nat
 c:Nat
def SM.own (s:SM):Option Nat:=(Value.slice s.A s.n s.c).ownBlock
def SM.evs (s:SM):List Ev:=s.ev.map EvP.ev
def SM.push (s:SM) (x:EvP) (A:Option Addr) (c:Nat):SM:={ s with ev:=s.ev++[x],A:=A,n:=s.n+1,c:=c }
structure StK (s:SM):Prop where
 made:Made15 s.evs
 knows:∀ i,i<3→Knows s.evs (s.know i).k
 name:∀ x∈s.evs,∃ i,i<3∧x.d.1=((i:Nat):Int)∧1≤x.d.2∧x.d.2≤((s.num i:Nat):Int)∧hasC (s.know i).k.2 x.d.1 x.d.2=true
 numb:∀ i,s.num i≤s.ev.length
 sr:∀ x∈s.evs,RightC x.seen
structure StM (g:Nat) (v0:World) (s:SM) (w:World):Prop where
 gl:v0.heap.size≤g
 below:Below v0.heap.size v0 w
 free:Free g w
 ck:∀ i,i<3→w.cell? ⟨g,i*3,none⟩=some (.slice (s.know i).e.A (s.know i).e.n (s.know i).e.c)∧w.cell? ⟨g,i*3+1,none⟩=some (.slice (s.know i).d.A (s.know i).d.n (s.know i).d.c)∧w.cell? ⟨g,i*3+2,none⟩=some (.slice (s.know i).c.A (s.know i).c.n (s.know i).c.c)
 cn:∀ i,i<3→w.cell? ⟨g,9+i,none⟩=some (.int .i64 ((s.num i:Nat):Int))
 ca:w.cell? ⟨g,12,none⟩=some (.slice s.A s.n s.c)
 know:∀ i,i<3→NoC w (fun b=>g<b∧s.own≠some b) (s.know i)
 row:Own w (g+1) 79 7 s.A s.n s.c (s.ev.flatMap evC)
 len:s.ev.length=s.n
 path:∀ x∈s.ev,Rd v0 v0.heap.size 1 x.p.A x.p.n x.p.c (Tr.strs x.ev.o.path)∧x.p.n≤900
 seen:∀ x∈s.ev,RO w (fun b=>g<b∧s.own≠some b) 3 x.q.A x.q.n x.q.c (spsC x.ev.seen)∧x.ev.seen.length=x.q.n
theorem StM.later {g:Nat} {v0 w w':World} {s:SM} (h:StM g v0 s w) (hb:Below w.heap.size w w'):StM g v0 s w':=by
 have hg:=h.free.1;refine⟨h.gl,h.below.trans (hb.mono h.below.size),h.free.later hb,fun i hi=>?_,fun i hi=>(hb.cell (p:=⟨g,9+i,none⟩) hg).trans (h.cn i hi),(hb.cell (p:=⟨g,12,none⟩) hg).trans h.ca,fun i hi=>(h.know i hi).later hb,own_later h.row hb,h.len,h.path,fun x hx=>⟨(h.seen x hx).1.keep hb.size fun b _ hlt=>hb.block b hlt,(h.seen x hx).2⟩⟩;obtain⟨c0,c1,c2⟩:=h.ck i hi;exact⟨(hb.cell (p:=⟨g,i*3,none⟩) hg).trans c0,(hb.cell (p:=⟨g,i*3+1,none⟩) hg).trans c1,(hb.cell (p:=⟨g,i*3+2,none⟩) hg).trans c2⟩
theorem set_same {w:World} {g o:Nat} {v u:Value} (hf:Free g w) (hc:w.cell? ⟨g,o,none⟩=some v):(w.setCell ⟨g,o,none⟩ u).cell? ⟨g,o,none⟩=some u:=by
 have m:=hf.2 o;go_simp
theorem set_other {w:World} {g o o':Nat} {u:Value} (h:o'≠o):(w.setCell ⟨g,o,none⟩ u).cell? ⟨g,o',none⟩=w.cell? ⟨g,o',none⟩:=World.cell?_setCell_other w _ _ u (fun e=>by injection e with _ e;exact h e.symm)
theorem NoC.set {w:World} {g o:Nat} {ok:Nat→Prop} {p:CP} {u:Value} (h:NoC w ok p) (hk:∀ b,ok b→b≠g):NoC (w.setCell ⟨g,o,none⟩ u) ok p:=h.keep (by simp[World.setCell]) fun b hb _=>Below.heap_setCell _ ⟨g,o,none⟩ _ b (fun e=>hk b hb e)
theorem ro_setg {w:World} {g o sz n c:Nat} {ok:Nat→Prop} {A:Option Addr} {xs:List Value} {u:Value} (h:RO w ok sz A n c xs) (hk:∀ b,ok b→b≠g):RO (w.setCell ⟨g,o,none⟩ u) ok sz A n c xs:=h.keep (by simp[World.setCell]) fun b hb _=>Below.heap_setCell _ ⟨g,o,none⟩ _ b (fun e=>hk b hb e)
theorem StM.push {g:Nat} {v0 w w':World} {s:SM} (h:StM g v0 s w) {x:EvP} {A':Option Addr} {c':Nat} (hs:w.heap.size≤w'.heap.size) (ho:Own w' (g+1) 79 7 A' (s.n+1) c' ((s.ev++[x]).flatMap evC)) (hb:Below (g+1) w w') (hk:∀ b,b<w.heap.size→s.own≠some b→w'.heap[b]?=w.heap[b]?∧(Value.slice A' (s.n+1) c').ownBlock≠some b)
  (hp:Rd v0 v0.heap.size 1 x.p.A x.p.n x.p.c (Tr.strs x.ev.o.path)∧x.p.n≤900) (hq:RO w (fun b=>g<b∧s.own≠some b) 3 x.q.A x.q.n x.q.c (spsC x.ev.seen)∧x.ev.seen.length=x.q.n):StM g v0 (s.push x A' c') (w'.setCell ⟨g,12,none⟩ (.slice A' (s.n+1) c')):=by
 have hg:=h.free.1;have hgl:=h.gl
 have hk2:∀ b,(g<b∧(s.push x A' c').own≠some b)→b≠g:=fun b hb=>by omega
 have hcell:∀ o,w'.cell? ⟨g,o,none⟩=w.cell? ⟨g,o,none⟩:=fun o=>hb.cell (p:=⟨g,o,none⟩) (Nat.lt_succ_self g);have hfree:Free g w':=⟨Nat.lt_of_lt_of_le hg hs,fun j=>(hb.frozen (p:=⟨g,j,none⟩) (Nat.lt_succ_self g)).trans (h.free.2 j)⟩;have hno:∀ {p:CP},NoC w (fun b=>g<b∧s.own≠some b) p→NoC w' (fun b=>g<b∧(s.push x A' c').own≠some b) p:=fun {p} hn=>((hn.mono (ok':=fun b=>(g<b∧s.own≠some b)∧(s.push x A' c').own≠some b) (fun b hb hlt=>⟨hb,(hk b hlt hb.2).2⟩)).keep hs (fun b hb hlt=>(hk b hlt hb.1.2).1)).mono (fun b hb _=>⟨hb.1.1,hb.2⟩);have hro:∀ {sz n c:Nat} {A:Option Addr} {xs:List Value},RO w (fun b=>g<b∧s.own≠some b) sz A n c xs→RO w' (fun b=>g<b∧(s.push x A' c').own≠some b) sz A n c xs:=fun {_ _ _ _ _} hn=>((hn.mono (ok':=fun b=>(g<b∧s.own≠some b)∧(s.push x A' c').own≠some b) (fun b hb hlt=>⟨hb,(hk b hlt hb.2).2⟩)).keep hs (fun b hb hlt=>(hk b hlt hb.1.2).1)).mono (fun b hb _=>⟨hb.1.1,hb.2⟩)
 refine⟨hgl,(h.below.trans (hb.mono (by omega))).setCell (p:=⟨g,12,none⟩) hgl _,hfree.set _ _,fun j hj=>?_,fun j hj=>?_,set_same hfree ((hcell 12).trans h.ca),fun j hj=>(hno (h.know j hj)).set hk2,ho.set_below (a:=⟨g,12,none⟩) (by show g<g+1;omega) _,?_,fun y hy=>?_,fun y hy=>?_⟩
 ·obtain⟨d0,d1,d2⟩:=h.ck j hj
  exact⟨(set_other (by omega)).trans ((hcell _).trans d0),(set_other (by omega)).trans ((hcell _).trans d1),(set_other (by omega)).trans ((hcell _).trans d2)⟩
 ·exact (set_other (by omega)).trans ((hcell _).trans (h.cn j hj))
 ·show (s.ev++[x]).length=s.n+1
  rw[List.length_append,h.len];rfl
 ·rcases List.mem_append.1 (show y∈s.ev++[x] from hy)with hy | hy
  ·exact h.path y hy
  ·rw[List.mem_singleton.1 hy];exact hp
 ·rcases List.mem_append.1 (show y∈s.ev++[x] from hy)with hy | hy
  ·exact⟨ro_setg (hro (h.seen y hy).1) hk2,(h.seen y hy).2⟩
  ·rw[List.mem_singleton.1 hy];exact⟨ro_setg (hro hq.1) hk2,hq.2⟩
structure Upd (g:Nat) (o:Option Nat) (w w':World):Prop where
 size:w.heap.size≤w'.heap.size
 keep:∀ b,b<w.heap.size→b≠g→o≠some b→w'.heap[b]?=w.heap[b]?
theorem Upd.refl (g:Nat) (o:Option Nat) (w:World):Upd g o w w:=⟨Nat.le_refl _,fun _ _ _ _=>rfl⟩
theorem Upd.later {g:Nat} {o:Option Nat} {w v v':World} (h:Upd g o w v) (hb:Below v.heap.size v v'):Upd g o w v':=⟨Nat.le_trans h.size hb.size,fun b hlt h1 h2=>(hb.block b (Nat.lt_of_lt_of_le hlt h.size)).trans (h.keep b hlt h1 h2)⟩
theorem Upd.set {g:Nat} {o:Option Nat} {w v:World} (h:Upd g o w v) (k:Nat) (u:Value):Upd g o w (v.setCell ⟨g,k,none⟩ u):=⟨by simpa [World.setCell] using h.size,fun b hlt h1 h2=>(Below.heap_setCell _ ⟨g,k,none⟩ _ b (fun e=>h1 e)).trans (h.keep b hlt h1 h2)⟩
theorem Upd.push {g:Nat} {o:Option Nat} {w v v':World} (h:Upd g o w v) (hs:v.heap.size≤v'.heap.size) (hk:∀ b,b<v.heap.size→o≠some b→v'.heap[b]?=v.heap[b]?):Upd g o w v':=⟨Nat.le_trans h.size hs,fun b hlt h1 h2=>(hk b (Nat.lt_of_lt_of_le hlt h.size) h2).trans (h.keep b hlt h1 h2)⟩
end Cs
end Go.Proofs.YtgeafpaognhokaaGreat
namespace Go.Proofs.YtgeafpaognhokaaGreat
open Go.ChangeShapes Go.WideShapes Go.ChangeAt Go.RowKit
namespace Cs
open Tr Cx Sp Rw Classical
def FullAt (t:T) (o:OpM) (j:Nat):Prop:=brings o.act∧((∃ (k:Nat) (h:k<(endP o).length),j≤k∧24≤(getT t ((endP o).take k)).ks.length∧(endP o)[k]∉keysOf (getT t ((endP o).take k)).ks)∨(o.act=5∧24≤(getT t (endP o)).es.length))
theorem full_zero {t:T} {o:OpM} : fullB t o=true↔FullAt t o 0:=by
 unfold fullB FullAt;rw[decide_eq_true_iff];exact and_congr Iff.rfl (or_congr ⟨fun ⟨k,h,h2⟩=>⟨k,h,Nat.zero_le _,h2⟩,fun ⟨k,h,_,h2⟩=>⟨k,h,h2⟩⟩ Iff.rfl)
theorem FullAt.less {t:T} {o:OpM} {i j:Nat} (h:FullAt t o j) (hi:i≤j):FullAt t o i:=⟨h.1,h.2.elim (fun ⟨k,hk,h1,h2⟩=>.inl ⟨k,hk,Nat.le_trans hi h1,h2⟩) .inr⟩
structure DeltaAt (t:T) (o:OpM) (d:Int×Int) (j:Nat) (x:K):Prop where
 tree:x.1=if brings o.act then wrapT (oneT (entOf ⟨d,o,[]⟩)) ((endP o).drop j)else none_
 ctx:∃ u,OfC (seesL t o) u∧PutC uniF u (oneC d.1 d.2) x.2
structure UpIs (t:T) (o:OpM) (d:Int×Int) (j:Nat) (x:K) (z:Int):Prop where
 er:z=if FullAt t o j then 4 else 0
 yes:z=0→DeltaAt t o d j x∧x.2.length≤4*nodes t+4
 no:¬z=0→x=noneK
theorem right_drop {o:OpM} (h:OpOk o) {e:E} (he:RightE e) (j:Nat):RightT (1+((endP o).drop j).length) (wrapT (oneT e) ((endP o).drop j)):=
 RightT.wrap (d:=1) (right_oneT (d:=0) he) (by unfold oneT;simp[T.es]) fun k hk=>(end_keys h).1 k (List.mem_of_mem_drop hk)
theorem wrapE_zero {x:T} {key:ByteArray} (hx:RightT 4 x) (hk:KeyOk key):wrapE x [key]=0:=by
 unfold wrapE
 have hb:badB [key]=false:=badB_iff.2 fun k h=>by rw[List.mem_singleton.1 h];exact hk
 have hl:=levels_le hx;rw[if_neg (by rw[Tr.rightB_iff.2 (hx.le (by omega)),hb];simp),if_neg (by simp)]
 split
 ·rfl
 ·rw[if_neg (by simp;omega)]
theorem deltaAt_right {t:T} {o:OpM} {a n:Int} {j:Nat} {x:K} (ho:OpOk o) (hd:Dt.rightB a n=true) (h:DeltaAt t o (a,n) j x):RK x∧(0<j→RightT 4 x.1):=by
 obtain⟨u,hu,hv⟩:=h.ctx;have hh:=uni_self hu.right hd hv;have hc:=hv.right
 by_cases hb:brings o.act
 ·have hx:x=(wrapT (oneT (entOf ⟨(a,n),o,[]⟩)) ((endP o).drop j),x.2):=Prod.ext (by rw[h.tree,if_pos hb]) rfl
  have hr:=right_drop ho (right_ent ho hd) j;have hl:=(end_keys ho).2;rw[List.length_drop]at hr;refine⟨?_,fun hj=>by rw[hx];exact hr.le (by omega)⟩;have hr:=hr.le (show _≤5 by omega);rw[hx];refine⟨hr,hc,fun y hy=>?_⟩;have he:=(leaf_iff hr y.1 y.2).1 hy;rw[entAt_wrap]at he
  split at he
  ·rename_i h2
   have h3:keyE y.2=(a,n):=by rw[← h2.2];rfl
   injection he with he;show hasC x.2 y.2.a y.2.n=true;rw[← he];exact hh
  ·cases he
 ·have hx:x=(none_,x.2):=Prod.ext (by rw[h.tree,if_neg hb]) rfl
  rw[hx];exact⟨right_gone hc,fun _=>RightT.none⟩
theorem endP_at {o:OpM} {j:Nat} (hj:j<o.path.length):∃ h:j<(endP o).length,(endP o)[j]=o.path[j]∧(endP o).take j=o.path.take j:=by
 unfold endP
 split
 ·refine⟨by rw[List.length_append];omega,List.getElem_append_left hj,List.take_append_of_le_length (by omega)⟩
 ·exact⟨hj,rfl,rfl⟩
theorem UpIs.step {t:T} (ht:RightT 5 t) {o:OpM} {a n:Int} {j:Nat} (ho:OpOk o) (hd:Dt.rightB a n=true) (hj:j<o.path.length) {x:K} (h:UpIs t o (a,n) (j+1) x 0) :
  UpIs t o (a,n) j (updK (getT t (o.path.take j)) o.path[j] x) (updE (getT t (o.path.take j)) o.path[j] x):=by
 obtain⟨hda,hlen⟩:=h.yes rfl
 have hnf:¬FullAt t o (j+1):=fun hf=>by have h2:=h.er;rw[if_pos hf]at h2;cases h2
 obtain⟨hk,hr4⟩:=deltaAt_right ho hd hda;have hr4:=hr4 (Nat.succ_pos j);have hkey:KeyOk o.path[j]:=path_keys ho.path _ (List.getElem_mem hj);obtain⟨hje,hej,het⟩:=endP_at hj;obtain⟨X,hX⟩:∃ X,X=getT t (o.path.take j):=⟨_,rfl⟩;obtain⟨key,hky⟩:∃ k,k=o.path[j]:=⟨_,rfl⟩;rw[← hky]at hkey hej ⊢;rw[← hX]
 have hXr:RightT 5 X:=by rw[hX];exact getT_right ht _
 have hw:wrapE x.1 [key]=0:=wrapE_zero hr4 hkey
 have hup:updE X key x=if mroomB X key x.1=true then 0 else 4:=updE_of (Tr.rightB_iff.2 hXr) (rightKB_iff.2 hk) hw (by omega)
 have hdrop:(endP o).drop j=key::(endP o).drop (j+1):=by rw[← hej];exact List.drop_eq_getElem_cons hje
 by_cases hb:brings o.act
 ·have hx1:x.1=wrapT (oneT (entOf ⟨(a,n),o,[]⟩)) ((endP o).drop (j+1)):=by rw[hda.tree,if_pos hb]
  have hne:¬(x.1.es=[]∧x.1.ks=[]):=by rw[hx1];exact wrap_some (by unfold oneT;simp[T.es]) _
  have hmr:mroomB X key x.1=roomB X key:=by unfold mroomB;rw[decide_eq_false hne,Bool.false_or]
  have hfull:FullAt t o j↔roomB X key=false:=by
   unfold roomB;rw[Bool.or_eq_false_iff,decide_eq_false_iff_not,decide_eq_false_iff_not];constructor
   ·rintro⟨_,⟨k,hk,h1,h2,h3⟩ | h1⟩
    ·by_cases e:j=k
     ·subst e
      rw[het,← hX]at h2 h3;rw[hej]at h3;exact⟨by omega,h3⟩
     ·exact absurd ⟨hb,.inl ⟨k,hk,by omega,h2,h3⟩⟩ hnf
    ·exact absurd ⟨hb,.inr h1⟩ hnf
   ·rintro⟨h1,h2⟩
    refine⟨hb,.inl ⟨j,hje,Nat.le_refl _,?_,?_⟩⟩
    ·rw[het,← hX];omega
    ·rw[het,← hX,hej];exact h2
  rw[hmr]at hup
  cases hrm:roomB X key with
  | true=>
   rw[hrm,if_pos rfl]at hup
   have hnf2:¬FullAt t o j:=fun hf=>by have h2:=hfull.1 hf;rw[hrm]at h2;cases h2
   obtain⟨_,_,_,hkk⟩:=upd_ok hup;rw[hup,hkk];refine⟨(if_neg hnf2).symm,fun _=>⟨⟨?_,hda.ctx⟩,hlen⟩,fun h2=>absurd rfl h2⟩;show wrapR x.1 [key]=_;unfold wrapR;rw[if_pos ⟨hw,hne⟩,if_pos hb,hdrop,hx1];rfl
  | false=>
   rw[hrm,if_neg (by decide)]at hup
   have hne4:¬updE X key x=0:=by rw[hup];decide
   rw[upd_not hne4,hup];exact⟨(if_pos (hfull.2 hrm)).symm,fun h2=>absurd h2 (by decide),fun _=>rfl⟩
 ·have hx1:x.1=none_:=by rw[hda.tree,if_neg hb]
  have hem:x.1.es=[]∧x.1.ks=[]:=by rw[hx1];exact⟨rfl,rfl⟩
  have hmr:mroomB X key x.1=true:=by unfold mroomB;rw[decide_eq_true hem,Bool.true_or]
  rw[hmr,if_pos rfl]at hup;obtain⟨_,_,_,hkk⟩:=upd_ok hup;rw[hup,hkk];refine⟨(if_neg fun hf=>hb hf.1).symm,fun _=>⟨⟨?_,hda.ctx⟩,hlen⟩,fun h2=>absurd rfl h2⟩;show wrapR x.1 [key]=_;unfold wrapR;rw[if_neg (fun h2=>h2.2 hem),if_neg hb]
theorem UpIs.nodes {t:T} {o:OpM} {d:Int×Int} {j:Nat} {x:K} {z:Int} (ho:OpOk o) (h:UpIs t o d j x z):Tr.nodes x.1≤5:=by
 by_cases hz:z=0
 ·rw[(h.yes hz).1.tree]
  split
  ·rw[Tr.nodes_wrap,nodes_one,List.length_drop]
   have h2:=(end_keys ho).2;omega
  ·rw[nodes_none];omega
 ·rw[h.no hz];show Tr.nodes none_≤5;rw[nodes_none];omega
theorem UpIs.len {t:T} {o:OpM} {d:Int×Int} {j:Nat} {x:K} {z:Int} (h:UpIs t o d j x z):x.2.length≤4*Tr.nodes t+4:=by
 by_cases hz:z=0
 ·exact (h.yes hz).2
 ·rw[h.no hz];exact Nat.zero_le _
theorem UpIs.top {t:T} {o:OpM} {d:Int×Int} {x:K} (h:UpIs t o d 0 x 0):DeltaOf t o d x∧¬fullB t o=true:=by
 refine⟨⟨by rw[(h.yes rfl).1.tree,List.drop_zero],(h.yes rfl).1.ctx⟩,fun hf=>?_⟩;have h2:=h.er;rw[if_pos (full_zero.1 hf)]at h2
 cases h2
theorem UpIs.full {t:T} {o:OpM} {d:Int×Int} {j:Nat} {x:K} {z:Int} (h:UpIs t o d j x z) (hz:¬z=0):z=4∧x=noneK∧fullB t o=true:=by
 have h2:=h.er
 by_cases hf:FullAt t o j
 ·rw[if_pos hf]at h2
  exact⟨h2,h.no hz,full_zero.2 (hf.less (Nat.zero_le _))⟩
 ·rw[if_neg hf]at h2
  exact absurd h2 hz
end Cs
end Go.Proofs.YtgeafpaognhokaaGreat
namespace Go.Proofs.YtgeafpaognhokaaGreat
open Go.ChangeShapes Go.WideShapes Go.ChangeAt Go.RowKit Go.Shelf
namespace Cs
open Tr Cx Sp Rw Classical
theorem Kept.grown {l:List (Addr×Value)} {w W W':World} {row:Option Nat} (h:Kept l w W) (hg:W.grownBy W' row) (hr:∀ r,row=some r→∃ o:Obj,W.heap[r]?=some o∧o.isCells=false) (hb:Below w.heap.size w W'):Kept l w W':=
 ⟨hb,fun x hx=>⟨Nat.lt_of_lt_of_le (h.2 x hx).1 hg.size,cell_kept (h.2 x hx).2 hg hr⟩⟩
theorem Free.grown {b:Nat} {u:Value} {W W':World} {row:Option Nat} (h:Free b W) (hc:W.cell? ⟨b,0,none⟩=some u) (hg:W.grownBy W' row) (hr:∀ r,row=some r→∃ o:Obj,W.heap[r]?=some o∧o.isCells=false):Free b W':=by
 have hne:some b≠row:=fun e2=>by
  obtain⟨ob,ho,hcl⟩:=hr b e2.symm;unfold World.cell? at hc;rw[ho]at hc
  cases ob <;> first | (cases hcl;done) | (cases hc;done)
 exact⟨Nat.lt_of_lt_of_le h.1 hg.size,fun j=>(World.frozen?_of_block (a:=⟨b,j,none⟩) (hg.block b h.1 hne)).trans (h.2 j)⟩
theorem NoC.grown {ok:Nat→Prop} {p:CP} {W W':World} {row:Option Nat} (h:NoC W ok p) (hg:W.grownBy W' row) (hr:∀ r,row=some r→∃ o:Obj,W.heap[r]?=some o∧o.isCells=false):NoC W' ok p:=⟨RdO.kept hg hr _ h.tree,h.len,h.ctx.kept (by omega) hg hr⟩
def ApS (w:World) (L:List (Addr×Value)) (r g gD gE:Nat) (U:K→Int→Prop) (W:World):Prop:=∃ (p:CP) (z:Int),U p.k z∧NoC W (fun b=>w.heap.size≤b∧b≠r∧b≠g∧b≠gD∧b≠gE) p∧Kept ((⟨gD,0,none⟩,.slice p.e.A p.e.n p.e.c)::(⟨gD,1,none⟩,.slice p.d.A p.d.n p.d.c)::(⟨gD,2,none⟩,.slice p.c.A p.c.n p.c.c)::(⟨gE,0,none⟩,.int .i64 z)::(⟨r,0,none⟩,.slice none 0 0)::(⟨r,1,none⟩,.slice none 0 0)::(⟨r,2,none⟩,.slice none 0 0)::(⟨g,0,none⟩,.int .i64 0)::L) w W∧Free r W∧Free g W∧Free gD W∧Free gE W
theorem ApS.grown {w:World} {L:List (Addr×Value)} {r g gD gE:Nat} {U:K→Int→Prop} {W W':World} {row:Option Nat} (h:ApS w L r g gD gE U W) (hg:W.grownBy W' row) (hr:∀ r,row=some r→∃ o:Obj,W.heap[r]?=some o∧o.isCells=false) (hb:Below w.heap.size w W'):ApS w L r g gD gE U W':=by
 obtain⟨p,z,h1,h2,h3,h4,h5,h6,h7⟩:=h;exact⟨p,z,h1,NoC.grown h2 hg hr,Kept.grown h3 hg hr hb,Free.grown h4 h3.c4 hg hr,Free.grown h5 h3.c7 hg hr,Free.grown h6 h3.c0 hg hr,Free.grown h7 h3.c3 hg hr⟩
def UpU (t:T) (o:OpM) (d:Int×Int) (n:Nat) (pre:List {i:Nat // i<n}) (k:K) (z:Int):Prop:=(Tr.nodes k.1≤5+pre.length∧k.2.length≤4*Tr.nodes t+4)∧(DownTo n pre→UpIs t o d (n-pre.length) k z)
theorem upd_bounds (X:T) (key:ByteArray) (x:K):Tr.nodes (updK X key x).1≤Tr.nodes x.1+1∧(updK X key x).2.length≤x.2.length:=by
 unfold updK
 split
 ·refine⟨?_,Nat.le_refl _⟩
  show Tr.nodes (wrapR x.1 [key])≤_;unfold wrapR
  split
  ·rw[Tr.nodes_wrap];simp
  ·rw[nodes_none];omega
 ·refine⟨?_,Nat.zero_le _⟩
  show Tr.nodes none_≤_;rw[nodes_none];omega
theorem UpU.step {t:T} {o:OpM} {a n:Int} {m:Nat} {pre:List {i:Nat // i<m}} {x:{i:Nat // i<m}} {k:K} (ht:RightT 5 t) (ho:OpOk o) (hd:Dt.rightB a n=true) (hm:o.path.length=m) (h:UpU t o (a,n) m pre k 0) (hx:x.1<o.path.length) (hlt:pre.length<m) :
  UpU t o (a,n) m (pre++[x]) (updK (getT t (o.path.take x.1)) o.path[x.1] k) (updE (getT t (o.path.take x.1)) o.path[x.1] k):=by
 obtain⟨h1,h2⟩:=upd_bounds (getT t (o.path.take x.1)) o.path[x.1] k;refine⟨⟨Nat.le_trans h1 (by rw[List.length_append];have h9:Tr.nodes k.1≤5+pre.length:=h.1.1;show _≤5+(pre.length+1);omega),Nat.le_trans h2 h.1.2⟩,fun hdn=>?_⟩;obtain⟨h3,h4⟩:=hdn.pre;have h5:=h.2 h3
 have hlen:(pre++[x]).length=pre.length+1:=by rw[List.length_append];rfl
 have h6:m-pre.length=x.1+1:=by have:=x.2;omega
 rw[h6]at h5;rw[hlen,show m-(pre.length+1)=x.1 from by omega];exact UpIs.step ht ho hd hx h5
def Mid9 (v:World) (gD gE:Nat) (p:CP) (z:Int) (w:World):Prop:=v.heap.size≤gD∧v.heap.size≤gE∧gD≠gE∧NoC w (fun b=>v.heap.size≤b∧b≠gD∧b≠gE) p∧Kept [(⟨gD,0,none⟩,.slice p.e.A p.e.n p.e.c),(⟨gD,1,none⟩,.slice p.d.A p.d.n p.d.c),(⟨gD,2,none⟩,.slice p.c.A p.c.n p.c.c),(⟨gE,0,none⟩,.int .i64 z)] v w∧Free gD w∧Free gE w
theorem keepsFrom_of {B:Nat} {W W':World} (h:Below W.heap.size W W'):KeepsFrom B W W':=⟨h.size,fun k _ _ hk _=>(h.block k (Array.getElem?_eq_some_iff.1 hk).1).trans hk⟩
theorem keepsFrom_set {B:Nat} (W:World) (a:Addr) (v:Value):KeepsFrom B W (W.setCell a v):=(KeepsOthers.setCell W a v).from B
end Cs
end Go.Proofs.YtgeafpaognhokaaGreat
namespace Go.Proofs.YtgeafpaognhokaaGreat
open Go.ChangeShapes Go.WideShapes Go.ChangeAt Go.RowKit
namespace Cs
open Tr Cx Sp Rw Classical
set_option maxRecDepth 100000 in
set_option maxHeartbeats 4000000 in
theorem oread_any (t:T) (Ae Ak:Option Addr) (ne nk ce ck:Nat) (p:List ByteArray) (PA:Option Addr) (pn pc:Nat) (v:Vw) (er:Int) (w:World) (her:readE t p=er) (hv:er=0→ReadOk (getT t p) (lastK p) v) (hz:¬er=0→v=zeroV) (hl:LenT reachBytes t) (hn:nodes t≤1000) (hr:RdT w w.heap.size t ⟨Ae,ne,ce⟩ ⟨Ak,nk,ck⟩) (hn2:nodes t≤240) (hpn:pn≤900) (hrp:Rd w w.heap.size 1 PA pn pc (Tr.strs p)) (_hvl:v.l.length≤990) :
  Calls Tryz.prog 23 #[.agg #[.slice Ae ne ce,.slice Ak nk ck],.slice PA pn pc] w (ViewIs v er w):=by
 obtain⟨W,p9,r,HW,HP,HR0,HKc,HKR,HFR⟩:=boxTV w Ae Ak ne nk ce ck
 have hwr:w.heap.size≤r:=by have:=HP.out;have:=HR0.out;omega
 have hpr:p9<r:=by have:=HP.out;have:=HR0.out;omega
 have R:=Lib.hid (RdT.later hr HKc.out.below);have RP:=Lib.hid (hrp.later HKc.out.below);have HLP:=Lib.hid (rd_len1 hrp);have HRP0:=Lib.hid hrp;have N:=Lib.hid (And.intro hn (And.intro hpn hl));have HER:=Lib.hid her;have HV:=Lib.hid hv;have HZV:=Lib.hid hz;have N2:=Lib.hid hn2;obtain⟨y1,hy1⟩:∃ y,Tr.rightB 5 t=y:=⟨_,rfl⟩;obtain⟨e0,he0⟩:∃ x,pathE p=x:=⟨_,rfl⟩;have HY1:=Lib.hid hy1;have HE0:=Lib.hid he0;clear hl hn hn2 hr hrp hpn her hv hz hy1 he0;have c0:=HKc.out.c0;have c1:=HKc.out.c1;go_enter Tryz.func23,Tryz.ntmps23;go_wp2_with fail;rw[← HW.out,← HP.out]
 try rw[← HR0.out]
 refine (rightT_any t Ae Ak ne nk ce ck W N.out.2.2 R.out).mono ?_;rw[HY1.out];rintro e v1 ⟨rfl,hb9⟩;have HKc:=Lib.hid (HKc.out.later hb9);have R:=Lib.hid (RdT.later R.out hb9);have RP:=Lib.hid (RP.out.later hb9);have HKR:=Lib.hid (HKR.out.later hb9);have HFR:=Lib.hid (HFR.out.later hb9);clear hb9;clear c0 c1
 cases y1 with
 | false=>
  have hz1:1=er:=by
   rw[← HER.out];unfold readE;rw[if_pos HY1.out]
  subst hz1;obtain⟨z0,z1,z2,z3,-⟩:=HKR.out.cj;have m0:=HFR.out.2 0;have m1:=HFR.out.2 1;have m2:=HFR.out.2 2;have m3:=HFR.out.2 3;obtain⟨W9,hW9⟩:∃ W,W=(((v1.setCell ⟨r,0,none⟩ (.int .i64 0)).setCell ⟨r,1,none⟩ (.bool false)).setCell ⟨r,2,none⟩ (.int .i64 0)).setCell ⟨r,3,none⟩ (.slice none 0 0):=⟨_,rfl⟩
  have HB9:Hid (Below w.heap.size w W9):=by
   unfold Hid;rw[hW9];exact (((HKc.out.below.setCell (p:=⟨r,0,none⟩) hwr _).setCell (p:=⟨r,1,none⟩) hwr _).setCell (p:=⟨r,2,none⟩) hwr _).setCell (p:=⟨r,3,none⟩) hwr _
  have l0:W9.cell? ⟨r,0,none⟩=some (.int .i64 0):=by rw[hW9];go_simp
  have l1:W9.cell? ⟨r,1,none⟩=some (.bool false):=by rw[hW9];go_simp
  have l2:W9.cell? ⟨r,2,none⟩=some (.int .i64 0):=by rw[hW9];go_simp
  have l3:W9.cell? ⟨r,3,none⟩=some (.slice none 0 0):=by rw[hW9];go_simp
  have HW9:=Lib.hid hW9;clear hW9;go_wp2_with fail;rw[← HW9.out];refine bodyPost_ret (v:=.tuple #[.agg #[.int .i64 0,.bool false,.int .i64 0,.slice none 0 0],.int .i64 1]) (by simp[results,Tryz.results23,go_sem,l0,l1,l2,l3]) rfl ?_;obtain rfl:v=zeroV:=HZV.out (by omega);exact⟨none,0,rfl,Rd.nil _,HB9.out⟩
 | true=>
  have HNT:Hid (¬Tr.rightB 5 t=false):=by unfold Hid;rw[HY1.out];decide
  have c0:=HKc.out.c0;have c1:=HKc.out.c1;go_wp2_with fail;refine (ocheckpath_any p pn PA pc v1 e0 HE0.out (by have:=N.out;omega) RP.out).mono ?_;rintro e v2 ⟨rfl,he1⟩
  have hb9:Below v1.heap.size v1 v2:=by rw[he1];exact Below.refl _ _
  clear he1;have HKc:=Lib.hid (HKc.out.later hb9);have R:=Lib.hid (RdT.later R.out hb9);have RP:=Lib.hid (RP.out.later hb9);have HKR:=Lib.hid (HKR.out.later hb9);have HFR:=Lib.hid (HFR.out.later hb9);clear hb9;clear c0 c1
  by_cases hz0:e0=0
  ·subst hz0
   have hz1:0=er:=by
    rw[← HER.out];unfold readE;rw[if_neg HNT.out];exact HE0.out.symm
   subst hz1;have HOK:Hid (PathOk p):=pathE_zero.1 HE0.out;have HT:Hid (RightT 5 t):=Tr.rightB_iff.1 HY1.out;have HTB:Hid (Tr.rightB 5 t=true):=HY1.out;have HTG:=Lib.hid (getT_right HT.out p);have HNG2:Hid (nodes (getT t p)≤240):=Nat.le_trans (nodes_getT t p) N2.out;have HRD:=Lib.hid (HV.out rfl);obtain⟨x,hx⟩:∃ x,x=getT t p:=⟨_,rfl⟩;obtain⟨kd,hkd⟩:∃ k,k=lastK p:=⟨_,rfl⟩;rw[← hx]at HTG HNG2 HRD;rw[← hkd]at HRD;have HX:=Lib.hid hx
   obtain⟨mm,hmm⟩:∃ mm,pn=mm+1:=⟨pn-1,by
    have h:=HLP.out;have h2:0<p.length:=List.length_pos_iff.2 HOK.out.some
    omega⟩
   subst hmm
   have HKD5:Hid (1≤kd∧kd≤5):=by unfold Hid;rw[hkd];exact path_last HOK.out HLP.out
   have HKDL:=Lib.hid hkd;clear hx hkd
   have hkl0:mm<p.length:=by have:=HLP.out;omega
   obtain⟨bp,op,rfl,hgp,hcp⟩:=rd_text HRP0.out (by omega);have q0:=(HKc.out.below.cell (p:=⟨bp,op+mm,none⟩) hgp).trans (hcp mm hkl0)
   have hbpr:bp<r:=by omega
   have hkk:kindK p[mm]=kd:=by rw[HKDL.out];exact (lastK_get hkl0 HLP.out).symm
   obtain⟨kk,hk9⟩:∃ k,k=p[mm]:=⟨_,rfl⟩;rw[← hk9]at q0 hkk;have HKK:=Lib.hid hkk;have HKc:=Lib.hid (HKc.out.cons_of q0);clear hcp hkk hk9 hkl0 hgp q0
   have fw:IntKind.i64.wrap (mm:Int)=(mm:Int):=by have:=N.out;rw[IntKind.wrap_i64];omega
   have fx:IntKind.i64.wrap ((mm:Int)+1-1)=(mm:Int):=by have:=N.out;rw[IntKind.wrap_i64];omega
   have fy:(mm:Int)<(mm:Int)+1:=by omega
   obtain⟨c0,c1,c2,-⟩:=HKc.out.cj;go_wp2_with fail;clear c0 c1 c2;refine wp_region_held_drew (S:=Conj _) (by kernel_rfl) HKc.out.drew.cj (fun hHeld=>?_);obtain⟨v21,hv21⟩:∃ v,v=v2.drew:=⟨_,rfl⟩
   have hb9:Below v2.heap.size v2 v21:=by rw[hv21];exact (Below.refl _ _).drew
   have HKc:=Lib.hid (HKc.out.later hb9);have R:=Lib.hid (RdT.later R.out hb9);have RP:=Lib.hid (RP.out.later hb9);have HKR:=Lib.hid (HKR.out.later hb9);have HFR:=Lib.hid (HFR.out.later hb9);clear hb9;rw[← hv21]at hHeld ⊢;clear hv21;refine Tk 0 17 ?_;refine Tk 1 18 ?_;refine Tk 2 19 ?_;refine Tk 3 20 ?_;refine Tk 4 21 ?_;refine Tk 5 22 ?_;refine Tk 7 24 ?_;refine Tk 8 25 ?_;refine Tc 6 (fun K hK=>?_);go_simp;(go_at_call 13;refine (okind_any kk v21).mono ?_);rw[HKK.out];rintro e v22 ⟨rfl,he1⟩
   have hb9:Below v21.heap.size v21 v22:=by rw[he1];exact Below.refl _ _
   clear he1;have HKc:=Lib.hid (HKc.out.later hb9);have R:=Lib.hid (RdT.later R.out hb9);have RP:=Lib.hid (RP.out.later hb9);have HKR:=Lib.hid (HKR.out.later hb9);have HFR:=Lib.hid (HFR.out.later hb9);clear hb9;clear hHeld;refine Th hK ?_ (fun hHeld=>?_)
   ·exact HKc.out.cj
   clear hK K;refine Tc 9 (fun K hK=>?_);go_simp;(go_at_call 49;refine (get_any t Ae Ak ne nk ce ck v22 p (some ⟨bp,op,none⟩) (mm+1) pc HLP.out (by have:=N.out;omega) RP.out N.out.2.2 (by have:=N.out;omega) R.out).mono ?_);rintro e v23 ⟨Ge,gn,gc,Gk,gm,gd,rfl,hot,hb9⟩;rw[if_pos HTB.out,← HX.out]at hot;have RG:Hid (RdT v23 v23.heap.size x ⟨Ge,gn,gc⟩ ⟨Gk,gm,gd⟩):=hot.rd;clear hot;have HKc:=Lib.hid (HKc.out.later hb9);have R:=Lib.hid (RdT.later R.out hb9);have RP:=Lib.hid (RP.out.later hb9);have HKR:=Lib.hid (HKR.out.later hb9);have HFR:=Lib.hid (HFR.out.later hb9);clear hb9;clear hHeld;refine Th hK ?_ (fun hHeld=>?_)
   ·exact HKc.out.cj
   clear hK K;refine Tc 10 (fun K hK=>?_);go_simp;(go_at_call 60;refine (oview_any x Ge Gk gn gm gc gd kd v v23 HKD5.out HRD.out HTG.out HNG2.out RG.out).mono ?_);rintro e v24 ⟨LA,lc,rfl,hro,hb9⟩;have HOV:Hid (Own v24 v23.heap.size 9 1 LA v.l.length lc (Tr.strs v.l)):=hro.out;have HRU:Hid (r<v23.heap.size):=HFR.out.1;clear hro;have HKc:=Lib.hid (HKc.out.later hb9);have R:=Lib.hid (RdT.later R.out hb9);have RP:=Lib.hid (RP.out.later hb9);have HKR:=Lib.hid (HKR.out.later hb9);have HFR:=Lib.hid (HFR.out.later hb9);have RG:=Lib.hid (RdT.later RG.out hb9);clear hb9;obtain⟨z0,z1,z2,z3,-⟩:=HKR.out.cj;have m0:=HFR.out.2 0;have m1:=HFR.out.2 1;have m2:=HFR.out.2 2;have m3:=HFR.out.2 3;clear hHeld;refine Th hK ?_ (fun hHeld=>?_)
   ·exact HKc.out.cj
   clear hK K;refine Tc 11 (fun K hK=>?_);go_simp;refine Th hK ?_ (fun hHeld2=>?_)
   ·(try dsimp only)
    have h9:=HKc.out
    have h9:=h9.set (a:=⟨r,0,none⟩) hwr (fun x hx=>by simp at hx;rcases hx with rfl | rfl | rfl <;> (dsimp only;omega)) (.int .i64 v.kd)
    have h9:=h9.set (a:=⟨r,1,none⟩) hwr (fun x hx=>by simp at hx;rcases hx with rfl | rfl | rfl <;> (dsimp only;omega)) (.bool v.on)
    have h9:=h9.set (a:=⟨r,2,none⟩) hwr (fun x hx=>by simp at hx;rcases hx with rfl | rfl | rfl <;> (dsimp only;omega)) (.int .i64 v.n)
    have h9:=h9.set (a:=⟨r,3,none⟩) hwr (fun x hx=>by simp at hx;rcases hx with rfl | rfl | rfl <;> (dsimp only;omega)) (.slice LA v.l.length lc)
    exact h9.cj
   clear hK K hHeld;have hHeld:=hHeld2;clear hHeld2;refine Tk 12 5 ?_;refine wpAnyH_done (by kernel_rfl) ?_ _;clear hHeld;obtain⟨W9,hW9⟩:∃ W,W=(((v24.setCell ⟨r,0,none⟩ (.int .i64 v.kd)).setCell ⟨r,1,none⟩ (.bool v.on)).setCell ⟨r,2,none⟩ (.int .i64 v.n)).setCell ⟨r,3,none⟩ (.slice LA v.l.length lc):=⟨_,rfl⟩
   have HB9:Hid (Below w.heap.size w W9):=by
    unfold Hid;rw[hW9];exact (((HKc.out.below.setCell (p:=⟨r,0,none⟩) hwr _).setCell (p:=⟨r,1,none⟩) hwr _).setCell (p:=⟨r,2,none⟩) hwr _).setCell (p:=⟨r,3,none⟩) hwr _
   have HR9:Hid (Rd W9 W9.heap.size 1 LA v.l.length lc (Tr.strs v.l)):=by
    unfold Hid;rw[hW9];exact ((((HOV.out.set_below (a:=⟨r,0,none⟩) HRU.out _).set_below (a:=⟨r,1,none⟩) HRU.out _).set_below (a:=⟨r,2,none⟩) HRU.out _).set_below (a:=⟨r,3,none⟩) HRU.out _).rd
   have l0:W9.cell? ⟨r,0,none⟩=some (.int .i64 v.kd):=by rw[hW9];go_simp
   have l1:W9.cell? ⟨r,1,none⟩=some (.bool v.on):=by rw[hW9];go_simp
   have l2:W9.cell? ⟨r,2,none⟩=some (.int .i64 v.n):=by rw[hW9];go_simp
   have l3:W9.cell? ⟨r,3,none⟩=some (.slice LA v.l.length lc):=by rw[hW9];go_simp
   have HW9:=Lib.hid hW9;clear hW9 z0 z1 z2 z3 m0 m1 m2 m3;rw[← HW9.out];go_wp2_with fail;refine bodyPost_ret (v:=.tuple #[.agg #[.int .i64 v.kd,.bool v.on,.int .i64 v.n,.slice LA v.l.length lc],.int .i64 0]) (by simp[results,Tryz.results23,go_sem,l0,l1,l2,l3]) rfl ?_;exact⟨LA,lc,rfl,HR9.out,HB9.out⟩
  ·have HNE:Hid (¬e0=0):=hz0
   have f0:(e0 != 0)=true:=by simpa using hz0
   clear hz0
   have hz1:e0=er:=by
    rw[← HER.out];unfold readE;rw[if_neg HNT.out];exact HE0.out.symm
   subst hz1;obtain⟨z0,z1,z2,z3,-⟩:=HKR.out.cj;have m0:=HFR.out.2 0;have m1:=HFR.out.2 1;have m2:=HFR.out.2 2;have m3:=HFR.out.2 3;obtain⟨W9,hW9⟩:∃ W,W=(((v2.setCell ⟨r,0,none⟩ (.int .i64 0)).setCell ⟨r,1,none⟩ (.bool false)).setCell ⟨r,2,none⟩ (.int .i64 0)).setCell ⟨r,3,none⟩ (.slice none 0 0):=⟨_,rfl⟩
   have HB9:Hid (Below w.heap.size w W9):=by
    unfold Hid;rw[hW9];exact (((HKc.out.below.setCell (p:=⟨r,0,none⟩) hwr _).setCell (p:=⟨r,1,none⟩) hwr _).setCell (p:=⟨r,2,none⟩) hwr _).setCell (p:=⟨r,3,none⟩) hwr _
   have l0:W9.cell? ⟨r,0,none⟩=some (.int .i64 0):=by rw[hW9];go_simp
   have l1:W9.cell? ⟨r,1,none⟩=some (.bool false):=by rw[hW9];go_simp
   have l2:W9.cell? ⟨r,2,none⟩=some (.int .i64 0):=by rw[hW9];go_simp
   have l3:W9.cell? ⟨r,3,none⟩=some (.slice none 0 0):=by rw[hW9];go_simp
   have HW9:=Lib.hid hW9;clear hW9;go_wp2_with fail;rw[← HW9.out];refine bodyPost_ret (v:=.tuple #[.agg #[.int .i64 0,.bool false,.int .i64 0,.slice none 0 0],.int .i64 e0]) (by simp[results,Tryz.results23,go_sem,l0,l1,l2,l3]) rfl ?_;obtain rfl:v=zeroV:=HZV.out (by exact HNE.out);exact⟨none,0,rfl,Rd.nil _,HB9.out⟩
end Cs
end Go.Proofs.YtgeafpaognhokaaGreat
namespace Go.Proofs.YtgeafpaognhokaaGreat
open Go.ChangeShapes Go.WideShapes Go.ChangeAt Go.RowKit
namespace Cs
open Tr Cx Sp Rw Classical
section
variable {s:SM} {c:List S3} {p:List ByteArray}
end
end Cs
end Go.Proofs.YtgeafpaognhokaaGreat
