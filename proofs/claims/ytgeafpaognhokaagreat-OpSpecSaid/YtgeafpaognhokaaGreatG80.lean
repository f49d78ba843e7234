/- Texts of the lower layers, and of layer 9, put together. -/
import Derived.Test.YtgeafpaognhokaaGreatG00
import Derived.Test.YtgeafpaognhokaaGreatOpApply
import Derived.Test.YtgeafpaognhokaaGreatG50
import Derived.Test.YtgeafpaognhokaaGreatG60
import Derived.Test.YtgeafpaognhokaaGreatG10
import Derived.Test.YtgeafpaognhokaaGreatG01
import Derived.Test.YtgeafpaognhokaaGreatOpPView
import Derived.Test.YtgeafpaognhokaaGreatG70
import Derived.Test.YtgeafpaognhokaaGreatTreeRight
import Derived.Test.YtgeafpaognhokaaGreatOpRef5
import Derived.Test.YtgeafpaognhokaaGreatOpView
namespace Go.Proofs.YtgeafpaognhokaaGreat
section
open ChangeShapes WideShapes ChangeAt RowKit
namespace Cs
open Tr Cx Sp Rw Classical
theorem Lr (w:World) (x:jw):Rd (w.alloc (.cells (tY x).toArray 79)) (w.heap.size+1) 7 (some ⟨w.heap.size,0,none⟩) 1 1 ([x].flatMap tY):=
 ⟨rfl,bG,fun u hu=>wC x u (by simpa using hu),fun _=>⟨_,_,rfl,by omega,fun j u hu=>by
  rw[Nat.zero_add,cell_of_row _ _ j _ _ (0,0) (heap_alloc_new _ _)]
  simpa using hu⟩⟩
set_option maxRecDepth 100000 in
theorem JV {w:World} {base n c:Nat} {A:Option Addr} {l:List jw} (h:Own w base 79 7 A n c (l.flatMap tY)) (B:base≤w.heap.size) (x:jw) (hn:n≤1000) :
  ∃ A' c' w',(Builtin.append_ #[65,65] 65 #[.slice A n c,.slice (some ⟨w.heap.size,0,none⟩) 1 1]).run Tryz.prog (w.alloc (.cells (tY x).toArray 79)) = .ok (.slice A' (n+1) c') w'∧Own w' base 79 7 A' (n+1) c' ((l++[x]).flatMap tY)∧Below base w w'∧w.heap.size≤w'.heap.size∧∀ b,b<w.heap.size→(Value.slice A n c).ownBlock≠some b→w'.heap[b]?=w.heap[b]?∧(Value.slice A' (n+1) c').ownBlock≠some b:=by
 obtain⟨F,j,p,q,r⟩:=dO EF;obtain⟨W,i⟩:∃ W,W=w.alloc (.cells (tY x).toArray 79):=⟨_,rfl⟩
 have d:av w W:=by rw[i];exact (bN).alloc (bG) _
 have hsz:W.heap.size=w.heap.size+1:=by rw[i];simp
 have a:=Lr w x;rw[← i]at a ⊢;obtain⟨v',w',G,y,s,g⟩:=iq (P:=Tryz.prog) W base 65 65 79 F _ 7 96 Tryz.underlying65 j p q r rfl (by omega) (aG h d).row a (by omega) (by omega) (by omega)
 have z:(l++[x]).flatMap tY=l.flatMap tY++[x].flatMap tY:=by simp
 rw[← z]at y
 obtain⟨A',c',rfl,D⟩:=Own.gX y (fun u hu=>by
  obtain⟨x,_,hu⟩:=ol.1 hu
  exact wC x u hu)
 refine⟨A',c',w',G,D,(d.mono B).trans ((Below.refl base W).grown s (by omega) (fun k C=>(h.row.lt k C).1)),aN (by omega) s.size,fun b m f=>⟨?_,fun v=>?_⟩⟩
 ·rw[s.block b (by omega) (fun e=>f e.symm)]
  exact d.block b m
 ·rcases g with g | g
  ·exact f (g.symm.trans v)
  ·have t:some b=some W.heap.size:=v.symm.trans g
   injection t with t;omega
structure SM where
 know:Nat→CP
 num:Nat→Nat
 ev:List jw
 A:Option Addr
 n:Nat
 c:Nat
def SM.own (s:SM):Option Nat:=(Value.slice s.A s.n s.c).ownBlock
def SM.evs (s:SM):List Ev:=s.ev.map jw.ev
def SM.qO (s:SM) (i:Nat) (r:CP):SM:={ s with know:=fun j=>if j=i then r else s.know j }
def SM.push (s:SM) (x:jw) (A:Option Addr) (c:Nat):SM:={ s with ev:=s.ev++[x],A:=A,n:=s.n+1,c:=c }
def SM.bump (s:SM) (i:Nat):SM:={ s with num:=fun j=>if j=i then s.num j+1 else s.num j }
structure rV (s:SM):Prop where
 made:jc s.evs
 knows:∀ i,i<3→Knows s.evs (s.know i).k
 name:∀ x∈s.evs,∃ i,i<3∧x.d.1=((i:Nat):Int)∧1≤x.d.2∧x.d.2≤((s.num i:Nat):Int)∧aD (s.know i).k.2 x.d.1 x.d.2=true
 numb:∀ i,s.num i≤s.ev.length
 sr:∀ x∈s.evs,aH x.seen
theorem rV.hear {s:SM} (h:rV s) {i j:Nat} (hi:i<3) (d:j<3) {r:CP} (f:l8 (s.know i).k (s.know j).k r.k):rV (s.qO i r):=by
 refine⟨h.made,fun a b=>?_,fun x n=>?_,h.numb,h.sr⟩
 ·show Knows s.evs (if a=i then r else s.know a).k
  by_cases e:a=i
  ·rw[if_pos e]
   exact Knows.hear h.made (h.knows i hi) (h.knows j d) f
  ·rw[if_neg e]
   exact h.knows a b
 ·obtain⟨a,b,g,l,m,c⟩:=h.name x n
  refine⟨a,b,g,l,m,?_⟩
  show aD (if a=i then r else s.know a).k.2 _ _=true
  by_cases e:a=i
  ·subst e
   rw[if_pos rfl,f.aD (h.knows _ hi).right (h.knows _ d).right,c];rfl
  ·rw[if_neg e]
   exact c
theorem rV.fresh {s:SM} (h:rV s) {i:Nat} : ∀ y∈s.evs,y.d≠(((i:Nat):Int),((s.num i:Nat):Int)+1):=fun y j e=>by
 obtain⟨a,_,b,_,c,_⟩:=h.name y j;rw[e]at b c
 have f:i=a:=by have g:((i:Nat):Int)=((a:Nat):Int):=b;omega
 subst f;have g:((s.num i:Nat):Int)+1≤((s.num i:Nat):Int):=c;omega
theorem rV.make {s:SM} (h:rV s) {i:Nat} (hi:i<3) {o:jK} {x:K} {r:CP} {p q:SV} (z:jM o) (j:Dt.ak ((i:Nat):Int) (((s.num i:Nat):Int)+1)=true) (hd:kg (s.know i).k.1 o (((i:Nat):Int),((s.num i:Nat):Int)+1) x) (B:RK x) (w:l8 (s.know i).k x r.k) (A:Option Addr) (c:Nat) :
  rV (((s.push ⟨⟨(((i:Nat):Int),((s.num i:Nat):Int)+1),o,(s.know i).k.2⟩,p,q⟩ A c).bump i).qO i r):=by
 obtain⟨u,hu,H⟩:=hd.ctx;have t:=qy hu.right j H
 have f:(((s.push ⟨⟨(((i:Nat):Int),((s.num i:Nat):Int)+1),o,(s.know i).k.2⟩,p,q⟩ A c).bump i).qO i r).evs=s.evs++[⟨(((i:Nat):Int),((s.num i:Nat):Int)+1),o,(s.know i).k.2⟩]:=by
  show (s.ev++[_]).map jw.ev=s.ev.map jw.ev++[_];rw[mD];rfl
 have m:∀ a,a<3→a≠i→aD (s.know a).k.2 ((i:Nat):Int) (((s.num i:Nat):Int)+1)=false:=fun a g hne=>by
  cases G:aD (s.know a).k.2 ((i:Nat):Int) (((s.num i:Nat):Int)+1)with
  | false=>rfl
  | true=>
   obtain⟨y,b,e⟩:=(h.knows a g).made _ _ G;exact absurd e (h.fresh y b)
 refine⟨by rw[f];exact h.made.snoc h.fresh z (h.knows i hi).made,fun a g=>?_,fun y b=>?_,fun a=>?_,fun y b=>?_⟩
 ·rw[f]
  show Knows _ (if a=i then r else s.know a).k
  by_cases e:a=i
  ·rw[if_pos e]
   exact Knows.make h.made (h.knows i hi) z h.fresh j hd B w
  ·rw[if_neg e]
   exact Knows.other (h.knows a g) (m a g e)
 ·rw[f]at b
  have l:=fun d n=>w.aD (h.knows i hi).right B d n
  rcases fO.1 b with b | b
  ·obtain⟨a,g,C,D,F,v⟩:=h.name y b
   refine⟨a,g,C,D,?_,?_⟩
   ·show y.d.2≤(((if a=i then s.num a+1 else s.num a):Nat):Int)
    split
    ·omega
    ·exact F
   ·show aD (if a=i then r else s.know a).k.2 _ _=true
    by_cases e:a=i
    ·subst e
     rw[if_pos rfl,l,v];rfl
    ·rw[if_neg e]
     exact v
  ·obtain rfl:=eX.1 b
   refine⟨i,hi,rfl,?_,?_,?_⟩
   ·show (1:Int)≤((s.num i:Nat):Int)+1
    omega
   ·show ((s.num i:Nat):Int)+1≤(((if i=i then s.num i+1 else s.num i):Nat):Int)
    rw[if_pos rfl];omega
   ·show aD (if i=i then r else s.know i).k.2 _ _=true
    rw[if_pos rfl,l];show (_||aD x.2 ((i:Nat):Int) (((s.num i:Nat):Int)+1))=true;rw[t,Bool.or_true]
 ·show (if a=i then s.num a+1 else s.num a)≤(s.ev++[_]).length
  have h5:=h.numb a;rw[bP];show _≤s.ev.length+1
  split <;> omega
 ·rw[f]at b
  rcases fO.1 b with b | b
  ·exact h.sr y b
  ·rw[eX.1 b]
   exact (h.knows i hi).right.ctx
structure pK (g:Nat) (v0:World) (s:SM) (w:World):Prop where
 gl:v0.heap.size≤g
 below:av v0 w
 free:aA g w
 ck:∀ i,i<3→w.cell? ⟨g,i*3,none⟩=some (.slice (s.know i).e.A (s.know i).e.n (s.know i).e.c)∧w.cell? ⟨g,i*3+1,none⟩=some (.slice (s.know i).d.A (s.know i).d.n (s.know i).d.c)∧w.cell? ⟨g,i*3+2,none⟩=some (.slice (s.know i).c.A (s.know i).c.n (s.know i).c.c)
 cn:∀ i,i<3→w.cell? ⟨g,9+i,none⟩=some (.int .i64 ((s.num i:Nat):Int))
 ca:w.cell? ⟨g,12,none⟩=some (.slice s.A s.n s.c)
 know:∀ i,i<3→dQ w (fun b=>g<b∧s.own≠some b) (s.know i)
 row:Own w (g+1) 79 7 s.A s.n s.c (s.ev.flatMap tY)
 len:s.ev.length=s.n
 path:∀ x∈s.ev,Rd v0 v0.heap.size 1 x.p.A x.p.n x.p.c (Tr.strs x.ev.o.path)∧x.p.n≤900
 seen:∀ x∈s.ev,RO w (fun b=>g<b∧s.own≠some b) 3 x.q.A x.q.n x.q.c (aP x.ev.seen)∧x.ev.seen.length=x.q.n
theorem pK.later {g:Nat} {v0 w w':World} {s:SM} (h:pK g v0 s w) (a:av w w'):pK g v0 s w':=by
 have c:=h.free.1;refine⟨h.gl,h.below.trans (a.mono h.below.size),h.free.later a,fun i hi=>?_,fun i hi=>(a.cell (p:=⟨g,9+i,none⟩) c).trans (h.cn i hi),(a.cell (p:=⟨g,12,none⟩) c).trans h.ca,fun i hi=>(h.know i hi).later a,aG h.row a,h.len,h.path,fun x e=>⟨(h.seen x e).1.keep a.size fun b _ d=>a.block b d,(h.seen x e).2⟩⟩;obtain⟨c0,c1,c2⟩:=h.ck i hi;exact⟨(a.cell (p:=⟨g,i*3,none⟩) c).trans c0,(a.cell (p:=⟨g,i*3+1,none⟩) c).trans c1,(a.cell (p:=⟨g,i*3+2,none⟩) c).trans c2⟩
instance {g:Nat} {v0:World} {s:SM} {v v':World} : fE v v' (pK g v0 s v) (pK g v0 s v'):=⟨fun h hb=>h.later hb⟩
theorem qm {w:World} {g o:Nat} {v u:Value} (a:aA g w) (hc:w.cell? ⟨g,o,none⟩=some v):(w.setCell ⟨g,o,none⟩ u).cell? ⟨g,o,none⟩=some u:=by
 have m:=a.2 o;go_simp
theorem aW {w:World} {g o a:Nat} {u:Value} (h:a≠o):(w.setCell ⟨g,o,none⟩ u).cell? ⟨g,a,none⟩=w.cell? ⟨g,a,none⟩:=oW w _ _ u (fun e=>by injection e with _ e;exact h e.symm)
theorem dQ.set {w:World} {g o:Nat} {ok:Nat→Prop} {p:CP} {u:Value} (h:dQ w ok p) (c:∀ b,ok b→b≠g):dQ (w.setCell ⟨g,o,none⟩ u) ok p:=h.keep (by simp[World.setCell]) fun b a _=>cZ _ ⟨g,o,none⟩ _ b (fun e=>c b a e)
theorem qH {w:World} {g o sz n c:Nat} {ok:Nat→Prop} {A:Option Addr} {xs:List Value} {u:Value} (h:RO w ok sz A n c xs) (d:∀ b,ok b→b≠g):RO (w.setCell ⟨g,o,none⟩ u) ok sz A n c xs:=h.keep (by simp[World.setCell]) fun b a _=>cZ _ ⟨g,o,none⟩ _ b (fun e=>d b a e)
theorem pK.qO {g:Nat} {v0 w:World} {s:SM} (h:pK g v0 s w) {i:Nat} (hi:i<3) {r:CP} (D:dQ w (fun b=>g<b∧s.own≠some b) r):pK g v0 (s.qO i r) (((w.setCell ⟨g,i*3,none⟩ (.slice r.e.A r.e.n r.e.c)).setCell ⟨g,i*3+1,none⟩ (.slice r.d.A r.d.n r.d.c)).setCell ⟨g,i*3+2,none⟩ (.slice r.c.A r.c.n r.c.c)):=by
 have f:∀ b,g<b∧s.own≠some b→b≠g:=fun b hb=>by omega
 obtain⟨c0,c1,c2⟩:=h.ck i hi;have m:=h.free.set ⟨g,i*3,none⟩ (.slice r.e.A r.e.n r.e.c);have q:=m.set ⟨g,i*3+1,none⟩ (.slice r.d.A r.d.n r.d.c)
 have l:∀ o,o≠i*3→o≠i*3+1→o≠i*3+2→((((w.setCell ⟨g,i*3,none⟩ (.slice r.e.A r.e.n r.e.c)).setCell ⟨g,i*3+1,none⟩ (.slice r.d.A r.d.n r.d.c)).setCell ⟨g,i*3+2,none⟩ (.slice r.c.A r.c.n r.c.c))).cell? ⟨g,o,none⟩=w.cell? ⟨g,o,none⟩:=fun o z B C=>by rw[aW C,aW B,aW z]
 refine⟨h.gl,((h.below.setCell (p:=⟨g,i*3,none⟩) h.gl _).setCell (p:=⟨g,i*3+1,none⟩) h.gl _).setCell (p:=⟨g,i*3+2,none⟩) h.gl _,q.set _ _,fun j k=>?_,fun j k=>?_,?_,fun j k=>?_,?_,h.len,h.path,fun x t=>⟨qH (qH (qH (h.seen x t).1 f) f) f,(h.seen x t).2⟩⟩
 ·show _=some (Value.slice (if j=i then r else s.know j).e.A (if j=i then r else s.know j).e.n (if j=i then r else s.know j).e.c)∧_=some (Value.slice (if j=i then r else s.know j).d.A (if j=i then r else s.know j).d.n (if j=i then r else s.know j).d.c)∧_=some (Value.slice (if j=i then r else s.know j).c.A (if j=i then r else s.know j).c.n (if j=i then r else s.know j).c.c)
  by_cases e:j=i
  ·subst e
   simp only[if_pos];refine⟨?_,?_,?_⟩
   ·rw[aW (by omega),aW (by omega)]
    exact qm h.free c0
   ·rw[aW (by omega)]
    exact qm m ((aW (by omega)).trans c1)
   ·exact qm q ((aW (by omega)).trans ((aW (by omega)).trans c2))
  ·simp only[if_neg e]
   obtain⟨u,v,y⟩:=h.ck j k;exact⟨(l _ (by omega) (by omega) (by omega)).trans u,(l _ (by omega) (by omega) (by omega)).trans v,(l _ (by omega) (by omega) (by omega)).trans y⟩
 ·exact (l _ (by omega) (by omega) (by omega)).trans (h.cn j k)
 ·exact (l _ (by omega) (by omega) (by omega)).trans h.ca
 ·show dQ _ _ (if j=i then r else s.know j)
  split
  ·exact ((dQ.set D f).set f).set f
  ·exact (((h.know j k).set f).set f).set f
 ·exact ((h.row.aT (a:=⟨g,i*3,none⟩) (by show g<g+1;omega) _).aT (a:=⟨g,i*3+1,none⟩) (by show g<g+1;omega) _).aT (a:=⟨g,i*3+2,none⟩) (by show g<g+1;omega) _
theorem pK.bump {g:Nat} {v0 w:World} {s:SM} (h:pK g v0 s w) {i:Nat} (hi:i<3):pK g v0 (s.bump i) (w.setCell ⟨g,9+i,none⟩ (.int .i64 (((s.num i:Nat):Int)+1))):=by
 have d:∀ b,g<b∧s.own≠some b→b≠g:=fun b hb=>by omega
 refine⟨h.gl,h.below.setCell (p:=⟨g,9+i,none⟩) h.gl _,h.free.set _ _,fun j c=>?_,fun j c=>?_,(aW (by omega)).trans h.ca,fun j c=>(h.know j c).set d,h.row.aT (a:=⟨g,9+i,none⟩) (by show g<g+1;omega) _,h.len,h.path,fun x f=>⟨qH (h.seen x f).1 d,(h.seen x f).2⟩⟩
 ·obtain⟨k,l,m⟩:=h.ck j c
  exact⟨(aW (by omega)).trans k,(aW (by omega)).trans l,(aW (by omega)).trans m⟩
 ·show _=some (Value.int .i64 (((if j=i then s.num j+1 else s.num j):Nat):Int))
  by_cases e:j=i
  ·subst e
   rw[if_pos rfl];exact qm h.free (h.cn j c)
  ·rw[if_neg e]
   exact (aW (by omega)).trans (h.cn j c)
theorem pK.push {g:Nat} {v0 w w':World} {s:SM} (h:pK g v0 s w) {x:jw} {A':Option Addr} {c':Nat} (z:w.heap.size≤w'.heap.size) (H:Own w' (g+1) 79 7 A' (s.n+1) c' ((s.ev++[x]).flatMap tY)) (e:Below (g+1) w w') (u:∀ b,b<w.heap.size→s.own≠some b→w'.heap[b]?=w.heap[b]?∧(Value.slice A' (s.n+1) c').ownBlock≠some b)
  (J:Rd v0 v0.heap.size 1 x.p.A x.p.n x.p.c (Tr.strs x.ev.o.path)∧x.p.n≤900) (B:RO w (fun b=>g<b∧s.own≠some b) 3 x.q.A x.q.n x.q.c (aP x.ev.seen)∧x.ev.seen.length=x.q.n):pK g v0 (s.push x A' c') (w'.setCell ⟨g,12,none⟩ (.slice A' (s.n+1) c')):=by
 have G:=h.free.1;have m:=h.gl
 have l:∀ b,(g<b∧(s.push x A' c').own≠some b)→b≠g:=fun b e=>by omega
 have d:∀ o,w'.cell? ⟨g,o,none⟩=w.cell? ⟨g,o,none⟩:=fun o=>e.cell (p:=⟨g,o,none⟩) (m_ g);have k:aA g w':=⟨cO G z,fun j=>(e.frozen (p:=⟨g,j,none⟩) (m_ g)).trans (h.free.2 j)⟩;have v:∀ {p:CP},dQ w (fun b=>g<b∧s.own≠some b) p→dQ w' (fun b=>g<b∧(s.push x A' c').own≠some b) p:=fun {p} hn=>((hn.mono (ok':=fun b=>(g<b∧s.own≠some b)∧(s.push x A' c').own≠some b) (fun b e f=>⟨e,(u b f e.2).2⟩)).keep z (fun b e f=>(u b f e.1.2).1)).mono (fun b e _=>⟨e.1.1,e.2⟩);have t:∀ {sz n c:Nat} {A:Option Addr} {xs:List Value},RO w (fun b=>g<b∧s.own≠some b) sz A n c xs→RO w' (fun b=>g<b∧(s.push x A' c').own≠some b) sz A n c xs:=fun {_ _ _ _ _} hn=>((hn.mono (ok':=fun b=>(g<b∧s.own≠some b)∧(s.push x A' c').own≠some b) (fun b e f=>⟨e,(u b f e.2).2⟩)).keep z (fun b e f=>(u b f e.1.2).1)).mono (fun b e _=>⟨e.1.1,e.2⟩)
 refine⟨m,(h.below.trans (e.mono (by omega))).setCell (p:=⟨g,12,none⟩) m _,k.set _ _,fun j r=>?_,fun j r=>?_,qm k ((d 12).trans h.ca),fun j r=>(v (h.know j r)).set l,H.aT (a:=⟨g,12,none⟩) (by show g<g+1;omega) _,?_,fun y i=>?_,fun y i=>?_⟩
 ·obtain⟨C,D,F⟩:=h.ck j r
  exact⟨(aW (by omega)).trans ((d _).trans C),(aW (by omega)).trans ((d _).trans D),(aW (by omega)).trans ((d _).trans F)⟩
 ·exact (aW (by omega)).trans ((d _).trans (h.cn j r))
 ·show (s.ev++[x]).length=s.n+1
  rw[bP,h.len];rfl
 ·rcases fO.1 (show y∈s.ev++[x] from i)with i | i
  ·exact h.path y i
  ·rw[eX.1 i];exact J
 ·rcases fO.1 (show y∈s.ev++[x] from i)with i | i
  ·exact⟨qH (t (h.seen y i).1) l,(h.seen y i).2⟩
  ·rw[eX.1 i];exact⟨qH (t B.1) l,B.2⟩
structure vX (g:Nat) (o:Option Nat) (w w':World):Prop where
 size:w.heap.size≤w'.heap.size
 keep:∀ b,b<w.heap.size→b≠g→o≠some b→w'.heap[b]?=w.heap[b]?
theorem vX.refl (g:Nat) (o:Option Nat) (w:World):vX g o w w:=⟨bG,fun _ _ _ _=>rfl⟩
theorem vX.later {g:Nat} {o:Option Nat} {w v v':World} (h:vX g o w v) (c:av v v'):vX g o w v':=⟨aN h.size c.size,fun b a d e=>(c.block b (cO a h.size)).trans (h.keep b a d e)⟩
instance {g:Nat} {o:Option Nat} {w:World} {v v':World} : fE v v' (vX g o w v) (vX g o w v'):=⟨fun h hb=>h.later hb⟩
theorem vX.set {g:Nat} {o:Option Nat} {w v:World} (h:vX g o w v) (k:Nat) (u:Value):vX g o w (v.setCell ⟨g,k,none⟩ u):=⟨by simpa [World.setCell] using h.size,fun b a c d=>(cZ _ ⟨g,k,none⟩ _ b (fun e=>c e)).trans (h.keep b a c d)⟩
theorem vX.push {g:Nat} {o:Option Nat} {w v v':World} (h:vX g o w v) (f:v.heap.size≤v'.heap.size) (e:∀ b,b<v.heap.size→o≠some b→v'.heap[b]?=v.heap[b]?):vX g o w v':=⟨aN h.size f,fun b a d c=>(e b (cO a h.size) c).trans (h.keep b a d c)⟩
theorem dQ.fresh {g:Nat} {v0 v w:World} {s:SM} {p:CP} (h:pK g v0 s v) (c:dQ w (fun b=>v.heap.size≤b) p):dQ w (fun b=>g<b∧s.own≠some b) p:=c.mono fun b a _=>⟨cO h.free.1 a,fun e=>by
 have h2:=(h.row.row.lt b e).2
 omega⟩
end Cs
namespace Cs
open Tr Cx Sp Rw Classical
def jb (t:T) (o:jK) (j:Nat):Prop:=brings o.act∧((∃ (k:Nat) (h:k<(bL o).length),j≤k∧24≤(aI t ((bL o).take k)).ks.length∧(bL o)[k]∉keysOf (aI t ((bL o).take k)).ks)∨(o.act=5∧24≤(aI t (bL o)).es.length))
theorem zC {t:T} {o:jK} : pV t o=true↔jb t o 0:=by
 unfold pV jb;rw[eG];exact and_congr Iff.rfl (or_congr ⟨fun ⟨k,h,a⟩=>⟨k,h,Nat.zero_le _,a⟩,fun ⟨k,h,_,a⟩=>⟨k,h,a⟩⟩ Iff.rfl)
theorem jb.less {t:T} {o:jK} {i j:Nat} (h:jb t o j) (hi:i≤j):jb t o i:=⟨h.1,h.2.elim (fun ⟨k,c,a,b⟩=>.inl ⟨k,c,aN hi a,b⟩) .inr⟩
structure FN (t:T) (o:jK) (d:Int×Int) (j:Nat) (x:K):Prop where
 tree:x.1=if brings o.act then bF (cu (eT ⟨d,o,[]⟩)) ((bL o).drop j)else none_
 ctx:∃ u,pG (fo t o) u∧iW l6 u (eZ d.1 d.2) x.2
structure gG (t:T) (o:jK) (d:Int×Int) (j:Nat) (x:K) (z:Int):Prop where
 er:z=if jb t o j then 4 else 0
 yes:z=0→FN t o d j x∧x.2.length≤4*nodes t+4
 no:¬z=0→x=bH
theorem Fq {o:jK} (h:jM o) {e:E} (a:dR e) (j:Nat):au (1+((bL o).drop j).length) (bF (cu e) ((bL o).drop j)):=
 au.wrap (d:=1) (jX (d:=0) a) (by unfold cu;simp[T.es]) fun k b=>(kE h).1 k (List.mem_of_mem_drop b)
theorem FK {x:T} {key:ByteArray} (a:au 4 x) (c:iV key):jm x [key]=0:=by
 unfold jm
 have b:um [key]=false:=rZ.2 fun k h=>by rw[eX.1 h];exact c
 have hl:=uH a;rw[if_neg (by rw[Tr.aO.2 (a.le (by omega)),b];simp),if_neg (by simp)]
 split
 ·rfl
 ·rw[if_neg (by simp;omega)]
theorem yM {t:T} {o:jK} {a n:Int} {j:Nat} {x:K} (e:jM o) (hd:Dt.ak a n=true) (h:FN t o (a,n) j x):RK x∧(0<j→au 4 x.1):=by
 obtain⟨u,hu,i⟩:=h.ctx;have l:=qy hu.right hd i;have g:=i.right
 by_cases f:brings o.act
 ·have d:x=(bF (cu (eT ⟨(a,n),o,[]⟩)) ((bL o).drop j),x.2):=Prod.ext (by rw[h.tree,if_pos f]) rfl
  have c:=Fq e (nX e hd) j;have hl:=(kE e).2;rw[List.length_drop]at c;refine⟨?_,fun hj=>by rw[d];exact c.le (by omega)⟩;have c:=c.le (show _≤5 by omega);rw[d];refine⟨c,g,fun y m=>?_⟩;have b:=(gq c y.1 y.2).1 m;rw[oF]at b
  split at b
  ·rename_i k
   have h3:aV y.2=(a,n):=by rw[← k.2];rfl
   injection b with b;show aD x.2 y.2.a y.2.n=true;rw[← b];exact l
  ·cases b
 ·have d:x=(none_,x.2):=Prod.ext (by rw[h.tree,if_neg f]) rfl
  rw[d];exact⟨xU g,fun _=>au.none⟩
theorem KS {o:jK} {j:Nat} (a:j<o.path.length):∃ h:j<(bL o).length,(bL o)[j]=o.path[j]∧(bL o).take j=o.path.take j:=by
 unfold bL
 split
 ·refine⟨by rw[bP];omega,BL a,List.take_append_of_le_length (by omega)⟩
 ·exact⟨a,rfl,rfl⟩
theorem gG.step {t:T} (U:au 5 t) {o:jK} {a n:Int} {j:Nat} (R:jM o) (hd:Dt.ak a n=true) (Q:j<o.path.length) {x:K} (h:gG t o (a,n) (j+1) x 0) :
  gG t o (a,n) j (vw (aI t (o.path.take j)) o.path[j] x) (rR (aI t (o.path.take j)) o.path[j] x):=by
 obtain⟨f,r⟩:=h.yes rfl
 have G:¬jb t o (j+1):=fun B=>by have d:=h.er;rw[if_pos B]at d;cases d
 obtain⟨N,y⟩:=yM R hd f;have y:=y (Nat.succ_pos j);have q:iV o.path[j]:=uP R.path _ (bT Q);obtain⟨C,i,u⟩:=KS Q;obtain⟨X,z⟩:∃ X,X=aI t (o.path.take j):=⟨_,rfl⟩;obtain⟨b,O⟩:∃ k,k=o.path[j]:=⟨_,rfl⟩;rw[← O]at q i ⊢;rw[← z]
 have M:au 5 X:=by rw[z];exact cB U _
 have S:jm x.1 [b]=0:=FK y q
 have c:rR X b x=if kP X b x.1=true then 0 else 4:=tQ (Tr.aO.2 M) (bI.2 N) S (by omega)
 have s:(bL o).drop j=b::(bL o).drop (j+1):=by rw[← i];exact List.drop_eq_getElem_cons C
 by_cases p:brings o.act
 ·have m:x.1=bF (cu (eT ⟨(a,n),o,[]⟩)) ((bL o).drop (j+1)):=by rw[f.tree,if_pos p]
  have D:¬(x.1.es=[]∧x.1.ks=[]):=by rw[m];exact Aq (by unfold cu;simp[T.es]) _
  have w:kP X b x.1=jL X b:=by unfold kP;rw[aM D,Bool.false_or]
  have g:jb t o j↔jL X b=false:=by
   unfold jL;rw[Bool.or_eq_false_iff,Ea,Ea];constructor
   ·rintro⟨_,⟨k,N,L,d,J⟩ | L⟩
    ·by_cases e:j=k
     ·subst e
      rw[u,← z]at d J;rw[i]at J;exact⟨by omega,J⟩
     ·exact absurd ⟨p,.inl ⟨k,N,by omega,d,J⟩⟩ G
    ·exact absurd ⟨p,.inr L⟩ G
   ·rintro⟨L,d⟩
    refine⟨p,.inl ⟨j,C,bG,?_,?_⟩⟩
    ·rw[u,← z];omega
    ·rw[u,← z,i];exact d
  rw[w]at c
  cases l:jL X b with
  | true=>
   rw[l,if_pos rfl]at c
   have H:¬jb t o j:=fun B=>by have d:=g.1 B;rw[l]at d;cases d
   obtain⟨_,_,_,v⟩:=FD c;rw[c,v];refine⟨(if_neg H).symm,fun _=>⟨⟨?_,f.ctx⟩,r⟩,fun d=>absurd rfl d⟩;show kN x.1 [b]=_;unfold kN;rw[if_pos ⟨S,D⟩,if_pos p,s,m];rfl
  | false=>
   rw[l,if_neg (by decide)]at c
   have F:¬rR X b x=0:=by rw[c];decide
   rw[oV F,c];exact⟨(if_pos (g.2 l)).symm,fun d=>absurd d (by decide),fun _=>rfl⟩
 ·have m:x.1=none_:=by rw[f.tree,if_neg p]
  have A:x.1.es=[]∧x.1.ks=[]:=by rw[m];exact⟨rfl,rfl⟩
  have w:kP X b x.1=true:=by unfold kP;rw[aJ A,Bool.true_or]
  rw[w,if_pos rfl]at c;obtain⟨_,_,_,v⟩:=FD c;rw[c,v];refine⟨(if_neg fun B=>p B.1).symm,fun _=>⟨⟨?_,f.ctx⟩,r⟩,fun d=>absurd rfl d⟩;show kN x.1 [b]=_;unfold kN;rw[if_neg (fun d=>d.2 A),if_neg p]
theorem gG.nodes {t:T} {o:jK} {d:Int×Int} {j:Nat} {x:K} {z:Int} (b:jM o) (h:gG t o d j x z):Tr.nodes x.1≤5:=by
 by_cases a:z=0
 ·rw[(h.yes a).1.tree]
  split
  ·rw[Tr.nodes_wrap,iQ,List.length_drop]
   have h2:=(kE b).2;omega
  ·rw[nodes_none];omega
 ·rw[h.no a];show Tr.nodes none_≤5;rw[nodes_none];omega
theorem gG.len {t:T} {o:jK} {d:Int×Int} {j:Nat} {x:K} {z:Int} (h:gG t o d j x z):x.2.length≤4*Tr.nodes t+4:=by
 by_cases a:z=0
 ·exact (h.yes a).2
 ·rw[h.no a];exact Nat.zero_le _
theorem gG.top {t:T} {o:jK} {d:Int×Int} {x:K} (h:gG t o d 0 x 0):kg t o d x∧¬pV t o=true:=by
 refine⟨⟨by rw[(h.yes rfl).1.tree,List.drop_zero],(h.yes rfl).1.ctx⟩,fun b=>?_⟩;have a:=h.er;rw[if_pos (zC.1 b)]at a
 cases a
theorem gG.full {t:T} {o:jK} {d:Int×Int} {j:Nat} {x:K} {z:Int} (h:gG t o d j x z) (c:¬z=0):z=4∧x=bH∧pV t o=true:=by
 have a:=h.er
 by_cases b:jb t o j
 ·rw[if_pos b]at a
  exact⟨a,h.no c,zC.2 (b.less (Nat.zero_le _))⟩
 ·rw[if_neg b]at a
  exact absurd a c
end Cs
end
section
open ChangeShapes WideShapes ChangeAt RowKit Go.Shelf
namespace Cs
open Tr Cx Sp Rw Classical
theorem Kept.grown {l:List (Addr×Value)} {w W b:World} {a:Option Nat} (h:Kept l w W) (c:W.grownBy b a) (f:∀ r,a=some r→∃ o:Obj,W.heap[r]?=some o∧o.isCells=false) (e:av w b):Kept l w b:=
 ⟨e,fun x d=>⟨cO (h.2 x d).1 c.size,cell_kept (h.2 x d).2 c f⟩⟩
theorem aA.grown {b:Nat} {u:Value} {W g:World} {c:Option Nat} (h:aA b W) (d:W.cell? ⟨b,0,none⟩=some u) (i:W.grownBy g c) (m:∀ r,c=some r→∃ o:Obj,W.heap[r]?=some o∧o.isCells=false):aA b g:=by
 have f:some b≠c:=fun k=>by
  obtain⟨n,l,e⟩:=m b k.symm;unfold World.cell? at d;rw[l]at d
  cases n <;> first | (cases e;done) | (cases d;done)
 exact⟨cO h.1 i.size,fun j=>(Eb (a:=⟨b,j,none⟩) (i.block b h.1 f)).trans (h.2 j)⟩
theorem dQ.grown {ok:Nat→Prop} {p:CP} {W b:World} {a:Option Nat} (h:dQ W ok p) (c:W.grownBy b a) (d:∀ r,a=some r→∃ o:Obj,W.heap[r]?=some o∧o.isCells=false):dQ b ok p:=⟨aX.kept c d _ h.tree,h.len,h.ctx.kept (by omega) c d⟩
def LC (w:World) (L:List (Addr×Value)) (r g gD gE:Nat) (U:K→Int→Prop) (W:World):Prop:=∃ (p:CP) (z:Int),U p.k z∧dQ W (fun b=>w.heap.size≤b∧b≠r∧b≠g∧b≠gD∧b≠gE) p∧Kept ((⟨gD,0,none⟩,.slice p.e.A p.e.n p.e.c)::(⟨gD,1,none⟩,.slice p.d.A p.d.n p.d.c)::(⟨gD,2,none⟩,.slice p.c.A p.c.n p.c.c)::(⟨gE,0,none⟩,.int .i64 z)::(⟨r,0,none⟩,.slice none 0 0)::(⟨r,1,none⟩,.slice none 0 0)::(⟨r,2,none⟩,.slice none 0 0)::(⟨g,0,none⟩,.int .i64 0)::L) w W∧aA r W∧aA g W∧aA gD W∧aA gE W
theorem LC.grown {w:World} {L:List (Addr×Value)} {r g f i:Nat} {U:K→Int→Prop} {W e:World} {d:Option Nat} (h:LC w L r g f i U W) (a:W.grownBy e d) (b:∀ r,d=some r→∃ o:Obj,W.heap[r]?=some o∧o.isCells=false) (s:av w e):LC w L r g f i U e:=by
 obtain⟨p,z,j,k,c,l,m,n,q⟩:=h;exact⟨p,z,j,dQ.grown k a b,Kept.grown c a b s,aA.grown l c.c4 a b,aA.grown m c.c7 a b,aA.grown n c.c0 a b,aA.grown q c.c3 a b⟩
def KG (t:T) (o:jK) (d:Int×Int) (n:Nat) (pre:List {i:Nat // i<n}) (k:K) (z:Int):Prop:=(Tr.nodes k.1≤5+pre.length∧k.2.length≤4*Tr.nodes t+4)∧(iA n pre→gG t o d (n-pre.length) k z)
theorem FC (X:T) (key:ByteArray) (x:K):Tr.nodes (vw X key x).1≤Tr.nodes x.1+1∧(vw X key x).2.length≤x.2.length:=by
 unfold vw
 split
 ·refine⟨?_,bG⟩
  show Tr.nodes (kN x.1 [key])≤_;unfold kN
  split
  ·rw[Tr.nodes_wrap];simp
  ·rw[nodes_none];omega
 ·refine⟨?_,Nat.zero_le _⟩
  show Tr.nodes none_≤_;rw[nodes_none];omega
theorem KG.step {t:T} {o:jK} {a n:Int} {m:Nat} {pre:List {i:Nat // i<m}} {x:{i:Nat // i<m}} {k:K} (p:au 5 t) (l:jM o) (hd:Dt.ak a n=true) (hm:o.path.length=m) (h:KG t o (a,n) m pre k 0) (q:x.1<o.path.length) (hlt:pre.length<m) :
  KG t o (a,n) m (pre++[x]) (vw (aI t (o.path.take x.1)) o.path[x.1] k) (rR (aI t (o.path.take x.1)) o.path[x.1] k):=by
 obtain⟨e,f⟩:=FC (aI t (o.path.take x.1)) o.path[x.1] k;refine⟨⟨aN e (by rw[bP];have h9:Tr.nodes k.1≤5+pre.length:=h.1.1;show _≤5+(pre.length+1);omega),aN f h.1.2⟩,fun c=>?_⟩;obtain⟨g,h4⟩:=c.pre;have d:=h.2 g
 have b:(pre++[x]).length=pre.length+1:=by rw[bP];rfl
 have j:m-pre.length=x.1+1:=by have:=x.2;omega
 rw[j]at d;rw[b,show m-(pre.length+1)=x.1 from by omega];exact gG.step p l hd q d
def ME (v:World) (gD gE:Nat) (p:CP) (z:Int) (w:World):Prop:=v.heap.size≤gD∧v.heap.size≤gE∧gD≠gE∧dQ w (fun b=>v.heap.size≤b∧b≠gD∧b≠gE) p∧Kept [(⟨gD,0,none⟩,.slice p.e.A p.e.n p.e.c),(⟨gD,1,none⟩,.slice p.d.A p.d.n p.d.c),(⟨gD,2,none⟩,.slice p.c.A p.c.n p.c.c),(⟨gE,0,none⟩,.int .i64 z)] v w∧aA gD w∧aA gE w
theorem IG {v0 v:World} {a i:Nat} {p:CP} (z:Int) {w x y B:Value} (h:av v0 v) (m:v0.heap.size≤a) (q:v0.heap.size≤i) (j:a≠i) (u:dQ v (fun b=>v0.heap.size≤b∧b≠a∧b≠i) p) (t:aA a v) (l:aA i v) (z0:v.cell? ⟨a,0,none⟩=some w) (z1:v.cell? ⟨a,1,none⟩=some x) (z2:v.cell? ⟨a,2,none⟩=some y) (z3:v.cell? ⟨i,0,none⟩=some B) :
  ai (ME v0 a i p z ((((v.setCell ⟨a,0,none⟩ (.slice p.e.A p.e.n p.e.c)).setCell ⟨a,1,none⟩ (.slice p.d.A p.d.n p.d.c)).setCell ⟨a,2,none⟩ (.slice p.c.A p.c.n p.c.c)).setCell ⟨i,0,none⟩ (.int .i64 z))):=by
 obtain⟨r,f⟩:∃ W,W=((v.setCell ⟨a,0,none⟩ (.slice p.e.A p.e.n p.e.c)).setCell ⟨a,1,none⟩ (.slice p.d.A p.d.n p.d.c)).setCell ⟨a,2,none⟩ (.slice p.c.A p.c.n p.c.c):=⟨_,rfl⟩;obtain⟨s,g⟩:∃ W,W=r.setCell ⟨i,0,none⟩ (.int .i64 z):=⟨_,rfl⟩;rw[← f,← g];have hne2:¬i=a:=fun h=>j h.symm
 have k:av v0 s:=by rw[g];exact (jF f h m).o.setCell (p:=⟨i,0,none⟩) q _
 refine⟨m,q,j,u.keep (by rw[g,f];simp[World.setCell]) (fun b k _=>by rw[g,f];exact (cZ _ ⟨i,0,none⟩ _ b (fun e=>k.2.2 e)).trans (bR b k.2.1)),?_,?_,?_⟩
 ·refine ((((Kept.a_ k).af ?_).af ?_).af ?_).af ?_ <;> (rw[g,f];go_simp)
 ·rw[g,f]
  exact (((t.set _ _).set _ _).set _ _).set _ _
 ·rw[g,f]
  exact (((l.set _ _).set _ _).set _ _).set _ _
theorem oI {B:Nat} {W a:World} (h:av W a):KeepsFrom B W a:=⟨h.size,fun k _ _ b _=>(h.block k (IC.1 b).1).trans b⟩
theorem bX {B:Nat} (W:World) (a:Addr) (v:Value):KeepsFrom B W (W.setCell a v):=(KeepsOthers.setCell W a v).from B
end Cs
end
section
open ChangeShapes WideShapes ChangeAt RowKit
namespace Cs
open Tr Cx Sp Rw Classical
set_option maxRecDepth 100000 in
set_option maxHeartbeats 4000000 in
theorem zT (t:T) (Ae Ak:Option Addr) (ne nk ce ck:Nat) (p:List ByteArray) (PA:Option Addr) (pn pc:Nat) (v:Vw) (er:Int) (w:World) (NJ:vM t p=er) (hv:er=0→uh (aI t p) (bD p) v) (hz:¬er=0→v=zeroV) (hl:LenT reachBytes t) (hn:nodes t≤1000) (hr:aF w w.heap.size t ⟨Ae,ne,ce⟩ ⟨Ak,nk,ck⟩) (NN:nodes t≤240) (NP:pn≤900) (U:Rd w w.heap.size 1 PA pn pc (Tr.strs p)) (_hvl:v.l.length≤990) :
  Calls Tryz.prog 23 #[.agg #[.slice Ae ne ce,.slice Ak nk ck],.slice PA pn pc] w (Ma v er w):=by
 obtain⟨W,p9,r,HW,HP,Ny,b,j,c⟩:=MO w Ae Ak ne nk ce ck
 have i:w.heap.size≤r:=by have:=HP.o;have:=Ny.o;omega
 have hpr:p9<r:=by have:=HP.o;have:=Ny.o;omega
 have R:=ah (aF.later hr b.below);have q:=ah (U.later b.below);have A:=ah (bM U);have NE:=ah U;have N:=ah (And.intro hn (And.intro NP hl));have Z:=ah NJ;have HV:=ah hv;have NG:=ah hz;have N2:=ah NN;obtain⟨y1,NR⟩:∃ y,Tr.ak 5 t=y:=⟨_,rfl⟩;obtain⟨e0,NI⟩:∃ x,jk p=x:=⟨_,rfl⟩;have C:=ah NR;have L:=ah NI;clear hl hn NN hr U NP NJ hv hz NR NI;have c0:=b.c0;have c1:=b.c1;go_enter Tryz.func23,Tryz.ntmps23;go_wp2_with fail;rw[← HW.o,← HP.o]
 try rw[← Ny.o]
 refine (bS t Ae Ak ne nk ce ck W N.2.2 R).mono ?_;rw[C.o];rintro e v1 ⟨rfl,g⟩;obtain⟨b,R,q,j,c⟩:=jo g b R q j c;clear g;clear c0 c1
 cases y1 with
 | false=>
  have H:1=er:=by
   rw[← Z.o];unfold vM;rw[if_pos C.o]
  subst H;obtain⟨z0,z1,z2,z3,-⟩:=j.cj;have m0:=c.2 0;have m1:=c.2 1;have m2:=c.2 2;have m3:=c.2 3;obtain⟨m,d⟩:∃ W,W=(((v1.setCell ⟨r,0,none⟩ (.int .i64 0)).setCell ⟨r,1,none⟩ (.bool false)).setCell ⟨r,2,none⟩ (.int .i64 0)).setCell ⟨r,3,none⟩ (.slice none 0 0):=⟨_,rfl⟩
  have z:ai (av w m):=by
   unfold ai;rw[d];exact (((b.below.setCell (p:=⟨r,0,none⟩) i _).setCell (p:=⟨r,1,none⟩) i _).setCell (p:=⟨r,2,none⟩) i _).setCell (p:=⟨r,3,none⟩) i _
  have l0:m.cell? ⟨r,0,none⟩=some (.int .i64 0):=by rw[d];go_simp
  have l1:m.cell? ⟨r,1,none⟩=some (.bool false):=by rw[d];go_simp
  have l2:m.cell? ⟨r,2,none⟩=some (.int .i64 0):=by rw[d];go_simp
  have l3:m.cell? ⟨r,3,none⟩=some (.slice none 0 0):=by rw[d];go_simp
  have B:=ah d;clear d;go_wp2_with fail;rw[← B.o];refine bodyPost_ret (v:=.tuple #[.agg #[.int .i64 0,.bool false,.int .i64 0,.slice none 0 0],.int .i64 1]) (by simp[results,Tryz.results23,go_sem,l0,l1,l2,l3]) rfl ?_;obtain rfl:v=zeroV:=NG.o (by omega);exact⟨none,0,rfl,Rd.nil _,z⟩
 | true=>
  have NA:ai (¬Tr.ak 5 t=false):=ah (by rw[C.o];decide)
  have c0:=b.c0;have c1:=b.c1;go_wp2_with fail;refine (qb p pn PA pc v1 e0 L (by have:=N.o;omega) q).mono ?_;rintro e v2 ⟨rfl,F⟩
  have g:av v1 v2:=by rw[F];exact bN
  clear F;obtain⟨b,R,q,j,c⟩:=jo g b R q j c;clear g;clear c0 c1
  by_cases V:e0=0
  ·subst V
   have H:0=er:=by
    rw[← Z.o];unfold vM;rw[if_neg NA.o];exact L.symm
   subst H;have NC:ai (f_ p):=jT.1 L.o;have HT:ai (au 5 t):=Tr.aO.1 C.o;have Oa:ai (Tr.ak 5 t=true):=C.o;have NF:=ah (cB HT p);have X:ai (nodes (aI t p)≤240):=aN (fP t p) N2.o;have Nz:=ah (HV.o rfl);obtain⟨x,hx⟩:∃ x,x=aI t p:=⟨_,rfl⟩;obtain⟨kd,Q⟩:∃ k,k=bD p:=⟨_,rfl⟩;rw[← hx]at NF X Nz;rw[← Q]at Nz;have HX:=ah hx
   obtain⟨u,Ob⟩:∃ u,pn=u+1:=⟨pn-1,by
    have h:=A.o;have h2:0<p.length:=List.length_pos_iff.2 NC.some
    omega⟩
   subst Ob
   have N9:ai (1≤kd∧kd≤5):=ah (by rw[Q];exact Ig NC A)
   have N_:=ah Q;clear hx Q
   have G:u<p.length:=by have:=A.o;omega
   obtain⟨bp,op,rfl,NK,NH⟩:=gM NE (by omega);have q0:=(b.below.cell (p:=⟨bp,op+u,none⟩) NK).trans (NH u G)
   have hbpr:bp<r:=by omega
   have N7:d_ p[u]=kd:=by rw[N_.o];exact (nO G A).symm
   obtain⟨kk,NM⟩:∃ k,k=p[u]:=⟨_,rfl⟩;rw[← NM]at q0 N7;have NV:=ah N7;have b:=ah (b.af q0);clear NH N7 NM G NK q0
   have fw:IntKind.i64.wrap (u:Int)=(u:Int):=by have:=N.o;rw[iN];omega
   have fx:IntKind.i64.wrap ((u:Int)+1-1)=(u:Int):=by have:=N.o;rw[iN];omega
   have fy:(u:Int)<(u:Int)+1:=by omega
   obtain⟨c0,c1,c2,-⟩:=b.cj;go_wp2_with fail;clear c0 c1 c2;refine Rg (S:=eB _) b.drew.cj (fun f=>?_);obtain⟨NS,Y,g⟩:=mW v2;obtain⟨b,R,q,j,c⟩:=jo g b R q j c;clear g;rw[← Y]at f ⊢;clear Y;refine T4 0 17 1 18 2 19 3 20 ?_;refine T4 4 21 5 22 7 24 8 25 ?_;refine Tc 6 (fun K D=>?_);go_simp;(go_at_call 13;refine (nT kk NS).mono ?_);rw[NV.o];rintro e NT ⟨rfl,F⟩
   have g:av NS NT:=by rw[F];exact bN
   clear F;obtain⟨b,R,q,j,c⟩:=jo g b R q j c;clear g;clear f;refine Th D ?_ (fun f=>?_)
   ·exact b.cj
   clear D K;refine Tc 9 (fun K D=>?_);go_simp;(go_at_call 49;refine (j6 t Ae Ak ne nk ce ck NT p (some ⟨bp,op,none⟩) (u+1) pc A (by have:=N.o;omega) q N.2.2 (by have:=N.o;omega) R).mono ?_);rintro e J ⟨Ge,gn,gc,Gk,gm,gd,rfl,N8,g⟩;rw[if_pos Oa.o,← HX.o]at N8;have RG:ai (aF J J.heap.size x ⟨Ge,gn,gc⟩ ⟨Gk,gm,gd⟩):=N8.rd;clear N8;obtain⟨b,R,q,j,c⟩:=jo g b R q j c;clear g;clear f;refine Th D ?_ (fun f=>?_)
   ·exact b.cj
   clear D K;refine Tc 10 (fun K D=>?_);go_simp;(go_at_call 60;refine (Ib x Ge Gk gn gm gc gd kd v J N9 Nz NF X RG).mono ?_);rintro e NU ⟨LA,lc,rfl,NQ,g⟩;have NY:ai (Own NU J.heap.size 9 1 LA v.l.length lc (Tr.strs v.l)):=NQ.o;have M:ai (r<J.heap.size):=c.1;clear NQ;obtain⟨b,R,q,j,c,RG⟩:=pR g b R q j c RG;clear g;obtain⟨z0,z1,z2,z3,-⟩:=j.cj;have m0:=c.2 0;have m1:=c.2 1;have m2:=c.2 2;have m3:=c.2 3;clear f;refine Th D ?_ (fun f=>?_)
   ·exact b.cj
   clear D K;refine Tc 11 (fun K D=>?_);go_simp;refine Th D ?_ (fun s=>?_)
   ·(try dsimp only)
    have O:=b.o;have O:=O.set (a:=⟨r,0,none⟩) i (by simp;omega) (.int .i64 v.kd);have O:=O.set (a:=⟨r,1,none⟩) i (by simp;omega) (.bool v.on);have O:=O.set (a:=⟨r,2,none⟩) i (by simp;omega) (.int .i64 v.n);have O:=O.set (a:=⟨r,3,none⟩) i (by simp;omega) (.slice LA v.l.length lc);exact O.cj
   clear D K f;have f:=s;clear s;refine Tk 12 5 ?_;refine Td ?_;clear f;obtain⟨m,d⟩:∃ W,W=(((NU.setCell ⟨r,0,none⟩ (.int .i64 v.kd)).setCell ⟨r,1,none⟩ (.bool v.on)).setCell ⟨r,2,none⟩ (.int .i64 v.n)).setCell ⟨r,3,none⟩ (.slice LA v.l.length lc):=⟨_,rfl⟩
   have z:ai (av w m):=by
    unfold ai;rw[d];exact (((b.below.setCell (p:=⟨r,0,none⟩) i _).setCell (p:=⟨r,1,none⟩) i _).setCell (p:=⟨r,2,none⟩) i _).setCell (p:=⟨r,3,none⟩) i _
   have NZ:ai (Rd m m.heap.size 1 LA v.l.length lc (Tr.strs v.l)):=by
    unfold ai;rw[d];exact ((((NY.aT (a:=⟨r,0,none⟩) M _).aT (a:=⟨r,1,none⟩) M _).aT (a:=⟨r,2,none⟩) M _).aT (a:=⟨r,3,none⟩) M _).rd
   have l0:m.cell? ⟨r,0,none⟩=some (.int .i64 v.kd):=by rw[d];go_simp
   have l1:m.cell? ⟨r,1,none⟩=some (.bool v.on):=by rw[d];go_simp
   have l2:m.cell? ⟨r,2,none⟩=some (.int .i64 v.n):=by rw[d];go_simp
   have l3:m.cell? ⟨r,3,none⟩=some (.slice LA v.l.length lc):=by rw[d];go_simp
   have B:=ah d;clear d z0 z1 z2 z3 m0 m1 m2 m3;rw[← B.o];go_wp2_with fail;refine bodyPost_ret (v:=.tuple #[.agg #[.int .i64 v.kd,.bool v.on,.int .i64 v.n,.slice LA v.l.length lc],.int .i64 0]) (by simp[results,Tryz.results23,go_sem,l0,l1,l2,l3]) rfl ?_;exact⟨LA,lc,rfl,NZ,z⟩
  ·have NW:ai (¬e0=0):=V
   have f0:(e0 != 0)=true:=by simpa using V
   clear V
   have H:e0=er:=by
    rw[← Z.o];unfold vM;rw[if_neg NA.o];exact L.symm
   subst H;obtain⟨z0,z1,z2,z3,-⟩:=j.cj;have m0:=c.2 0;have m1:=c.2 1;have m2:=c.2 2;have m3:=c.2 3;obtain⟨m,d⟩:∃ W,W=(((v2.setCell ⟨r,0,none⟩ (.int .i64 0)).setCell ⟨r,1,none⟩ (.bool false)).setCell ⟨r,2,none⟩ (.int .i64 0)).setCell ⟨r,3,none⟩ (.slice none 0 0):=⟨_,rfl⟩
   have z:ai (av w m):=by
    unfold ai;rw[d];exact (((b.below.setCell (p:=⟨r,0,none⟩) i _).setCell (p:=⟨r,1,none⟩) i _).setCell (p:=⟨r,2,none⟩) i _).setCell (p:=⟨r,3,none⟩) i _
   have l0:m.cell? ⟨r,0,none⟩=some (.int .i64 0):=by rw[d];go_simp
   have l1:m.cell? ⟨r,1,none⟩=some (.bool false):=by rw[d];go_simp
   have l2:m.cell? ⟨r,2,none⟩=some (.int .i64 0):=by rw[d];go_simp
   have l3:m.cell? ⟨r,3,none⟩=some (.slice none 0 0):=by rw[d];go_simp
   have B:=ah d;clear d;go_wp2_with fail;rw[← B.o];refine bodyPost_ret (v:=.tuple #[.agg #[.int .i64 0,.bool false,.int .i64 0,.slice none 0 0],.int .i64 e0]) (by simp[results,Tryz.results23,go_sem,l0,l1,l2,l3]) rfl ?_;obtain rfl:v=zeroV:=NG.o (by exact NW.o);exact⟨none,0,rfl,Rd.nil _,z⟩
end Cs
namespace Cs
open Tr Cx Sp Rw Classical
section
variable {s:SM} {c:List S3} {p:List ByteArray}
end
end Cs
end
end Go.Proofs.YtgeafpaognhokaaGreat
