/- Texts of the lower layers, and of layer 9, put together. -/
import Derived.Test.YtgeafpaognhokaaGreatG00
import Derived.Deep.Strs
import Derived.RangeFuncCalls
import Derived.OrdersIn
import Derived.Deep.RegionHeld
import Derived.Shelf.SlGeneric
import Derived.Shelf.SlicesG.CompactS
import Derived.Ground.SlgnProg
namespace Go.Proofs.YtgeafpaognhokaaGreat
section
open ChangeShapes WideShapes ChangeAt RowKit
namespace Tr
open Rw Sp
namespace bK
variable {w w':World} {base e n c:Nat} {A:Option Addr} {ks:List (ByteArray×T)} {kr:List (ByteArray×SV×SV)}
theorem vL {t l:Nat} {z:Value} (M:Tryz.prog.underlying t=some (.slice e)) (hi:(Tryz.prog.info? e).map (fun i=>(i.zero,i.size,i.bytes))=some (some z,3,l)) (R:z.cells.size=3) (H:l≤1000000)
  (h:bK w base e A n c ks kr) (p:Nat) (X:w.heap.size=p) (d:base≤w.heap.size) {k:ByteArray×SV×SV} {u:T} (hu:aX w (fun b=>base≤b∧(Value.slice A n c).ownBlock≠some b) u k.2.1 k.2.2) (hn:n≤900000) (S:Array Value) (J:S=(nM k).toArray) :
  ∃ A' c' w',(Builtin.append_ #[t,t] t #[.slice A n c,.slice (some ⟨p,0,none⟩) 1 1]).run Tryz.prog (w.alloc (.cells S e)) = .ok (.slice A' (n+1) c') w' ∧
   bK w' base e A' (n+1) c' (ks++[(k.1,u)]) (kr++[k])∧Below base w w'∧∀ b,(Value.slice A n c).ownBlock≠some b→b<w.heap.size→(w'.heap[b]?=w.heap[b]?∧(Value.slice A' (n+1) c').ownBlock≠some b):=by
 subst X;subst J;obtain⟨Y,L,N,O,Q⟩:=dO hi;have g:=h.own.row
 obtain⟨v',w',Z,r2,C,f⟩:=iq (P:=Tryz.prog) (w.alloc (.cells (nM k).toArray e)) base t t e Y z 3 l M L N O Q R (by omega)
  (g.alloc _) (B:=w.heap.size+1) (A:=some ⟨w.heap.size,0,none⟩) (m:=1) (c:=1) (news:=nM k)
  ⟨rfl,by omega,sK k,fun _=>⟨_,_,rfl,by omega,fun j u hu=>by
   rw[Nat.zero_add,cell_of_row _ _ j _ _ (0,0) (heap_alloc_new _ _)]
   simpa using hu⟩⟩ (by omega) H (by simp;omega)
 obtain⟨A',c',rfl,W⟩:=Own.gX r2 (fun u hu=>by
  rcases fO.1 hu with hu | hu
  ·exact h.own.one u hu
  ·exact sK k u hu)
 have s:Below base w w':=((Below.refl base w).alloc d _).grown C (by simp;omega) (fun k V=>(g.lt k V).1)
 have r:w.heap.size≤w'.heap.size:=by have:=C.size;simp at this;omega
 have q:∀ b,(Value.slice A n c).ownBlock≠some b→b<w.heap.size→(Value.slice A' (n+1) c').ownBlock≠some b:=fun b d a v=>by
  rcases f with f | f
  ·exact d (f.symm.trans v)
  ·have:some b=some (w.alloc (.cells (nM k).toArray e)).heap.size:=v.symm.trans f
   injection this with this
   simp at this
   omega
 have x:∀ b,(base≤b∧(Value.slice A n c).ownBlock≠some b)→b<w.heap.size→base≤b∧(Value.slice A' (n+1) c').ownBlock≠some b:=fun b d a=>⟨d.1,fun v=>by
  rcases f with f | f
  ·exact d.2 (f.symm.trans v)
  ·have:some b=some (w.alloc (.cells (nM k).toArray e)).heap.size:=v.symm.trans f
   injection this with this
   simp at this
   omega⟩
 have y:∀ {t:T} {se sk:SV},aX w (fun b=>base≤b∧(Value.slice A n c).ownBlock≠some b) t se sk→aX w' (fun b=>base≤b∧(Value.slice A' (n+1) c').ownBlock≠some b) t se sk:=fun {t se sk} M=>
  aX.keep r (fun b d a=>(C.block b (by simp;omega) (fun e=>d.2.2 e.symm)).trans (heap_alloc_old w _ a)) t (aX.mono (ok':=fun b=>(base≤b∧(Value.slice A' (n+1) c').ownBlock≠some b)∧(base≤b∧(Value.slice A n c).ownBlock≠some b)) (fun b d a=>⟨x b d a,d⟩) t M) |> aX.mono (fun b d _=>d.1) t
 refine⟨A',c',w',Z,⟨by simp[h.len],by simp[h.lenr],?_,fun i hi hi'=>?_⟩,s,fun b d a=>⟨(C.block b (by simp;omega) (fun e=>d e.symm)).trans (heap_alloc_old w _ a),q b d a⟩⟩
 ·have D:(kr++[k]).flatMap nM=kr.flatMap nM++nM k:=by simp
  rw[D];exact W
 ·by_cases a:i<n
  ·have F:i<ks.length:=by rw[h.len];exact a
   have G:i<kr.length:=by rw[h.lenr];exact a
   rw[BL F,BL G];exact⟨(h.yH i F G).1,y (h.yH i F G).2⟩
  ·have e0:i=n:=by simp[h.len]at hi;omega
   have D:(ks++[(k.1,u)])[i]=(k.1,u):=by rw[BM (by rw[h.len];omega)];simp
   have U:(kr++[k])[i]=k:=by rw[BM (by rw[h.lenr];omega)];simp
   rw[D,U];exact⟨rfl,y hu⟩
end bK
end Tr
namespace Tr
open Rw
theorem vS {H:Type} (P:Program) (e:TypeId):∀ {l:List (DataW H)} {d:DataW H},d∈l→∀ {m:Nat},m∈d.weights P e→m∈DataW.weightsAll P e l
 | c::l,d,h,m,hm=>by
  unfold DataW.weightsAll
  rcases jJ.1 h with rfl | h
  ·exact yE _ hm
  ·exact Ec _ (vS P e h hm)
section
variable {H:Type} {enc:TypeId×Value→H} {P:Program} {W:World}
theorem Dy {t e:TypeId} {sz fuel:Nat} {g:List Value} {x:DataW H×List MemPlace} (J:P.underlying t=some (.slice e)) (C:P.cellsOf e=sz) (v:0<sz)
  (S:∀ n g y,n<fuel→DataW.trod enc P W 0 (fun _=>true) true n e g=some y→∀ u∈g,u.oneCell'=true)
  (h:DataW.trod enc P W 0 (fun _=>true) true fuel t g=some x) :
  ∃ (s:SV) (f:Nat→List Value),g=[.slice s.A s.n s.c]∧(∀ i,(f i).length=sz)∧(∀ i,i<s.n→∃ n y,n<fuel∧DataW.trod enc P W 0 (fun _=>true) true n e (f i)=some y∧∀ m∈y.1.weights P e,m∈x.1.weights P t)∧(0<s.n→∃ m∈x.1.weights P t,s.n*P.bytesOf e≤m) ∧
   Rd W W.heap.size sz s.A s.n s.c ((List.range s.n).flatMap f)∧s.n≤maxLen:=by
 rcases DataW.trod_slice J h with ⟨rfl,_⟩ | ⟨a,len,B,b,rest,n,rfl,rfl,rfl,_,O,G,q,D,_⟩
 ·exact⟨⟨none,0,0⟩,fun _=>List.replicate sz (.int .i64 0),rfl,fun _=>by simp,fun i hi=>absurd hi (Nat.not_lt_zero _),fun h=>absurd h (Nat.not_lt_zero _),Rd.nil _,by simp[maxLen]⟩
 ·have F:∀ i,∃ c:List Value,c.length=sz∧(i<len→(∃ y,DataW.trod enc P W 0 (fun _=>true) true n e c=some y∧y∈b)∧∀ j,j<sz→W.cell? (a.add (i*sz+j))=c[j]?):=by
   intro i
   by_cases hi:i<len
   ·have:=D i hi
    rw[v_ (by omega)]at this;obtain⟨c,U,w⟩:=Option.bind_eq_some_iff.1 this;obtain⟨_,p,l⟩:=World.cells?_some U;rw[C]at p l;refine⟨c,p,fun _=>⟨⟨_,w,bT _⟩,fun j V=>?_⟩⟩;have:=l j V
    rwa [add_add']at this
   ·exact⟨List.replicate sz (.int .i64 0),by simp,fun h=>absurd h hi⟩
  obtain⟨f,z⟩:=Classical.axiomOfChoice F;have d:∀ i,(f i).length=sz:=fun i=>(z i).1;refine⟨⟨some a,len,B⟩,f,rfl,d,fun i hi=>?_,fun _=>?_,?_,aN O G⟩
  ·obtain⟨y,w,r⟩:=((z i).2 hi).1
   refine⟨n,y,m_ n,w,fun m G=>?_⟩;simp only[DataW.weights,J];exact gY _ (yE _ (vS P e (dH.2 ⟨y,r,rfl⟩) G))
  ·have Y:(b.length+rest.length)*P.bytesOf e∈(DataW.slice (b.map (·.1)) (rest.map (·.1))).weights P t:=by
    simp only[DataW.weights,J,eP];exact fA
   exact⟨_,Y,Nat.mul_le_mul_right _ (by rw[q];exact Nat.le_add_right _ _)⟩
  ·refine rd_of_cells (by rw[flatMap_len d,List.length_range]) O (fun u hu=>?_) v (fun k u hu=>?_)
   ·obtain⟨i,hi,hu⟩:=ol.1 hu
    obtain⟨y,w,_⟩:=((z i).2 (List.mem_range.1 hi)).1;exact S n (f i) y (m_ n) w u hu
   ·have X:k<len*sz:=by
     have:=(List.getElem?_eq_some_iff.1 hu).1
     rwa [flatMap_len d,List.length_range]at this
    have Q:k / sz<len:=Nat.div_lt_of_lt_mul (by rw[Nat.mul_comm];exact X);have R:k % sz<sz:=Nat.mod_lt _ v
    have N:k / sz*sz+k % sz=k:=by rw[Nat.mul_comm];exact Nat.div_add_mod k sz
    have L:=mG (f:=f) (k:=sz) d (List.range len) (k / sz) (k % sz) (by rw[List.length_range];exact Q) R;rw[N,List.getElem_range]at L;have M:=((z (k / sz)).2 Q).2 (k % sz) R;rw[N]at M;rw[M,← L];exact hu
variable {tT tE tK tEs tKs tD tI tL tS:TypeId}
end
end Tr
namespace Tr
open Rw Sp
def Alike (u v:Value):Prop:=u=v∨(∃ a b:Int,u = .int .i64 a∧v = .int .i64 b)∨∃ a b:ByteArray,u = .string a∧v = .string b
theorem Alike.trans {u v x:Value} (h:Alike u v) (k:Alike v x):Alike u x:=by
 rcases h with rfl | ⟨a,b,rfl,rfl⟩ | ⟨a,b,rfl,rfl⟩
 ·exact k
 ·rcases k with rfl | ⟨c,d,_,rfl⟩ | ⟨c,d,h,_⟩
  ·exact .inr (.inl ⟨_,_,rfl,rfl⟩)
  ·exact .inr (.inl ⟨_,_,rfl,rfl⟩)
  ·cases h
 ·rcases k with rfl | ⟨c,d,h,_⟩ | ⟨c,d,_,rfl⟩
  ·exact .inr (.inr ⟨_,_,rfl,rfl⟩)
  ·cases h
  ·exact .inr (.inr ⟨_,_,rfl,rfl⟩)
theorem Alike.int {a:Int} {v:Value} (h:Alike (.int .i64 a) v):∃ b:Int,v = .int .i64 b:=by
 rcases h with rfl | ⟨_,b,_,rfl⟩ | ⟨_,_,h,_⟩
 ·exact⟨_,rfl⟩
 ·exact⟨b,rfl⟩
 ·cases h
theorem Alike.str {a:ByteArray} {v:Value} (h:Alike (.string a) v):∃ b:ByteArray,v = .string b:=by
 rcases h with rfl | ⟨_,_,h,_⟩ | ⟨_,b,_,rfl⟩
 ·exact⟨_,rfl⟩
 ·cases h
 ·exact⟨b,rfl⟩
theorem Alike.slice {A:Option Addr} {n c:Nat} {v:Value} (h:Alike (.slice A n c) v):v = .slice A n c:=by
 rcases h with rfl | ⟨_,_,h,_⟩ | ⟨_,_,h,_⟩
 ·rfl
 ·cases h
 ·cases h
structure Fr (lo:Nat) (w w':World):Prop where
 below:Below lo w w'
 size:w.heap.size≤w'.heap.size
 cell:∀ (b j:Nat) (u:Value),b<w.heap.size→w.cell? ⟨b,j,none⟩=some u→∃ v,w'.cell? ⟨b,j,none⟩=some v∧Alike u v
 froz:∀ b j:Nat,b<w.heap.size→w'.frozen? ⟨b,j,none⟩=w.frozen? ⟨b,j,none⟩
namespace Fr
variable {lo:Nat} {w w' w'':World}
theorem refl (lo:Nat) (w:World):Fr lo w w:=⟨bN,bG,fun _ _ u _ h=>⟨u,h,.inl rfl⟩,fun _ _ _=>rfl⟩
theorem trans (h:Fr lo w w') (k:Fr lo w' w''):Fr lo w w'':=
 ⟨h.below.trans k.below,aN h.size k.size,fun b j u a hu=>by
  obtain⟨v,e,d⟩:=h.cell b j u a hu;obtain⟨x,f,c⟩:=k.cell b j v (cO a h.size) e
  exact⟨x,f,d.trans c⟩,fun b j a=>(k.froz b j (cO a h.size)).trans (h.froz b j a)⟩
theorem set {b j:Nat} {u v:Value} (i:lo≤b) (h:w.frozen? ⟨b,j,none⟩=false) (hu:w.cell? ⟨b,j,none⟩=some u) (g:Alike u v):Fr lo w (w.setCell ⟨b,j,none⟩ v):=
 ⟨(Below.refl lo w).setCell (p:=⟨b,j,none⟩) i _,by simp[World.setCell],fun c d k _ a=>by
  by_cases f:(⟨c,d,none⟩:Addr)=⟨b,j,none⟩
  ·injection f with e1 e2
   subst e1;subst e2;rw[hu]at a;injection a with a;subst a;have m0:=h;exact⟨v,by go_simp,g⟩
  ·exact⟨k,(oW w ⟨b,j,none⟩ ⟨c,d,none⟩ v (fun e=>f e.symm)).trans a,.inl rfl⟩,fun c d _=>by rw[yY]⟩
end Fr
def vU (w:World) (lo:Nat):T→SV→SV→Prop
 | .mk es ks,se,sk=>es.length=se.n∧(0<se.n→∃ b o,se.A=some ⟨b,o,none⟩∧lo≤b∧b<w.heap.size∧(∀ j,w.frozen? ⟨b,j,none⟩=false)∧∀ i,i<se.n→∃ (x0 x1:Int) (x2:ByteArray) (x3:Int),w.cell? ⟨b,o+i*4,none⟩=some (.int .i64 x0)∧w.cell? ⟨b,o+i*4+1,none⟩=some (.int .i64 x1)∧w.cell? ⟨b,o+i*4+2,none⟩=some (.string x2)∧w.cell? ⟨b,o+i*4+3,none⟩=some (.int .i64 x3)) ∧
   ks.length=sk.n∧(0<sk.n→∃ b o,sk.A=some ⟨b,o,none⟩∧lo≤b∧b<w.heap.size∧(∀ j,w.frozen? ⟨b,j,none⟩=false)∧∀ (i:Nat) (h:i<ks.length),∃ (key:ByteArray) (se' sk':SV),w.cell? ⟨b,o+i*3,none⟩=some (.string key)∧w.cell? ⟨b,o+i*3+1,none⟩=some (.slice se'.A se'.n se'.c)∧w.cell? ⟨b,o+i*3+2,none⟩=some (.slice sk'.A sk'.n sk'.c)∧vU w lo (ks[i]).2 se' sk')
termination_by t=>SizeOf.sizeOf t
decreasing_by exact IV h es
theorem G7 (w:World) (lo:Nat) (es:List E) (ks:List (ByteArray×T)) (se e:SV):vU w lo (.mk es ks) se e↔(es.length=se.n∧(0<se.n→∃ b o,se.A=some ⟨b,o,none⟩∧lo≤b∧b<w.heap.size∧(∀ j,w.frozen? ⟨b,j,none⟩=false)∧∀ i,i<se.n→∃ (f g:Int) (k:ByteArray) (l:Int),w.cell? ⟨b,o+i*4,none⟩=some (.int .i64 f)∧w.cell? ⟨b,o+i*4+1,none⟩=some (.int .i64 g)∧w.cell? ⟨b,o+i*4+2,none⟩=some (.string k)∧w.cell? ⟨b,o+i*4+3,none⟩=some (.int .i64 l)) ∧
   ks.length=e.n∧(0<e.n→∃ b o,e.A=some ⟨b,o,none⟩∧lo≤b∧b<w.heap.size∧(∀ j,w.frozen? ⟨b,j,none⟩=false)∧∀ (i:Nat) (h:i<ks.length),∃ (key:ByteArray) (a d:SV),w.cell? ⟨b,o+i*3,none⟩=some (.string key)∧w.cell? ⟨b,o+i*3+1,none⟩=some (.slice a.A a.n a.c)∧w.cell? ⟨b,o+i*3+2,none⟩=some (.slice d.A d.n d.c)∧vU w lo (ks[i]).2 a d)):=by
 rw[vU]
theorem vU.xI {w:World} {ok:Nat→Prop} {lo:Nat} (d:∀ b,ok b→b<w.heap.size→lo≤b):∀ (t:T) {se r:SV},aX w ok t se r→vU w lo t se r:=by
 intro t
 induction t using T.ind with
 | h es ks ih=>
  intro se r h;rw[kQ]at h;rw[G7];obtain⟨B,C,D,xs,F,G⟩:=h;refine⟨B,fun l=>?_,D,fun l=>?_⟩
  ·obtain⟨b,o,e,m,g,p,c⟩:=C.at_ l
   refine⟨b,o,e,d b m g,g,p,fun i hi=>?_⟩
   have k:i<es.length:=by omega
   have f:=fun j H=>mG gQ es i j k H;refine⟨es[i].a,es[i].n,es[i].s,es[i].v,c _ _ (f 0 (by omega)),?_,?_,?_⟩
   ·rw[Nat.add_assoc];exact c _ _ (f 1 (by omega))
   ·rw[Nat.add_assoc];exact c _ _ (f 2 (by omega))
   ·rw[Nat.add_assoc];exact c _ _ (f 3 (by omega))
  ·obtain⟨b,o,e,m,g,p,c⟩:=F.at_ l
   refine⟨b,o,e,d b m g,g,p,fun i hi=>?_⟩;obtain⟨q,u,x,y,z,A⟩:=G i hi;refine⟨(ks[i]).1,q,u,c _ _ x,?_,?_,ih _ (bT hi) A⟩
   ·rw[Nat.add_assoc];exact c _ _ y
   ·rw[Nat.add_assoc];exact c _ _ z
theorem vU.fr {w w':World} {lo p:Nat} (c:Fr p w w'):∀ (t:T) {se v:SV},vU w lo t se v→vU w' lo t se v:=by
 intro t
 induction t using T.ind with
 | h es ks ih=>
  intro se v h;rw[G7]at h ⊢;obtain⟨B,C,D,F⟩:=h;refine⟨B,fun n=>?_,D,fun n=>?_⟩
  ·obtain⟨b,o,e,q,a,r,s⟩:=C n
   refine⟨b,o,e,q,cO a c.size,fun j=>(c.froz b j a).trans (r j),fun i hi=>?_⟩;obtain⟨x0,x1,x2,x3,c0,c1,c2,c3⟩:=s i hi;obtain⟨_,k,d⟩:=c.cell _ _ _ a c0;obtain⟨_,l,f⟩:=c.cell _ _ _ a c1;obtain⟨_,m,g⟩:=c.cell _ _ _ a c2;obtain⟨_,A,z⟩:=c.cell _ _ _ a c3;obtain⟨y,rfl⟩:=d.int;obtain⟨G,rfl⟩:=f.int;obtain⟨H,rfl⟩:=g.str;obtain⟨J,rfl⟩:=z.int;exact⟨y,G,H,J,k,l,m,A⟩
  ·obtain⟨b,o,e,q,a,r,s⟩:=F n
   refine⟨b,o,e,q,cO a c.size,fun j=>(c.froz b j a).trans (r j),fun i hi=>?_⟩;obtain⟨key,u,x,c0,c1,c2,c3⟩:=s i hi;obtain⟨_,k,d⟩:=c.cell _ _ _ a c0;obtain⟨_,l,f⟩:=c.cell _ _ _ a c1;obtain⟨_,m,g⟩:=c.cell _ _ _ a c2;obtain⟨y,rfl⟩:=d.str
   cases f.slice
   cases g.slice
   exact⟨y,u,x,k,l,m,ih _ (bT hi) c3⟩
end Tr
namespace Tr
open Sp Rw
end Tr
end
section
namespace Rnd
theorem FE {l n:Nat} {P:Program} {o:Oper} {a:Act} {K i:Act→World→Prop} {Q:Exit→Act→World→Prop} (g:∀ a w,K a w→i a w) {r:Result Next} (h:Oper.upon P o a K Q r):Oper.uponIn (Fence.wide.inRound l) n P o a i Q r:=by
 cases r with
 | ok x k=>
  cases x <;> simp only[Oper.upon,Oper.uponIn]at h ⊢
  case value v=>exact g _ _ h
  case skip=>exact g _ _ h
  case defer d=>exact g _ _ h
  case enter f args=>
   have q:CallsIn (Fence.wide.inRound l) (n-1) P f args k _:=CallsIn.inRound l (callsIn_wide.2 h);refine⟨fun b=>(by cases b),CallsIn.mono q fun e w'' j=>?_⟩
   cases e <;> first | exact g _ _ j | exact j
  case row row args=>
   refine⟨fun b=>(by cases b),fun c m _=>?_⟩;obtain⟨v,s,p,b⟩:=h c m;exact⟨v,s,g _ _ p,stepsIn_wide.2 b⟩
 | halt x k=>cases x <;> simp only[Oper.upon,Oper.uponIn]at h ⊢ <;> exact h
theorem JQ {l n:Nat} {P:Program} {b:Array Oper} {Q:Exit→Act→World→Prop} (f:¬LetsOut Q) (hd:∀ (i:Nat) (o:Oper),b[i]?=some o→∀ c,o.op ≠ .defer c) {i:Nat} {K j:Act→World→Prop} {a:Act} {w:World} (d:∀ a w,K a w→j a w) (h:wpOp P b Q i K a w):wpOpIn (Fence.wide.inRound l) n P b Q i j a w:=by
 unfold wpOp at h;unfold wpOpIn
 cases g:b[i]? with
 | none=>rw[g]at h;exact d _ _ h
 | some o=>
  rw[g]at h;simp only at h ⊢
  by_cases k:Region.wanted o (yielded b a.tmps)=true
  ·rw[if_pos k]at h ⊢
   rcases h with h | h
   ·refine⟨fun _ _=>trivial,?_⟩
    have e:Oper.semAt (Fence.wide.inRound l).round a.eval o=execOp a.eval o:=Oper.semAt_eq _ _ _ (hd i o g);rw[e];exact FE d h
   ·exact absurd h.2 f
  ·rw[if_neg k]at h ⊢
   exact⟨fun _ _=>trivial,d _ _ h⟩
theorem zf {l n:Nat} {P:Program} {e:Region.Mode} {b:Array Oper} {Q:Exit→Act→World→Prop} (d:¬LetsOut Q) (hd:∀ (i:Nat) (o:Oper),b[i]?=some o→∀ c,o.op ≠ .defer c) :
  ∀ (fuel:Nat) (listed:Array Bool) (a:Act) (w:World),wpAny P e b Q fuel listed a w→wpAnyIn (Fence.wide.inRound l) n P e b Q fuel listed a w
 | 0,_,_,_,h=>h
 | fuel+1,_,_,_,h=>⟨h.1,fun i hi=>JQ d hd (fun f w' g=>zf d hd fuel _ f w' g) (h.2 i hi)⟩
def Di (ops:Array Oper):Bool:=ops.toList.all fun o=>match o.op with | .defer _=>false | _=>true
theorem JS {a:Array Oper} (h:Di a=true) (i:Nat) (o:Oper) (d:a[i]?=some o) (c):o.op ≠ .defer c:=fun e=>by
 have b:=List.all_eq_true.1 h o (List.mem_of_getElem? (by rw[Array.getElem?_toList];exact d));rw[e]at b
 cases b
theorem wX {l n:Nat} {P:Program} {b:Array Oper} {Q:Exit→Act→World→Prop} {S:World→Prop} {id:Nat} {a:Act} {w:World} (d:P.follows .mixedOrders=true) (hd:Di b=true) (c:¬LetsOut Q) (hS:S w.drew)
  (h:S w.drew→wpAnyH P .any b Q S b.size (Array.replicate b.size false) a w.drew):(Code.region id b true).wpIn (Fence.wide.inRound l) n P Q a w:=
 wpIn_region_any d (zf c (JS hd) _ _ _ _ (wpAny_of_held _ _ _ _ (h hS)))
def still (Q:Exit→Act→World→Prop):Exit→Act→World→Prop
 | .panic _,_,_=>False
 | .outgrown,_,_=>False
 | .normal,a,w=>Q .normal a w
 | .ret,a,w=>Q .ret a w
 | .exit i,a,w=>Q (.exit i) a w
 | .goto i,a,w=>Q (.goto i) a w
theorem K5 {P:Program} {c:Code} {Q:Exit→Act→World→Prop} {a:Act} {w:World} (h:c.wp P (still Q) a w):c.wp P Q a w:=
 wp_mono h fun e a w b=>by cases e <;> first | exact b | exact b.elim
end Rnd
end
section
open Go.Shelf
namespace Tr
def yK:Go.Shelf.Ren:=⟨fun | 44=>150 | n=>n,fun | 25=>25 | 26=>9 | 3=>3 | 4=>4 | 0=>0 | n=>n,fun | n=>n⟩
theorem zu:Go.Proofs.SlLaysN.n44 Tryz.prog yK:={
 mixed:=by kernel_rfl
 f44:=⟨Tryz.f150.name,by decide,Tryz.func150.trans (congrArg some (by kernel_rfl))⟩
 t0:=Tryz.underlying0
 a0:=Tryz.isAgg0
 z0:=Tryz.sizeOf0
 v0:=Tryz.zeroValue0
 t3:=Tryz.underlying3
 a3:=Tryz.isAgg3
 z3:=Tryz.sizeOf3
 v3:=Tryz.zeroValue3
 t4:=Tryz.underlying4
 a4:=Tryz.isAgg4
 z4:=Tryz.sizeOf4
 v4:=Tryz.zeroValue4
 t25:=Tryz.underlying25
 a25:=Tryz.isAgg25
 z25:=Tryz.sizeOf25
 v25:=Tryz.zeroValue25
 t26:=Tryz.underlying9
 a26:=Tryz.isAgg9
 z26:=Tryz.sizeOf9
 v26:=Tryz.zeroValue9
 i26:=by kernel_rfl }
end Tr
end
end Go.Proofs.YtgeafpaognhokaaGreat
