/- Two sets put together; the set of numbers: the document's. -/
import Derived.Test.YtgeafpaognhokaaGreatG00
namespace Go.Proofs.YtgeafpaognhokaaGreat
open ChangeShapes WideShapes ChangeAt RowKit
namespace Sp
def Np (f:Bool→Bool→Bool) (a b:List (Int×Int)) (w:World) (e:Ending) (w':World):Prop:=
 ∃ l A c,e = .returned (.slice A l.length c)∧aB 1 l∧(∀ n,hasB l n=f (hasB a n) (hasB b n))∧Own w' w.heap.size 157 2 A l.length c (aS l)∧av w w'
def FP (how:Int) (f:Bool→Bool→Bool):Prop:=(how=0∧f=fun x y=>x||y)∨(how=1∧f=fun x y=>x&&y)∨(how=2∧f=fun x y=>x && !y)
theorem FP.ff {a:Int} {f:Bool→Bool→Bool} (h:FP a f):f false false=false:=by
 rcases h with ⟨_,rfl⟩ | ⟨_,rfl⟩ | ⟨_,rfl⟩ <;> rfl
set_option maxRecDepth 100000 in
set_option maxHeartbeats 4000000 in
theorem Ih (f:Bool→Bool→Bool) (Og:Int) (NG:FP Og f)
  (a b:List (Int×Int)) (n m:Nat) (A B:Option Addr) (c d:Nat) (w:World) (NN:a.length=n) (NP:b.length=m) (hn:n≤1000) (hm:m≤1000) (NR:Rd w w.heap.size 2 A n c (aS a)) (NS:Rd w w.heap.size 2 B m d (aS b)) (oa:aB 1 a) (ob:aB 1 b) :
  Calls Tryz.prog 174 #[.slice A n c,.slice B m d,.int .i64 Og] w (Np f a b w):=by
 have Oi:=ah NR;have Oj:=ah NS;have NW:=ah NN;have NY:=ah NP;have NJ:=ah oa;have NK:=ah ob;have HH:=ah NG;have NU:=ah (Ci a n A c w NN hn NR oa);have NV:=fun W (h:av w W)=>ah (Ci b m B d W NP hm ((NS.below h).more h.size) ob);clear NR NS NN NP oa ob NG;go_enter Tryz.func174,Tryz.ntmps174;go_wp2_with fail;refine NU.mono ?_;rintro e w1 ⟨A1,c1,rfl,Od,NA⟩;go_wp2_with fail;refine (NV w1 NA).o.mono ?_;rintro e w2 ⟨A2,c2,rfl,Oe,NM⟩;have N8:=NA.trans (NM.mono NA.size);obtain⟨P,pc,w3,N9,NE,Oa⟩:=Dz (aG Od NM) Oe.rd (by omega) N8.size;obtain⟨u,hu⟩:∃ u,u=n*2+m*2:=⟨_,rfl⟩;rw[← hu]at N9 NE;have HU:=ah hu;obtain⟨pl,NF⟩:∃ pl,pl=bW a++bW b:=⟨_,rfl⟩
 rw[← NF]at NE
 have NQ:pl.length=u:=by rw[NF,bP,zA,zA,NW.o,NY.o];omega
 have O:=ah NF;have N_:=ah NQ;have HP:=ah NE.rd;have M:=ah (N8.trans Oa);have NZ:=ah N9;have HN:=fun v W (h:av w3 W)=>ah (CQ pl u P pc W NQ (by omega) ((HP.below h).more h.size) v);have HZ:=ah (pz.zero HH.ff NJ NK);rw[← O.o]at HZ;clear NU NV Od Oe NE NA NM Oa N8 N9 hu NF NQ;go_wp2_with (at_builtin;refine Lib.wpList_append_run _ rfl _ _ _ _ rfl _ _ rfl rfl _ _ NZ ?_);go_wp2_with fail;refine (HN 0 w3 (bN)).o.mono ?_;obtain⟨t0,Oh⟩:∃ t,t=(dA 0 pl).getD 0:=⟨_,rfl⟩;obtain⟨k0,Oc⟩:∃ k,k=(dA 0 pl).isSome:=⟨_,rfl⟩;rw[← Oh,← Oc]at HZ ⊢;rintro e V ⟨rfl,rfl⟩;clear Oh Oc;go_wp2
 go_loopw [8,9,10] (fun lv tv kv wr=>∃ (q:Nat) (A':Option Addr) (c':Nat) (out:List (Int×Int)) (t:Int) (ok:Bool),lv = .slice A' q c'∧tv = .int .i64 t∧kv = .bool ok∧ai (q=out.length)∧ai (pz f a b out t ok)∧ai (Own wr V.heap.size 157 2 A' q c' (aS out))∧ai (av V wr)) (fun _ tv kv _=>match kv with | .bool true=>(1099511627780-intOf tv).toNat | _=>0)
 case atStart=>exact⟨0,none,0,[],t0,k0,rfl,rfl,rfl,rfl,HZ,⟨iy _ _ _ _,by simp[aS]⟩,bN⟩
 case round=>
  obtain⟨q,A',c',out,t,ok,rfl,rfl,rfl,HQ,HI,HO,HB⟩:=hrel
  cases ok with
  | false=>
   have HF:=ah (HI.off rfl);have Ol:=ah HI.right;have hq:=HQ.o;subst hq;go_wp2;go_ret
   exact⟨out,_,_,rfl,Ol,HF,⟨⟨HO.row.1,by
    have hs:=M.size
    rcases HO.row.2 with h | ⟨g,Om,Oo,h1,h2,h3⟩
    ·exact .inl h
    ·exact .inr ⟨g,Om,Oo,h1,by omega,h3⟩⟩,HO.one⟩,M.trans (HB.mono M.size)⟩
  | true=>
   have X:=ah (rJ a n A c wr NW (by omega) (((Oi.below M).more M.size).later HB) t);have Y:=ah (rJ b m B d wr NY (by omega) (((Oj.below M).more M.size).later HB) t);have F:=HN t wr HB.o;have Ot:=lU t pl;obtain⟨x,hx⟩:∃ x,x=hasB a t:=⟨_,rfl⟩;obtain⟨y,hy⟩:∃ y,y=hasB b t:=⟨_,rfl⟩;rw[← hx]at X;rw[← hy]at Y;have NT:=HI.on rfl;have ht1:=NT.2.1;have ht2:=NT.2.2.1;clear NT Ot
   cases G:dA t pl with
   | none=>
    have F:ai (Calls Tryz.prog 189 #[.slice P u pc,.int .i64 t] wr fun e w'=>e = .returned (.tuple #[.int .i64 0,.bool false])∧w'=wr):=by
     have:=F.o;rw[G]at this;exact this
    obtain⟨i,NH⟩:=HI.last HH.ff NJ NK (by rw[← O.o];exact G);have HY:=ah (NH 0);rw[← hx,← hy]at i;clear NH hx hy G HN;go_wp2_with fail;refine F.mono ?_;rintro e wr ⟨rfl,rfl⟩;go_wp2_with fail;refine X.mono ?_;rintro e wr ⟨rfl,rfl⟩;go_wp2_with fail;refine Y.mono ?_;rintro e wr ⟨rfl,rfl⟩
    rcases HH.o with ⟨rfl,rfl⟩ | ⟨rfl,rfl⟩ | ⟨rfl,rfl⟩ <;> cases x <;> cases y
    all_goals first | (exfalso;revert i;decide) | skip
    all_goals clear i
    all_goals
     go_wp2;go_roundw
     case rel=>exact⟨q,A',c',out,_,_,rfl,rfl,rfl,HQ,HY,HO,HB⟩
     case measure=>simp[intOf];omega
   | some v=>
    have F:ai (Calls Tryz.prog 189 #[.slice P u pc,.int .i64 t] wr fun e w'=>e = .returned (.tuple #[.int .i64 v,.bool true])∧w'=wr):=by
     have:=F.o;rw[G]at this;exact this
    obtain⟨hv1,_,hv2,Z,S,Ny⟩:=HI.next NJ NK (by rw[← O.o];exact G);rw[← hx,← hy]at Z S Ny
    cases i:f x y with
    | false=>
     have HY:=ah (Z i);clear Z S Ny hx hy G HN;go_wp2_with fail;refine F.mono ?_;rintro e wr ⟨rfl,rfl⟩;go_wp2_with fail;refine X.mono ?_;rintro e wr ⟨rfl,rfl⟩;go_wp2_with fail;refine Y.mono ?_;rintro e wr ⟨rfl,rfl⟩
     rcases HH.o with ⟨rfl,rfl⟩ | ⟨rfl,rfl⟩ | ⟨rfl,rfl⟩ <;> cases x <;> cases y
     all_goals first | (exfalso;revert i;decide) | skip
     all_goals clear i
     all_goals
      go_wp2;go_roundw
      case rel=>exact⟨q,A',c',out,_,_,rfl,rfl,rfl,HQ,HY,HO,HB⟩
      case measure=>simp[intOf];omega
    | true=>
     rcases vK out with rfl | ⟨L,r,rfl⟩
     ·have hq:q=0:=HQ.o
      subst hq;have HY:=ah (S i (by simp));obtain⟨A2,c2,Ow,C,J,H⟩:=iI Tryz.underlying122 Cr wr V.heap.size wr.heap.size rfl HB.size _ ([]:List (Int×Int)) HO.row t (v-1) (by have:=(HI.on rfl).2.2.2.2.2;have:=List.countP_le_length (p:=fun x=>decide (x<t)) (l:=bW a++bW b);rw[← O.o]at *;rw[N_.o]at this;have:=HU.o;omega);have j:=ah C;have N:=ah J;have Nz:=ah (HB.trans H);obtain⟨q2,U⟩:∃ q2,q2=(([]:List (Int×Int))++[(t,v-1)]).length:=⟨_,rfl⟩;rw[← U]at j N;have N7:=ah U;clear C J H U;clear Z S Ny hx hy G HN;go_wp2_with fail;refine F.mono ?_;rintro e wr ⟨rfl,rfl⟩;go_wp2_with fail;refine X.mono ?_;rintro e wr ⟨rfl,rfl⟩;go_wp2_with fail;refine Y.mono ?_
      rintro e wr ⟨rfl,rfl⟩
      rcases HH.o with ⟨rfl,rfl⟩ | ⟨rfl,rfl⟩ | ⟨rfl,rfl⟩ <;> cases x <;> cases y
      all_goals first | (exfalso;revert i;decide) | skip
      all_goals clear i
      all_goals
       go_wp2_with (at_builtin;refine Lib.wpList_append_run _ rfl _ _ _ _ rfl _ _ rfl rfl _ _ j ?_);go_roundw
       case rel=>exact⟨q2,A2,c2,([]:List (Int×Int))++[(t,v-1)],v,true,rfl,rfl,rfl,N7,HY,N,Nz⟩
       case measure=>simp[intOf];omega
     ·obtain⟨s,Q⟩:=r
      by_cases he:Q=t-1
      ·subst he
       have HY:=ah (Ny i L s rfl);obtain⟨D,R⟩:∃ D,D=L.length:=⟨_,rfl⟩
       have hq:q=D+1:=by rw[R];have:=HQ.o;simpa using this
       subst hq
       have Oq:D≤400000:=by have:=(HI.on rfl).2.2.2.2.2;have:=List.countP_le_length (p:=fun x=>decide (x<t)) (l:=bW a++bW b);rw[← O.o]at *;rw[N_.o]at this;have:=HU.o;simp at *;omega
       obtain⟨g,rfl,Ob,Ov,NC,z⟩:=Own.place HO (by omega)
       have Ou:wr.cell? ⟨g,D*2+1,none⟩=some (.int .i64 (t-1)):=by
        have:=(iZ (L++[(s,(t-1))]) D (by simp[R])).2;rw[show (L++[(s,(t-1))])[D]'(by simp[R])=(s,(t-1)) from by simp[R]]at this;exact z _ _ this
       have NC:=NC (D*2+1)
       have N:ai (Own (wr.setCell ⟨g,D*2+1,none⟩ (.int .i64 (v-1))) V.heap.size 157 2 (some ⟨g,0,none⟩) (D+1) c' (aS (L++[(s,v-1)]))):=by
        rw[R];exact jR (by rw[← R];exact HO.o)
       have Nz:ai (av V (wr.setCell ⟨g,D*2+1,none⟩ (.int .i64 (v-1)))):=HB.setCell Ob _
       have N7:ai (D+1=(L++[(s,v-1)]).length):=ah (by rw[R];simp)
       clear z R Z S Ny hx hy G HN;go_wp2_with fail;refine F.mono ?_;rintro e wr ⟨rfl,rfl⟩;go_wp2_with fail;refine X.mono ?_;rintro e wr ⟨rfl,rfl⟩;go_wp2_with fail;refine Y.mono ?_;rintro e wr ⟨rfl,rfl⟩
       rcases HH.o with ⟨rfl,rfl⟩ | ⟨rfl,rfl⟩ | ⟨rfl,rfl⟩ <;> cases x <;> cases y
       all_goals first | (exfalso;revert i;decide) | skip
       all_goals clear i
       all_goals
        go_wp2;go_roundw
        case rel=>exact⟨D+1,_,c',L++[(s,v-1)],v,true,rfl,rfl,rfl,N7,HY,N,Nz⟩
        case measure=>simp[intOf];omega
      ·have f5:(Q==t-1)=false:=by simpa using he
       have HY:=ah (S i (fun r hr=>by
        obtain⟨_,_,_,k4,_,_⟩:=HI.on rfl;obtain⟨_,j2,_,j4,_⟩:=HI.right.oL;dsimp only at j2 j4;have k5:Q<t:=k4 (s,Q) (by simp)
        rcases fO.1 hr with hr | hr
        ·have:=j2 r hr;omega
        ·rw[eX.1 hr];show Q+2≤t;omega))
       obtain⟨D,R⟩:∃ D,D=L.length:=⟨_,rfl⟩
       have hq:q=D+1:=by rw[R];have:=HQ.o;simpa using this
       subst hq
       have Oq:D≤400000:=by have:=(HI.on rfl).2.2.2.2.2;have:=List.countP_le_length (p:=fun x=>decide (x<t)) (l:=bW a++bW b);rw[← O.o]at *;rw[N_.o]at this;have:=HU.o;simp at *;omega
       obtain⟨g,rfl,Ob,Ov,NC,z⟩:=Own.place HO (by omega)
       have Ou:wr.cell? ⟨g,D*2+1,none⟩=some (.int .i64 Q):=by
        have:=(iZ (L++[(s,Q)]) D (by simp[R])).2;rw[show (L++[(s,Q)])[D]'(by simp[R])=(s,Q) from by simp[R]]at this;exact z _ _ this
       have eD:(L++[(s,Q)]).length=D+1:=by simp[R]
       have NI:wr.ownsRow V.heap.size 157 2 (.slice (some ⟨g,0,none⟩) (D+1) c') (L++[(s,Q)]).length (aS (L++[(s,Q)])):=by rw[eD];exact HO.row
       obtain⟨A2,c2,Ow,C,J,H⟩:=iI Tryz.underlying122 Cr wr V.heap.size wr.heap.size rfl HB.size _ (L++[(s,Q)]) NI t (v-1) (by have:=(HI.on rfl).2.2.2.2.2;have:=List.countP_le_length (p:=fun x=>decide (x<t)) (l:=bW a++bW b);rw[← O.o]at *;rw[N_.o]at this;have:=HU.o;omega);have j:=ah C;have N:=ah J;have Nz:=ah (HB.trans H);obtain⟨q2,U⟩:∃ q2,q2=((L++[(s,Q)])++[(t,v-1)]).length:=⟨_,rfl⟩;rw[← U]at j N;have N7:=ah U;clear C J H U;clear NI eD NC z R Z S Ny hx hy G HN he;go_wp2_with fail;refine F.mono ?_;rintro e wr ⟨rfl,rfl⟩;go_wp2_with fail;refine X.mono ?_;rintro e wr ⟨rfl,rfl⟩;go_wp2_with fail;refine Y.mono ?_;rintro e wr ⟨rfl,rfl⟩
       rcases HH.o with ⟨rfl,rfl⟩ | ⟨rfl,rfl⟩ | ⟨rfl,rfl⟩ <;> cases x <;> cases y
       all_goals first | (exfalso;revert i;decide) | skip
       all_goals clear i
       all_goals
        go_wp2_with (at_builtin;refine Lib.wpList_append_run _ rfl _ _ _ _ rfl _ _ rfl rfl _ _ j ?_);go_roundw
        case rel=>exact⟨q2,A2,c2,(L++[(s,Q)])++[(t,v-1)],v,true,rfl,rfl,rfl,N7,HY,N,Nz⟩
        case measure=>simp[intOf];omega
end Sp
end Go.Proofs.YtgeafpaognhokaaGreat
