/- Two sets put together: the program's. -/
import Derived.Test.YtgeafpaognhokaaGreatG00
namespace Go.Proofs.YtgeafpaognhokaaGreat
open ChangeShapes WideShapes ChangeAt RowKit
namespace Sp
theorem Kw (x y:Bool) (w:World):Calls Tryz.prog 188 #[.bool x,.bool y] w fun e w'=>e = .returned (.bool (x||y))∧w'=w:=by
 cases x
 all_goals
  go_enter Tryz.func188,Tryz.ntmps188;go_wp2;go_ret;exact⟨rfl,rfl⟩
theorem JJ (x y:Bool) (w:World):Calls Tryz.prog 213 #[.bool x,.bool y] w fun e w'=>e = .returned (.bool (x && !y))∧w'=w:=by
 cases x
 all_goals
  go_enter Tryz.func213,Tryz.ntmps213;go_wp2;go_ret;exact⟨rfl,rfl⟩
theorem Join.opened {f:Bool→Bool→Bool} {a b done:List (Int×Int)} {i j:Nat} {p s u:Int} (h:Join f a b i j p (if !true&&false then done++[(s,u-1)]else done) (if true && !false then u else s) true):Join f a b i j p done u true:=by simpa using h
theorem Join.stays {f:Bool→Bool→Bool} {a b done:List (Int×Int)} {i j:Nat} {p s u:Int} (k:Bool) (h:Join f a b i j p (if !k&&k then done++[(s,u-1)]else done) (if k && !k then u else s) k):Join f a b i j p done s k:=by cases k <;> simpa using h
theorem Join.closed {f:Bool→Bool→Bool} {a b done:List (Int×Int)} {i j:Nat} {p s u:Int} (h:Join f a b i j p (if !false&&true then done++[(s,u-1)]else done) (if false && !true then u else s) false):Join f a b i j p (done++[(s,u-1)]) s false:=by simpa using h
theorem tq (i:Nat):((i:Int) % 2==1)=decide (i % 2=1):=by
 cases h:decide (i % 2=1)with
 | true=>simp at h ⊢;omega
 | false=>simp at h ⊢;omega
theorem nS (i:Nat):(((i:Int)+1) % 2==1)=decide ((i+1) % 2=1):=by
 have:=tq (i+1)
 rwa [show ((i+1:Nat):Int)=(i:Int)+1 from by omega]at this
def ug (f:Bool→Bool→Bool) (a b:List (Int×Int)) (w:World) (e:Ending) (w':World):Prop:=
 ∃ l A c,e = .returned (.slice A l.length c)∧Put f a b l∧Own w' w.heap.size 214 2 A l.length c (aS l)∧av w w'
set_option maxRecDepth 100000 in
set_option maxHeartbeats 2000000 in
theorem Cw (f:Bool→Bool→Bool) (hf:f false false=false) (F:FuncId) (hF:∀ x y W,Calls Tryz.prog F #[.bool x,.bool y] W fun e w'=>e = .returned (.bool (f x y))∧w'=W) (eF:∀ args W,(callFunc F args).run Tryz.prog W = .ok (.enter F args) W)
  (a b:List (Int×Int)) (n m:Nat) (A B:Option Addr) (c d:Nat) (w:World) (NM:a.length=n) (NN:b.length=m) (hn:n≤100000) (hm:m≤100000) (NP:Rd w w.heap.size 2 A n c (aS a)) (NQ:Rd w w.heap.size 2 B m d (aS b)) (oa:aB 1 a) (ob:aB 1 b) :
  Calls Tryz.prog 187 #[.slice A n c,.slice B m d,.func (.func F) #[] #[]] w (ug f a b w):=by
 have NV:=ah NP;have NW:=ah NQ;have N8:=ah NM;have N9:=ah NN;have NA:=ah oa;have N_:=ah ob;have NF:=ah (fD a n A c w NM (by omega) NP);rw[show ak a=true from aJ oa]at NF;have NG:=fun W (h:av w W)=>ah (fD b m B d W NN (by omega) ((NQ.below h).more h.size));rw[show ak b=true from aJ ob]at NG;clear NP NQ NM NN oa ob;go_enter Tryz.func187,Tryz.ntmps187;go_wp2_with fail;refine NF.mono ?_;rintro e w1 ⟨rfl,NE⟩;go_wp2_with fail;refine (NG w1 NE).o.mono ?_;rintro e w2 ⟨rfl,X⟩;have N:=ah (NE.trans (X.mono NE.size));clear NE X NF NG;go_wp2
 go_loopw [7,8,9,10] (fun lv wv iv jv wr=>∃ (i j q:Nat) (p s:Int) (done:List (Int×Int)) (within:Bool) (A':Option Addr) (c':Nat),lv = .slice A' q c'∧wv = .bool within∧iv = .int .i64 i∧jv = .int .i64 j∧i≤2*n∧j≤2*m∧ai (q=(jY done s within).length)∧ai (Join f a b i j p done s within)∧ai (Own wr w.heap.size 214 2 A' q c' (aS (jY done s within)))∧ai (av w wr)) (fun _ _ iv jv _=>2*n+2*m-(intOf iv).toNat-(intOf jv).toNat)
 case atStart=>exact⟨0,0,0,0,0,[],false,none,0,rfl,rfl,rfl,rfl,by omega,by omega,rfl,Join.zero hf NA N_ _,⟨iy _ _ _ _,by simp[jY,aS]⟩,N⟩
 case round=>
  obtain⟨i,j,q,p,s,done,within,A',c',rfl,rfl,rfl,rfl,hi,hj,HQ,HJ,HO,HB⟩:=hrel;have u:=ah (Cf a n A c wr N8 (by omega) ((NV.below HB).more HB.size) NA i hi);have v:=ah (Cf b m B d wr N9 (by omega) ((NW.below HB).more HB.size) N_ j hj);obtain⟨R,Y⟩:∃ x,x=edge a i:=⟨_,rfl⟩;obtain⟨S,Z⟩:∃ x,x=edge b j:=⟨_,rfl⟩;rw[← Y]at u;rw[← Z]at v
  by_cases NJ:i<2*n
  ·have f0:decide ((i:Int)<2*(n:Int))=true:=aJ (by omega)
   rcases Int.lt_trichotomy R S with hlt | NY | NZ
   ·have f1:min R S=R:=by omega
    have f2:(S==R)=false:=by simp;omega
    obtain⟨kept,z⟩:∃ k,k=f (decide ((i+1) % 2=1)) (decide ((j) % 2=1)):=⟨_,rfl⟩
    have J:ai (Calls Tryz.prog F #[.bool (((i:Int)+1) % 2==1),.bool ((j:Int) % 2==1)] wr fun e w'=>e = .returned (.bool kept)∧w'=wr):=by
     rw[nS i,tq j,z];exact hF _ _ _
    obtain⟨NR,NS,N7,t⟩:=HJ.more (i':=i+1) (j':=j) (at':=R) (kept:=kept) NA N_ (.inl (by rw[N8.o];exact NJ)) (by rw[← Y,← Z];omega) (by rw[← Y,if_pos (by omega)]) (by rw[← Z,if_neg (by omega)]) z
    have L:i+1≤2*n:=by have:=t.hi;rw[N8.o]at this;exact this
    have M:j≤2*m:=by have:=t.hj;rw[N9.o]at this;exact this
    have r:=ah t;clear t z Y Z hF N7
    cases kept with
    | true=>
     cases within with
     | true=>
      go_wp2_with fail;refine u.mono ?_;rintro e wr ⟨rfl,rfl⟩;go_wp2_with fail;refine v.mono ?_;rintro e wr ⟨rfl,rfl⟩;go_wp2_with fail;refine u.mono ?_;rintro e wr ⟨rfl,rfl⟩;go_wp2_with fail;refine v.mono ?_;rintro e wr ⟨rfl,rfl⟩;go_wp2_with fail;refine J.mono ?_;rintro e wr ⟨rfl,rfl⟩;go_wp2;go_roundw
      case rel=>exact⟨i+1,j,q,_,s,done,true,A',c',rfl,rfl,by go_num,rfl,L,M,HQ,Join.stays true r,HO,HB⟩
      case measure=>simp[intOf];omega
     | false=>
      have hq:q=done.length:=HQ.o;subst hq;obtain⟨A2,c2,w2,Q,Nz,X⟩:=iI Tryz.underlying181 wZ wr w.heap.size wr.heap.size rfl HB.size _ done HO.row R 0 (by have:=HJ.len;omega);have G:=ah Q;have C:=ah Nz;have N:=ah (HB.trans X);have e2:(done++[(R,(0:Int))]).length=(jY done R true).length:=rfl;rw[e2]at G C;obtain⟨q2,V⟩:∃ q2,q2=(jY done R true).length:=⟨_,rfl⟩;rw[← V]at G C;have U:=ah V;clear Q Nz X e2 V;go_wp2_with fail;refine u.mono ?_;rintro e wr ⟨rfl,rfl⟩;go_wp2_with fail;refine v.mono ?_;rintro e wr ⟨rfl,rfl⟩;go_wp2_with fail;refine u.mono ?_;rintro e wr ⟨rfl,rfl⟩;go_wp2_with fail;refine v.mono ?_;rintro e wr ⟨rfl,rfl⟩;go_wp2_with fail;refine J.mono ?_;rintro e wr ⟨rfl,rfl⟩
      go_wp2_with (at_builtin;refine Lib.wpList_append_run _ rfl _ _ _ _ rfl _ _ rfl rfl _ _ G ?_);go_roundw
      case rel=>exact⟨i+1,j,q2,_,R,done,true,A2,c2,rfl,rfl,by go_num,rfl,L,M,U,Join.opened r,C,N⟩
      case measure=>simp[intOf];omega
    | false=>
     cases within with
     | true=>
      obtain⟨D,O⟩:∃ D,D=done.length:=⟨_,rfl⟩
      have hq:q=D+1:=by rw[O];have:=HQ.o;simpa [jY] using this
      subst hq
      have NH:D≤400000:=by have:=HJ.len;omega
      obtain⟨g,rfl,NC,NK,Ny,H⟩:=Own.place HO (by omega);have Ny:=Ny (D*2+1)
      have NI:wr.cell? ⟨g,D*2+1,none⟩=some (.int .i64 0):=by
       have:=(iZ (done++[(s,0)]) D (by simp[O])).2;rw[show (done++[(s,(0:Int))])[D]'(by simp[O])=(s,0) from by simp[O]]at this;exact H _ _ this
      have C:ai (Own (wr.setCell ⟨g,D*2+1,none⟩ (.int .i64 (R-1))) w.heap.size 214 2 (some ⟨g,0,none⟩) (D+1) c' (aS (jY (done++[(s,R-1)]) s false))):=by
       rw[O];exact jR (by rw[← O];exact HO.o)
      have N:ai (av w (wr.setCell ⟨g,D*2+1,none⟩ (.int .i64 (R-1)))):=HB.setCell NC _
      have U:ai (D+1=(jY (done++[(s,R-1)]) s false).length):=ah (by rw[O];simp[jY])
      clear H O;go_wp2_with fail;refine u.mono ?_;rintro e wr ⟨rfl,rfl⟩;go_wp2_with fail;refine v.mono ?_;rintro e wr ⟨rfl,rfl⟩;go_wp2_with fail;refine u.mono ?_;rintro e wr ⟨rfl,rfl⟩;go_wp2_with fail;refine v.mono ?_;rintro e wr ⟨rfl,rfl⟩;go_wp2_with fail;refine J.mono ?_;rintro e wr ⟨rfl,rfl⟩;go_wp2;go_roundw
      case rel=>exact⟨i+1,j,D+1,_,s,done++[(s,R-1)],false,_,c',rfl,rfl,by go_num,rfl,L,M,U,Join.closed r,C,N⟩
      case measure=>simp[intOf];omega
     | false=>
      go_wp2_with fail;refine u.mono ?_;rintro e wr ⟨rfl,rfl⟩;go_wp2_with fail;refine v.mono ?_;rintro e wr ⟨rfl,rfl⟩;go_wp2_with fail;refine u.mono ?_;rintro e wr ⟨rfl,rfl⟩;go_wp2_with fail;refine v.mono ?_;rintro e wr ⟨rfl,rfl⟩;go_wp2_with fail;refine J.mono ?_;rintro e wr ⟨rfl,rfl⟩;go_wp2;go_roundw
      case rel=>exact⟨i+1,j,q,_,s,done,false,A',c',rfl,rfl,by go_num,rfl,L,M,HQ,Join.stays false r,HO,HB⟩
      case measure=>simp[intOf];omega
   ·subst NY
    have f1:min R R=R:=by omega
    obtain⟨kept,z⟩:∃ k,k=f (decide ((i+1) % 2=1)) (decide ((j+1) % 2=1)):=⟨_,rfl⟩
    have J:ai (Calls Tryz.prog F #[.bool (((i:Int)+1) % 2==1),.bool (((j:Int)+1) % 2==1)] wr fun e w'=>e = .returned (.bool kept)∧w'=wr):=by
     rw[nS i,nS j,z];exact hF _ _ _
    obtain⟨NR,NS,N7,t⟩:=HJ.more (i':=i+1) (j':=j+1) (at':=R) (kept:=kept) NA N_ (.inl (by rw[N8.o];exact NJ)) (by rw[← Y,← Z];omega) (by rw[← Y,if_pos (by omega)]) (by rw[← Z,if_pos (by omega)]) z
    have L:i+1≤2*n:=by have:=t.hi;rw[N8.o]at this;exact this
    have M:j+1≤2*m:=by have:=t.hj;rw[N9.o]at this;exact this
    have r:=ah t;clear t z Y Z hF N7
    cases kept with
    | true=>
     cases within with
     | true=>
      go_wp2_with fail;refine u.mono ?_;rintro e wr ⟨rfl,rfl⟩;go_wp2_with fail;refine v.mono ?_;rintro e wr ⟨rfl,rfl⟩;go_wp2_with fail;refine u.mono ?_;rintro e wr ⟨rfl,rfl⟩;go_wp2_with fail;refine v.mono ?_;rintro e wr ⟨rfl,rfl⟩;go_wp2_with fail;refine J.mono ?_;rintro e wr ⟨rfl,rfl⟩;go_wp2;go_roundw
      case rel=>exact⟨i+1,j+1,q,_,s,done,true,A',c',rfl,rfl,by go_num,by go_num,L,M,HQ,Join.stays true r,HO,HB⟩
      case measure=>simp[intOf];omega
     | false=>
      have hq:q=done.length:=HQ.o;subst hq;obtain⟨A2,c2,w2,Q,Nz,X⟩:=iI Tryz.underlying181 wZ wr w.heap.size wr.heap.size rfl HB.size _ done HO.row R 0 (by have:=HJ.len;omega);have G:=ah Q;have C:=ah Nz;have N:=ah (HB.trans X);have e2:(done++[(R,(0:Int))]).length=(jY done R true).length:=rfl;rw[e2]at G C;obtain⟨q2,V⟩:∃ q2,q2=(jY done R true).length:=⟨_,rfl⟩;rw[← V]at G C;have U:=ah V;clear Q Nz X e2 V;go_wp2_with fail;refine u.mono ?_;rintro e wr ⟨rfl,rfl⟩;go_wp2_with fail;refine v.mono ?_;rintro e wr ⟨rfl,rfl⟩;go_wp2_with fail;refine u.mono ?_;rintro e wr ⟨rfl,rfl⟩;go_wp2_with fail;refine v.mono ?_;rintro e wr ⟨rfl,rfl⟩;go_wp2_with fail;refine J.mono ?_;rintro e wr ⟨rfl,rfl⟩
      go_wp2_with (at_builtin;refine Lib.wpList_append_run _ rfl _ _ _ _ rfl _ _ rfl rfl _ _ G ?_);go_roundw
      case rel=>exact⟨i+1,j+1,q2,_,R,done,true,A2,c2,rfl,rfl,by go_num,by go_num,L,M,U,Join.opened r,C,N⟩
      case measure=>simp[intOf];omega
    | false=>
     cases within with
     | true=>
      obtain⟨D,O⟩:∃ D,D=done.length:=⟨_,rfl⟩
      have hq:q=D+1:=by rw[O];have:=HQ.o;simpa [jY] using this
      subst hq
      have NH:D≤400000:=by have:=HJ.len;omega
      obtain⟨g,rfl,NC,NK,Ny,H⟩:=Own.place HO (by omega);have Ny:=Ny (D*2+1)
      have NI:wr.cell? ⟨g,D*2+1,none⟩=some (.int .i64 0):=by
       have:=(iZ (done++[(s,0)]) D (by simp[O])).2;rw[show (done++[(s,(0:Int))])[D]'(by simp[O])=(s,0) from by simp[O]]at this;exact H _ _ this
      have C:ai (Own (wr.setCell ⟨g,D*2+1,none⟩ (.int .i64 (R-1))) w.heap.size 214 2 (some ⟨g,0,none⟩) (D+1) c' (aS (jY (done++[(s,R-1)]) s false))):=by
       rw[O];exact jR (by rw[← O];exact HO.o)
      have N:ai (av w (wr.setCell ⟨g,D*2+1,none⟩ (.int .i64 (R-1)))):=HB.setCell NC _
      have U:ai (D+1=(jY (done++[(s,R-1)]) s false).length):=ah (by rw[O];simp[jY])
      clear H O;go_wp2_with fail;refine u.mono ?_;rintro e wr ⟨rfl,rfl⟩;go_wp2_with fail;refine v.mono ?_;rintro e wr ⟨rfl,rfl⟩;go_wp2_with fail;refine u.mono ?_;rintro e wr ⟨rfl,rfl⟩;go_wp2_with fail;refine v.mono ?_;rintro e wr ⟨rfl,rfl⟩;go_wp2_with fail;refine J.mono ?_;rintro e wr ⟨rfl,rfl⟩;go_wp2;go_roundw
      case rel=>exact⟨i+1,j+1,D+1,_,s,done++[(s,R-1)],false,_,c',rfl,rfl,by go_num,by go_num,L,M,U,Join.closed r,C,N⟩
      case measure=>simp[intOf];omega
     | false=>
      go_wp2_with fail;refine u.mono ?_;rintro e wr ⟨rfl,rfl⟩;go_wp2_with fail;refine v.mono ?_;rintro e wr ⟨rfl,rfl⟩;go_wp2_with fail;refine u.mono ?_;rintro e wr ⟨rfl,rfl⟩;go_wp2_with fail;refine v.mono ?_;rintro e wr ⟨rfl,rfl⟩;go_wp2_with fail;refine J.mono ?_;rintro e wr ⟨rfl,rfl⟩;go_wp2;go_roundw
      case rel=>exact⟨i+1,j+1,q,_,s,done,false,A',c',rfl,rfl,by go_num,by go_num,L,M,HQ,Join.stays false r,HO,HB⟩
      case measure=>simp[intOf];omega
   ·have f1:min R S=S:=by omega
    have f2:(R==S)=false:=by simp;omega
    obtain⟨kept,z⟩:∃ k,k=f (decide ((i) % 2=1)) (decide ((j+1) % 2=1)):=⟨_,rfl⟩
    have J:ai (Calls Tryz.prog F #[.bool ((i:Int) % 2==1),.bool (((j:Int)+1) % 2==1)] wr fun e w'=>e = .returned (.bool kept)∧w'=wr):=by
     rw[tq i,nS j,z];exact hF _ _ _
    obtain⟨NR,NS,N7,t⟩:=HJ.more (i':=i) (j':=j+1) (at':=S) (kept:=kept) NA N_ (.inl (by rw[N8.o];exact NJ)) (by rw[← Y,← Z];omega) (by rw[← Y,if_neg (by omega)]) (by rw[← Z,if_pos (by omega)]) z
    have L:i≤2*n:=by have:=t.hi;rw[N8.o]at this;exact this
    have M:j+1≤2*m:=by have:=t.hj;rw[N9.o]at this;exact this
    have r:=ah t;clear t z Y Z hF N7
    cases kept with
    | true=>
     cases within with
     | true=>
      go_wp2_with fail;refine u.mono ?_;rintro e wr ⟨rfl,rfl⟩;go_wp2_with fail;refine v.mono ?_;rintro e wr ⟨rfl,rfl⟩;go_wp2_with fail;refine u.mono ?_;rintro e wr ⟨rfl,rfl⟩;go_wp2_with fail;refine v.mono ?_;rintro e wr ⟨rfl,rfl⟩;go_wp2_with fail;refine J.mono ?_;rintro e wr ⟨rfl,rfl⟩;go_wp2;go_roundw
      case rel=>exact⟨i,j+1,q,_,s,done,true,A',c',rfl,rfl,rfl,by go_num,L,M,HQ,Join.stays true r,HO,HB⟩
      case measure=>simp[intOf];omega
     | false=>
      have hq:q=done.length:=HQ.o;subst hq;obtain⟨A2,c2,w2,Q,Nz,X⟩:=iI Tryz.underlying181 wZ wr w.heap.size wr.heap.size rfl HB.size _ done HO.row S 0 (by have:=HJ.len;omega);have G:=ah Q;have C:=ah Nz;have N:=ah (HB.trans X);have e2:(done++[(S,(0:Int))]).length=(jY done S true).length:=rfl;rw[e2]at G C;obtain⟨q2,V⟩:∃ q2,q2=(jY done S true).length:=⟨_,rfl⟩;rw[← V]at G C;have U:=ah V;clear Q Nz X e2 V;go_wp2_with fail;refine u.mono ?_;rintro e wr ⟨rfl,rfl⟩;go_wp2_with fail;refine v.mono ?_;rintro e wr ⟨rfl,rfl⟩;go_wp2_with fail;refine u.mono ?_;rintro e wr ⟨rfl,rfl⟩;go_wp2_with fail;refine v.mono ?_;rintro e wr ⟨rfl,rfl⟩;go_wp2_with fail;refine J.mono ?_;rintro e wr ⟨rfl,rfl⟩
      go_wp2_with (at_builtin;refine Lib.wpList_append_run _ rfl _ _ _ _ rfl _ _ rfl rfl _ _ G ?_);go_roundw
      case rel=>exact⟨i,j+1,q2,_,S,done,true,A2,c2,rfl,rfl,rfl,by go_num,L,M,U,Join.opened r,C,N⟩
      case measure=>simp[intOf];omega
    | false=>
     cases within with
     | true=>
      obtain⟨D,O⟩:∃ D,D=done.length:=⟨_,rfl⟩
      have hq:q=D+1:=by rw[O];have:=HQ.o;simpa [jY] using this
      subst hq
      have NH:D≤400000:=by have:=HJ.len;omega
      obtain⟨g,rfl,NC,NK,Ny,H⟩:=Own.place HO (by omega);have Ny:=Ny (D*2+1)
      have NI:wr.cell? ⟨g,D*2+1,none⟩=some (.int .i64 0):=by
       have:=(iZ (done++[(s,0)]) D (by simp[O])).2;rw[show (done++[(s,(0:Int))])[D]'(by simp[O])=(s,0) from by simp[O]]at this;exact H _ _ this
      have C:ai (Own (wr.setCell ⟨g,D*2+1,none⟩ (.int .i64 (S-1))) w.heap.size 214 2 (some ⟨g,0,none⟩) (D+1) c' (aS (jY (done++[(s,S-1)]) s false))):=by
       rw[O];exact jR (by rw[← O];exact HO.o)
      have N:ai (av w (wr.setCell ⟨g,D*2+1,none⟩ (.int .i64 (S-1)))):=HB.setCell NC _
      have U:ai (D+1=(jY (done++[(s,S-1)]) s false).length):=ah (by rw[O];simp[jY])
      clear H O;go_wp2_with fail;refine u.mono ?_;rintro e wr ⟨rfl,rfl⟩;go_wp2_with fail;refine v.mono ?_;rintro e wr ⟨rfl,rfl⟩;go_wp2_with fail;refine u.mono ?_;rintro e wr ⟨rfl,rfl⟩;go_wp2_with fail;refine v.mono ?_;rintro e wr ⟨rfl,rfl⟩;go_wp2_with fail;refine J.mono ?_;rintro e wr ⟨rfl,rfl⟩;go_wp2;go_roundw
      case rel=>exact⟨i,j+1,D+1,_,s,done++[(s,S-1)],false,_,c',rfl,rfl,rfl,by go_num,L,M,U,Join.closed r,C,N⟩
      case measure=>simp[intOf];omega
     | false=>
      go_wp2_with fail;refine u.mono ?_;rintro e wr ⟨rfl,rfl⟩;go_wp2_with fail;refine v.mono ?_;rintro e wr ⟨rfl,rfl⟩;go_wp2_with fail;refine u.mono ?_;rintro e wr ⟨rfl,rfl⟩;go_wp2_with fail;refine v.mono ?_;rintro e wr ⟨rfl,rfl⟩;go_wp2_with fail;refine J.mono ?_;rintro e wr ⟨rfl,rfl⟩;go_wp2;go_roundw
      case rel=>exact⟨i,j+1,q,_,s,done,false,A',c',rfl,rfl,rfl,by go_num,L,M,HQ,Join.stays false r,HO,HB⟩
      case measure=>simp[intOf];omega
  ·have f0:decide ((i:Int)<2*(n:Int))=false:=aM (by omega)
   by_cases NT:j<2*m
   ·have f3:decide ((j:Int)<2*(m:Int))=true:=aJ (by omega)
    have NZ:S<R:=by
     have e1:=nC (l:=a) (i:=i) (by rw[N8.o];omega);have e2:=(o_ N_ (i:=j) (by rw[N9.o];exact NT)).2;omega
    have f1:min R S=S:=by omega
    have f2:(R==S)=false:=by simp;omega
    obtain⟨kept,z⟩:∃ k,k=f (decide ((i) % 2=1)) (decide ((j+1) % 2=1)):=⟨_,rfl⟩
    have J:ai (Calls Tryz.prog F #[.bool ((i:Int) % 2==1),.bool (((j:Int)+1) % 2==1)] wr fun e w'=>e = .returned (.bool kept)∧w'=wr):=by
     rw[tq i,nS j,z];exact hF _ _ _
    obtain⟨NR,NS,N7,t⟩:=HJ.more (i':=i) (j':=j+1) (at':=S) (kept:=kept) NA N_ (.inr (by rw[N9.o];exact NT)) (by rw[← Y,← Z];omega) (by rw[← Y,if_neg (by omega)]) (by rw[← Z,if_pos (by omega)]) z
    have L:i≤2*n:=by have:=t.hi;rw[N8.o]at this;exact this
    have M:j+1≤2*m:=by have:=t.hj;rw[N9.o]at this;exact this
    have r:=ah t;clear t z Y Z hF N7
    cases kept with
    | true=>
     cases within with
     | true=>
      go_wp2_with fail;refine u.mono ?_;rintro e wr ⟨rfl,rfl⟩;go_wp2_with fail;refine v.mono ?_;rintro e wr ⟨rfl,rfl⟩;go_wp2_with fail;refine u.mono ?_;rintro e wr ⟨rfl,rfl⟩;go_wp2_with fail;refine v.mono ?_;rintro e wr ⟨rfl,rfl⟩;go_wp2_with fail;refine J.mono ?_;rintro e wr ⟨rfl,rfl⟩;go_wp2;go_roundw
      case rel=>exact⟨i,j+1,q,_,s,done,true,A',c',rfl,rfl,rfl,by go_num,L,M,HQ,Join.stays true r,HO,HB⟩
      case measure=>simp[intOf];omega
     | false=>
      have hq:q=done.length:=HQ.o;subst hq;obtain⟨A2,c2,w2,Q,Nz,X⟩:=iI Tryz.underlying181 wZ wr w.heap.size wr.heap.size rfl HB.size _ done HO.row S 0 (by have:=HJ.len;omega);have G:=ah Q;have C:=ah Nz;have N:=ah (HB.trans X);have e2:(done++[(S,(0:Int))]).length=(jY done S true).length:=rfl;rw[e2]at G C;obtain⟨q2,V⟩:∃ q2,q2=(jY done S true).length:=⟨_,rfl⟩;rw[← V]at G C;have U:=ah V;clear Q Nz X e2 V;go_wp2_with fail;refine u.mono ?_;rintro e wr ⟨rfl,rfl⟩;go_wp2_with fail;refine v.mono ?_;rintro e wr ⟨rfl,rfl⟩;go_wp2_with fail;refine u.mono ?_;rintro e wr ⟨rfl,rfl⟩;go_wp2_with fail;refine v.mono ?_;rintro e wr ⟨rfl,rfl⟩;go_wp2_with fail;refine J.mono ?_;rintro e wr ⟨rfl,rfl⟩
      go_wp2_with (at_builtin;refine Lib.wpList_append_run _ rfl _ _ _ _ rfl _ _ rfl rfl _ _ G ?_);go_roundw
      case rel=>exact⟨i,j+1,q2,_,S,done,true,A2,c2,rfl,rfl,rfl,by go_num,L,M,U,Join.opened r,C,N⟩
      case measure=>simp[intOf];omega
    | false=>
     cases within with
     | true=>
      obtain⟨D,O⟩:∃ D,D=done.length:=⟨_,rfl⟩
      have hq:q=D+1:=by rw[O];have:=HQ.o;simpa [jY] using this
      subst hq
      have NH:D≤400000:=by have:=HJ.len;omega
      obtain⟨g,rfl,NC,NK,Ny,H⟩:=Own.place HO (by omega);have Ny:=Ny (D*2+1)
      have NI:wr.cell? ⟨g,D*2+1,none⟩=some (.int .i64 0):=by
       have:=(iZ (done++[(s,0)]) D (by simp[O])).2;rw[show (done++[(s,(0:Int))])[D]'(by simp[O])=(s,0) from by simp[O]]at this;exact H _ _ this
      have C:ai (Own (wr.setCell ⟨g,D*2+1,none⟩ (.int .i64 (S-1))) w.heap.size 214 2 (some ⟨g,0,none⟩) (D+1) c' (aS (jY (done++[(s,S-1)]) s false))):=by
       rw[O];exact jR (by rw[← O];exact HO.o)
      have N:ai (av w (wr.setCell ⟨g,D*2+1,none⟩ (.int .i64 (S-1)))):=HB.setCell NC _
      have U:ai (D+1=(jY (done++[(s,S-1)]) s false).length):=ah (by rw[O];simp[jY])
      clear H O;go_wp2_with fail;refine u.mono ?_;rintro e wr ⟨rfl,rfl⟩;go_wp2_with fail;refine v.mono ?_;rintro e wr ⟨rfl,rfl⟩;go_wp2_with fail;refine u.mono ?_;rintro e wr ⟨rfl,rfl⟩;go_wp2_with fail;refine v.mono ?_;rintro e wr ⟨rfl,rfl⟩;go_wp2_with fail;refine J.mono ?_;rintro e wr ⟨rfl,rfl⟩;go_wp2;go_roundw
      case rel=>exact⟨i,j+1,D+1,_,s,done++[(s,S-1)],false,_,c',rfl,rfl,rfl,by go_num,L,M,U,Join.closed r,C,N⟩
      case measure=>simp[intOf];omega
     | false=>
      go_wp2_with fail;refine u.mono ?_;rintro e wr ⟨rfl,rfl⟩;go_wp2_with fail;refine v.mono ?_;rintro e wr ⟨rfl,rfl⟩;go_wp2_with fail;refine u.mono ?_;rintro e wr ⟨rfl,rfl⟩;go_wp2_with fail;refine v.mono ?_;rintro e wr ⟨rfl,rfl⟩;go_wp2_with fail;refine J.mono ?_;rintro e wr ⟨rfl,rfl⟩;go_wp2;go_roundw
      case rel=>exact⟨i,j+1,q,_,s,done,false,A',c',rfl,rfl,rfl,by go_num,L,M,HQ,Join.stays false r,HO,HB⟩
      case measure=>simp[intOf];omega
   ·have f3:decide ((j:Int)<2*(m:Int))=false:=aM (by omega)
    obtain⟨rfl,NU⟩:=HJ.end hf NA N_ (by rw[N8.o];omega) (by rw[N9.o];omega);have hq:q=done.length:=HQ.o;subst hq;clear Y Z;go_wp2;go_ret;exact⟨done,_,_,rfl,NU,HO,HB⟩
end Sp
end Go.Proofs.YtgeafpaognhokaaGreat
