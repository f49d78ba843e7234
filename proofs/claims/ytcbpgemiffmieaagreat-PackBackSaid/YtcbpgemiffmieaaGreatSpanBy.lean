/- Two sets put together; the set of numbers: the document's. -/
import Derived.Test.YtcbpgemiffmieaaGreatG01
namespace Go.Proofs.YtcbpgemiffmieaaGreat
open Go.ChangeShapes Go.WideShapes Go.ChangeAt Go.RowKit
namespace Sp
def ByIs (f:Bool→Bool→Bool) (a b:List (Int×Int)) (w:World) (e:Ending) (w':World):Prop:=
 ∃ l A c,e = .returned (.slice A l.length c)∧RightF 1 l∧(∀ n,hasB l n=f (hasB a n) (hasB b n))∧Own w' w.heap.size 138 2 A l.length c (runsC l)∧Below w.heap.size w w'
def HowIs (how:Int) (f:Bool→Bool→Bool):Prop:=(how=0∧f=fun x y=>x||y)∨(how=1∧f=fun x y=>x&&y)∨(how=2∧f=fun x y=>x && !y)
theorem HowIs.ff {how:Int} {f:Bool→Bool→Bool} (h:HowIs how f):f false false=false:=by
 rcases h with ⟨_,rfl⟩ | ⟨_,rfl⟩ | ⟨_,rfl⟩ <;> rfl
set_option maxRecDepth 100000 in
set_option maxHeartbeats 4000000 in
theorem refby_any (f:Bool→Bool→Bool) (how:Int) (hhow:HowIs how f)
  (a b:List (Int×Int)) (n m:Nat) (A B:Option Addr) (c d:Nat) (w:World) (hla:a.length=n) (hlb:b.length=m) (hn:n≤10000) (hm:m≤10000) (hra:Rd w w.heap.size 2 A n c (runsC a)) (hrb:Rd w w.heap.size 2 B m d (runsC b)) (oa:RightF 1 a) (ob:RightF 1 b) :
  Calls Tryz.prog 123 #[.slice A n c,.slice B m d,.int .i64 how] w (ByIs f a b w):=by
 have HRA:=Lib.hid hra;have HRB:=Lib.hid hrb;have HLA:=Lib.hid hla;have HLB:=Lib.hid hlb;have HOA:=Lib.hid oa;have HOB:=Lib.hid ob;have HH:=Lib.hid hhow;have HE1:=Lib.hid (ends_any a n A c w hla hn hra oa);have HE2:=fun W (h:Below w.heap.size w W)=>Lib.hid (ends_any b m B d W hlb hm ((hrb.below h).more h.size) ob);clear hra hrb hla hlb oa ob hhow;go_enter Tryz.func123,Tryz.ntmps123;go_wp2_with fail;refine HE1.out.mono ?_;rintro e w1 ⟨A1,c1,rfl,ho1,hb1⟩;go_wp2_with fail;refine (HE2 w1 hb1).out.mono ?_;rintro e w2 ⟨A2,c2,rfl,ho2,hb2⟩;have hb12:=hb1.trans (hb2.mono hb1.size);obtain⟨P,pc,w3,hrun,ho3,hb3⟩:=run_apps (own_later ho1 hb2) ho2.rd (by omega) hb12.size;obtain⟨u,hu⟩:∃ u,u=n*2+m*2:=⟨_,rfl⟩;rw[← hu]at hrun ho3;have HU:=Lib.hid hu;obtain⟨pl,hpl⟩:∃ pl,pl=endsL a++endsL b:=⟨_,rfl⟩
 rw[← hpl]at ho3
 have hpn:pl.length=u:=by rw[hpl,List.length_append,endsL_len,endsL_len,HLA.out,HLB.out];omega
 have HPL:=Lib.hid hpl;have HPN:=Lib.hid hpn;have HP:=Lib.hid ho3.rd;have HB3:=Lib.hid (hb12.trans hb3);have Hrun:=Lib.hid hrun;have HN:=fun v W (h:Below w3.heap.size w3 W)=>Lib.hid (next_any pl u P pc W hpn (by omega) ((HP.out.below h).more h.size) v);have HZ:=Lib.hid (ByInv.zero HH.out.ff HOA.out HOB.out);rw[← HPL.out]at HZ;clear HE1 HE2 ho1 ho2 ho3 hb1 hb2 hb3 hb12 hrun hu hpl hpn;go_wp2_with (at_builtin;refine Lib.wpList_append_run _ rfl _ _ _ _ rfl _ _ rfl rfl _ _ Hrun.out ?_);go_wp2_with fail;refine (HN 0 w3 (Below.refl _ _)).out.mono ?_;obtain⟨t0,ht0⟩:∃ t,t=(nextL 0 pl).getD 0:=⟨_,rfl⟩;obtain⟨k0,hk0⟩:∃ k,k=(nextL 0 pl).isSome:=⟨_,rfl⟩;rw[← ht0,← hk0]at HZ ⊢;rintro e w3' ⟨rfl,rfl⟩;clear ht0 hk0;go_wp2
 go_loopw [8,9,10] (fun lv tv kv wr=>∃ (q:Nat) (A':Option Addr) (c':Nat) (out:List (Int×Int)) (t:Int) (ok:Bool),lv = .slice A' q c'∧tv = .int .i64 t∧kv = .bool ok∧Hid (q=out.length)∧Hid (ByInv f a b out t ok)∧Hid (Own wr w3'.heap.size 138 2 A' q c' (runsC out))∧Hid (Below w3'.heap.size w3' wr)) (fun _ tv kv _=>match kv with | .bool true=>(1099511627780-intOf tv).toNat | _=>0)
 case atStart=>exact⟨0,none,0,[],t0,k0,rfl,rfl,rfl,rfl,HZ.out,⟨World.ownsRow_nil _ _ _ _,by simp[runsC]⟩,Below.refl _ _⟩
 case round=>
  obtain⟨q,A',c',out,t,ok,rfl,rfl,rfl,HQ,HI,HO,HB⟩:=hrel
  cases ok with
  | false=>
   have HF:=Lib.hid (HI.out.off rfl);have HRT:=Lib.hid HI.out.right;have hq:=HQ.out;subst hq;go_wp2;go_ret
   exact⟨out,_,_,rfl,HRT.out,HF.out,⟨⟨HO.out.row.1,by
    have hs:=HB3.out.size
    rcases HO.out.row.2 with h | ⟨g,cap,cur,h1,h2,h3⟩
    ·exact .inl h
    ·exact .inr ⟨g,cap,cur,h1,by omega,h3⟩⟩,HO.out.one⟩,HB3.out.trans (HB.out.mono HB3.out.size)⟩
  | true=>
   have HHA:=Lib.hid (refhas_any a n A c wr HLA.out (by omega) (((HRA.out.below HB3.out).more HB3.out.size).later HB.out) t);have HHB:=Lib.hid (refhas_any b m B d wr HLB.out (by omega) (((HRB.out.below HB3.out).more HB3.out.size).later HB.out) t);have HNX:=HN t wr HB.out;have hNI:=nextL_is t pl;obtain⟨x,hx⟩:∃ x,x=hasB a t:=⟨_,rfl⟩;obtain⟨y,hy⟩:∃ y,y=hasB b t:=⟨_,rfl⟩;rw[← hx]at HHA;rw[← hy]at HHB;have htb:=HI.out.on rfl;have ht1:=htb.2.1;have ht2:=htb.2.2.1;clear htb hNI
   cases hnx:nextL t pl with
   | none=>
    have HNX:Hid (Calls Tryz.prog 141 #[.slice P u pc,.int .i64 t] wr fun e w'=>e = .returned (.tuple #[.int .i64 0,.bool false])∧w'=wr):=by
     have:=HNX.out;rw[hnx]at this;exact this
    obtain⟨hin,hoff⟩:=HI.out.last HH.out.ff HOA.out HOB.out (by rw[← HPL.out];exact hnx);have HY:=Lib.hid (hoff 0);rw[← hx,← hy]at hin;clear hoff hx hy hnx HN;go_wp2_with fail;refine HNX.out.mono ?_;rintro e wr ⟨rfl,rfl⟩;go_wp2_with fail;refine HHA.out.mono ?_;rintro e wr ⟨rfl,rfl⟩;go_wp2_with fail;refine HHB.out.mono ?_;rintro e wr ⟨rfl,rfl⟩
    rcases HH.out with ⟨rfl,rfl⟩ | ⟨rfl,rfl⟩ | ⟨rfl,rfl⟩ <;> cases x <;> cases y
    all_goals first | (exfalso;revert hin;decide) | skip
    all_goals clear hin
    all_goals
     go_wp2;go_roundw
     case rel=>exact⟨q,A',c',out,_,_,rfl,rfl,rfl,HQ.out,HY.out,HO.out,HB.out⟩
     case measure=>simp[intOf];omega
   | some v=>
    have HNX:Hid (Calls Tryz.prog 141 #[.slice P u pc,.int .i64 t] wr fun e w'=>e = .returned (.tuple #[.int .i64 v,.bool true])∧w'=wr):=by
     have:=HNX.out;rw[hnx]at this;exact this
    obtain⟨hv1,_,hv2,hc1,hc2,hc3⟩:=HI.out.next HOA.out HOB.out (by rw[← HPL.out];exact hnx);rw[← hx,← hy]at hc1 hc2 hc3
    cases hin:f x y with
    | false=>
     have HY:=Lib.hid (hc1 hin);clear hc1 hc2 hc3 hx hy hnx HN;go_wp2_with fail;refine HNX.out.mono ?_;rintro e wr ⟨rfl,rfl⟩;go_wp2_with fail;refine HHA.out.mono ?_;rintro e wr ⟨rfl,rfl⟩;go_wp2_with fail;refine HHB.out.mono ?_;rintro e wr ⟨rfl,rfl⟩
     rcases HH.out with ⟨rfl,rfl⟩ | ⟨rfl,rfl⟩ | ⟨rfl,rfl⟩ <;> cases x <;> cases y
     all_goals first | (exfalso;revert hin;decide) | skip
     all_goals clear hin
     all_goals
      go_wp2;go_roundw
      case rel=>exact⟨q,A',c',out,_,_,rfl,rfl,rfl,HQ.out,HY.out,HO.out,HB.out⟩
      case measure=>simp[intOf];omega
    | true=>
     rcases nil_or_snoc out with rfl | ⟨dd,r,rfl⟩
     ·have hq:q=0:=HQ.out
      subst hq;have HY:=Lib.hid (hc2 hin (by simp));obtain⟨A2,c2,w2',hrun2,ho2',hb2'⟩:=push_run Tryz.underlying102 infoP wr w3'.heap.size wr.heap.size rfl HB.out.size _ ([]:List (Int×Int)) HO.out.row t (v-1) (by have:=(HI.out.on rfl).2.2.2.2.2;have:=List.countP_le_length (p:=fun x=>decide (x<t)) (l:=endsL a++endsL b);rw[← HPL.out]at *;rw[HPN.out]at this;have:=HU.out;omega);have Hrun2:=Lib.hid hrun2;have HO2:=Lib.hid ho2';have HB2:=Lib.hid (HB.out.trans hb2');obtain⟨q2,hq2⟩:∃ q2,q2=(([]:List (Int×Int))++[(t,v-1)]).length:=⟨_,rfl⟩;rw[← hq2]at Hrun2 HO2;have HQ2:=Lib.hid hq2;clear hrun2 ho2' hb2' hq2;clear hc1 hc2 hc3 hx hy hnx HN;go_wp2_with fail;refine HNX.out.mono ?_;rintro e wr ⟨rfl,rfl⟩;go_wp2_with fail;refine HHA.out.mono ?_;rintro e wr ⟨rfl,rfl⟩;go_wp2_with fail;refine HHB.out.mono ?_
      rintro e wr ⟨rfl,rfl⟩
      rcases HH.out with ⟨rfl,rfl⟩ | ⟨rfl,rfl⟩ | ⟨rfl,rfl⟩ <;> cases x <;> cases y
      all_goals first | (exfalso;revert hin;decide) | skip
      all_goals clear hin
      all_goals
       go_wp2_with (at_builtin;refine Lib.wpList_append_run _ rfl _ _ _ _ rfl _ _ rfl rfl _ _ Hrun2.out ?_);go_roundw
       case rel=>exact⟨q2,A2,c2,([]:List (Int×Int))++[(t,v-1)],v,true,rfl,rfl,rfl,HQ2.out,HY.out,HO2.out,HB2.out⟩
       case measure=>simp[intOf];omega
     ·obtain⟨s,e0⟩:=r
      by_cases he:e0=t-1
      ·subst he
       have HY:=Lib.hid (hc3 hin dd s rfl);obtain⟨D,hD⟩:∃ D,D=dd.length:=⟨_,rfl⟩
       have hq:q=D+1:=by rw[hD];have:=HQ.out;simpa using this
       subst hq
       have hD2:D≤400000:=by have:=(HI.out.on rfl).2.2.2.2.2;have:=List.countP_le_length (p:=fun x=>decide (x<t)) (l:=endsL a++endsL b);rw[← HPL.out]at *;rw[HPN.out]at this;have:=HU.out;simp at *;omega
       obtain⟨g,rfl,hgb,hgl,hfz,hcell⟩:=Own.place HO.out (by omega)
       have hcl:wr.cell? ⟨g,D*2+1,none⟩=some (.int .i64 (t-1)):=by
        have:=(runsC_at (dd++[(s,(t-1))]) D (by simp[hD])).2;rw[show (dd++[(s,(t-1))])[D]'(by simp[hD])=(s,(t-1)) from by simp[hD]]at this;exact hcell _ _ this
       have hfz:=hfz (D*2+1)
       have HO2:Hid (Own (wr.setCell ⟨g,D*2+1,none⟩ (.int .i64 (v-1))) w3'.heap.size 138 2 (some ⟨g,0,none⟩) (D+1) c' (runsC (dd++[(s,v-1)]))):=by
        rw[hD];exact own_close (by rw[← hD];exact HO.out)
       have HB2:Hid (Below w3'.heap.size w3' (wr.setCell ⟨g,D*2+1,none⟩ (.int .i64 (v-1)))):=HB.out.setCell hgb _
       have HQ2:Hid (D+1=(dd++[(s,v-1)]).length):=by unfold Hid;rw[hD];simp
       clear hcell hD hc1 hc2 hc3 hx hy hnx HN;go_wp2_with fail;refine HNX.out.mono ?_;rintro e wr ⟨rfl,rfl⟩;go_wp2_with fail;refine HHA.out.mono ?_;rintro e wr ⟨rfl,rfl⟩;go_wp2_with fail;refine HHB.out.mono ?_;rintro e wr ⟨rfl,rfl⟩
       rcases HH.out with ⟨rfl,rfl⟩ | ⟨rfl,rfl⟩ | ⟨rfl,rfl⟩ <;> cases x <;> cases y
       all_goals first | (exfalso;revert hin;decide) | skip
       all_goals clear hin
       all_goals
        go_wp2;go_roundw
        case rel=>exact⟨D+1,_,c',dd++[(s,v-1)],v,true,rfl,rfl,rfl,HQ2.out,HY.out,HO2.out,HB2.out⟩
        case measure=>simp[intOf];omega
      ·have f5:(e0==t-1)=false:=by simpa using he
       have HY:=Lib.hid (hc2 hin (fun r hr=>by
        obtain⟨_,_,_,k4,_,_⟩:=HI.out.on rfl;obtain⟨_,j2,_,j4,_⟩:=HI.out.right.of_snoc;dsimp only at j2 j4;have k5:e0<t:=k4 (s,e0) (by simp)
        rcases List.mem_append.1 hr with hr | hr
        ·have:=j2 r hr;omega
        ·rw[List.mem_singleton.1 hr];show e0+2≤t;omega))
       obtain⟨D,hD⟩:∃ D,D=dd.length:=⟨_,rfl⟩
       have hq:q=D+1:=by rw[hD];have:=HQ.out;simpa using this
       subst hq
       have hD2:D≤400000:=by have:=(HI.out.on rfl).2.2.2.2.2;have:=List.countP_le_length (p:=fun x=>decide (x<t)) (l:=endsL a++endsL b);rw[← HPL.out]at *;rw[HPN.out]at this;have:=HU.out;simp at *;omega
       obtain⟨g,rfl,hgb,hgl,hfz,hcell⟩:=Own.place HO.out (by omega)
       have hcl:wr.cell? ⟨g,D*2+1,none⟩=some (.int .i64 e0):=by
        have:=(runsC_at (dd++[(s,e0)]) D (by simp[hD])).2;rw[show (dd++[(s,e0)])[D]'(by simp[hD])=(s,e0) from by simp[hD]]at this;exact hcell _ _ this
       have eD:(dd++[(s,e0)]).length=D+1:=by simp[hD]
       have hown:wr.ownsRow w3'.heap.size 138 2 (.slice (some ⟨g,0,none⟩) (D+1) c') (dd++[(s,e0)]).length (runsC (dd++[(s,e0)])):=by rw[eD];exact HO.out.row
       obtain⟨A2,c2,w2',hrun2,ho2',hb2'⟩:=push_run Tryz.underlying102 infoP wr w3'.heap.size wr.heap.size rfl HB.out.size _ (dd++[(s,e0)]) hown t (v-1) (by have:=(HI.out.on rfl).2.2.2.2.2;have:=List.countP_le_length (p:=fun x=>decide (x<t)) (l:=endsL a++endsL b);rw[← HPL.out]at *;rw[HPN.out]at this;have:=HU.out;omega);have Hrun2:=Lib.hid hrun2;have HO2:=Lib.hid ho2';have HB2:=Lib.hid (HB.out.trans hb2');obtain⟨q2,hq2⟩:∃ q2,q2=((dd++[(s,e0)])++[(t,v-1)]).length:=⟨_,rfl⟩;rw[← hq2]at Hrun2 HO2;have HQ2:=Lib.hid hq2;clear hrun2 ho2' hb2' hq2;clear hown eD hfz hcell hD hc1 hc2 hc3 hx hy hnx HN he;go_wp2_with fail;refine HNX.out.mono ?_;rintro e wr ⟨rfl,rfl⟩;go_wp2_with fail;refine HHA.out.mono ?_;rintro e wr ⟨rfl,rfl⟩;go_wp2_with fail;refine HHB.out.mono ?_;rintro e wr ⟨rfl,rfl⟩
       rcases HH.out with ⟨rfl,rfl⟩ | ⟨rfl,rfl⟩ | ⟨rfl,rfl⟩ <;> cases x <;> cases y
       all_goals first | (exfalso;revert hin;decide) | skip
       all_goals clear hin
       all_goals
        go_wp2_with (at_builtin;refine Lib.wpList_append_run _ rfl _ _ _ _ rfl _ _ rfl rfl _ _ Hrun2.out ?_);go_roundw
        case rel=>exact⟨q2,A2,c2,(dd++[(s,e0)])++[(t,v-1)],v,true,rfl,rfl,rfl,HQ2.out,HY.out,HO2.out,HB2.out⟩
        case measure=>simp[intOf];omega
end Sp
end Go.Proofs.YtcbpgemiffmieaaGreat
