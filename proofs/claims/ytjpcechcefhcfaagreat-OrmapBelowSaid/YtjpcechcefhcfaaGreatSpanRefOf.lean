/- The set of numbers: the document's. -/
import Derived.Test.YtjpcechcefhcfaaGreatG10
namespace Go.Proofs.YtjpcechcefhcfaaGreat
open Go.ChangeShapes Go.WideShapes Go.ChangeAt Go.RowKit
namespace Sp
def SetIs (ns:List Int) (l:List (Int×Int)):Prop:=RightF 1 l∧∀ n,hasB l n=true↔n∈ns
theorem SetIs.eq {ns:List Int} {a b:List (Int×Int)} (ha:SetIs ns a) (hb:SetIs ns b):a=b:=ext ha.1 hb.1 fun n=>by
 rw[Bool.eq_iff_iff,ha.2 n,hb.2 n]
set_option maxRecDepth 100000 in
set_option maxHeartbeats 4000000 in
theorem refof_any (ns:List Int) (n:Nat) (A:Option Addr) (c:Nat) (w:World) (hl:ns.length=n) (hn:n≤100000) (hr:Rd w w.heap.size 1 A n c (intsC ns)) (hb:∀ x∈ns,1≤x∧x≤1099511627776) :
  Calls Tryz.prog 83 #[.slice A n c] w fun e w'=>∃ l A' c',e = .returned (.slice A' l.length c')∧SetIs ns l∧Own w' w.heap.size 127 2 A' l.length c' (runsC l)∧Below w.heap.size w w':=by
 have HL:=Lib.hid hl;have HBD:=Lib.hid hb;have HN:=fun v W (h:Below w.heap.size w W)=>Lib.hid (next_any ns n A c W hl (by omega) ((hr.below h).more h.size) v);have HZ:=Lib.hid (OfInv.zero hb);clear hl hr hb;obtain⟨t0,ht0⟩:∃ t,t=(nextL 0 ns).getD 0:=⟨_,rfl⟩;obtain⟨k0,hk0⟩:∃ k,k=(nextL 0 ns).isSome:=⟨_,rfl⟩;have HN0:=HN 0 w (Below.refl _ _);rw[← ht0,← hk0]at HZ HN0;clear ht0 hk0;go_enter Tryz.func83,Tryz.ntmps83;go_wp2_with fail;refine HN0.out.mono ?_;rintro e w3 ⟨rfl,rfl⟩;clear HN0;go_wp2
 go_loopw [3,4,5] (fun lv tv kv wr=>∃ (q:Nat) (A':Option Addr) (c':Nat) (out:List (Int×Int)) (t:Int) (ok:Bool),lv = .slice A' q c'∧tv = .int .i64 t∧kv = .bool ok∧Hid (q=out.length)∧Hid (OfInv ns out t ok)∧Hid (Own wr w3.heap.size 127 2 A' q c' (runsC out))∧Hid (Below w3.heap.size w3 wr)) (fun _ tv kv _=>match kv with | .bool true=>(1099511627780-intOf tv).toNat | _=>0)
 case atStart=>exact⟨0,none,0,[],t0,k0,rfl,rfl,rfl,rfl,HZ.out,⟨World.ownsRow_nil _ _ _ _,by simp[runsC]⟩,Below.refl _ _⟩
 case round=>
  obtain⟨q,A',c',out,t,ok,rfl,rfl,rfl,HQ,HI,HO,HB⟩:=hrel
  cases ok with
  | false=>
   have HF:=Lib.hid (HI.out.off rfl);have HRT:=Lib.hid HI.out.right;have hq:=HQ.out;subst hq;go_wp2;go_ret;exact⟨out,_,_,rfl,⟨HRT.out,HF.out⟩,HO.out,HB.out⟩
  | true=>
   obtain⟨ht0,htl,_,htc⟩:=HI.out.on rfl;obtain⟨ht1,ht2⟩:=HBD.out t ht0
   have hlen:out.length≤100000:=by
    have:=List.countP_le_length (p:=fun x=>decide (x<t)) (l:=ns);rw[HL.out]at this;omega
   obtain⟨t',ht'⟩:∃ t',t'=(nextL t ns).getD 0:=⟨_,rfl⟩;obtain⟨k',hk'⟩:∃ k',k'=(nextL t ns).isSome:=⟨_,rfl⟩
   have HM:Hid (k'=true→t<t'∧t'≤1099511627776):=fun hk=>by
    have hN:=nextL_is t ns
    cases hx:nextL t ns with
    | none=>rw[hk',hx]at hk;cases hk
    | some u=>
     rw[hx]at hN ht';rw[ht'];exact⟨hN.2.1,(HBD.out u hN.1).2⟩
   have HNX:=fun W (h:Below w3.heap.size w3 W)=>HN t W h;rw[← ht',← hk']at HNX;have hgap:∀ r∈out,r.2<t:=htl;clear htc htl ht0
   rcases nil_or_snoc out with rfl | ⟨dd,r,rfl⟩
   ·have hq:q=0:=HQ.out
    subst hq;have HY:=Lib.hid (HI.out.push HBD.out (by simp));rw[← ht',← hk']at HY;obtain⟨A2,c2,w2',hrun2,ho2',hb2'⟩:=push_run Tryz.underlying107 infoP wr w3.heap.size wr.heap.size rfl HB.out.size _ ([]:List (Int×Int)) HO.out.row t t (by omega);have Hrun2:=Lib.hid hrun2;have HO2:=Lib.hid ho2';have HB2:=Lib.hid (HB.out.trans hb2');obtain⟨q2,hq2⟩:∃ q2,q2=(([]:List (Int×Int))++[(t,t)]).length:=⟨_,rfl⟩;rw[← hq2]at Hrun2 HO2;have HQ2:=Lib.hid hq2;clear hrun2 ho2' hb2' hq2 ht' hk' hgap;go_wp2_with (at_builtin;refine Lib.wpList_append_run _ rfl _ _ _ _ rfl _ _ rfl rfl _ _ Hrun2.out ?_);go_wp2_with fail;refine (HNX _ HB2.out).out.mono ?_;rintro e wr' ⟨rfl,rfl⟩;go_wp2;go_roundw
    case rel=>exact⟨q2,A2,c2,([]:List (Int×Int))++[(t,t)],t',k',rfl,rfl,rfl,HQ2.out,HY.out,HO2.out,HB2.out⟩
    case measure=>cases k' <;> simp[intOf] <;> (try have:=(HM.out rfl)) <;> omega
   ·obtain⟨s,e0⟩:=r
    by_cases he:e0=t-1
    ·subst he
     have HY:=Lib.hid (HI.out.grow HBD.out);rw[← ht',← hk']at HY;obtain⟨D,hD⟩:∃ D,D=dd.length:=⟨_,rfl⟩
     have hq:q=D+1:=by rw[hD];have:=HQ.out;simpa using this
     subst hq
     have hD2:D≤400000:=by rw[List.length_append,List.length_singleton]at hlen;omega
     obtain⟨g,rfl,hgb,hgl,hfz,hcell⟩:=Own.place HO.out (by omega)
     have hcl:wr.cell? ⟨g,D*2+1,none⟩=some (.int .i64 (t-1)):=by
      have:=(runsC_at (dd++[(s,(t-1))]) D (by simp[hD])).2;rw[show (dd++[(s,(t-1))])[D]'(by simp[hD])=(s,(t-1)) from by simp[hD]]at this;exact hcell _ _ this
     have hfz:=hfz (D*2+1)
     have HO2:Hid (Own (wr.setCell ⟨g,D*2+1,none⟩ (.int .i64 t)) w3.heap.size 127 2 (some ⟨g,0,none⟩) (D+1) c' (runsC (dd++[(s,t)]))):=by
      rw[hD];exact own_close (by rw[← hD];exact HO.out)
     have HB2:Hid (Below w3.heap.size w3 (wr.setCell ⟨g,D*2+1,none⟩ (.int .i64 t))):=HB.out.setCell hgb _
     have HQ2:Hid (D+1=(dd++[(s,t)]).length):=by unfold Hid;rw[hD];simp
     clear hcell hD ht' hk' hgap hlen;go_wp2_with fail;refine (HNX _ HB2.out).out.mono ?_;rintro e wr' ⟨rfl,rfl⟩;go_wp2;go_roundw
     case rel=>exact⟨D+1,_,c',dd++[(s,t)],t',k',rfl,rfl,rfl,HQ2.out,HY.out,HO2.out,HB2.out⟩
     case measure=>cases k' <;> simp[intOf] <;> (try have:=(HM.out rfl)) <;> omega
    ·have f5:(e0==t-1)=false:=by simpa using he
     have HY:=Lib.hid (HI.out.push HBD.out (fun r hr=>by
      obtain⟨_,j2,_,j4,_⟩:=HI.out.right.of_snoc;dsimp only at j2 j4;have k5:e0<t:=hgap (s,e0) (by simp)
      rcases List.mem_append.1 hr with hr | hr
      ·have:=j2 r hr;omega
      ·rw[List.mem_singleton.1 hr];show e0+2≤t;omega))
     rw[← ht',← hk']at HY;obtain⟨D,hD⟩:∃ D,D=dd.length:=⟨_,rfl⟩
     have hq:q=D+1:=by rw[hD];have:=HQ.out;simpa using this
     subst hq
     have hD2:D≤400000:=by rw[List.length_append,List.length_singleton]at hlen;omega
     obtain⟨g,rfl,hgb,hgl,hfz,hcell⟩:=Own.place HO.out (by omega)
     have hcl:wr.cell? ⟨g,D*2+1,none⟩=some (.int .i64 e0):=by
      have:=(runsC_at (dd++[(s,e0)]) D (by simp[hD])).2;rw[show (dd++[(s,e0)])[D]'(by simp[hD])=(s,e0) from by simp[hD]]at this;exact hcell _ _ this
     have eD:(dd++[(s,e0)]).length=D+1:=by simp[hD]
     have hown:wr.ownsRow w3.heap.size 127 2 (.slice (some ⟨g,0,none⟩) (D+1) c') (dd++[(s,e0)]).length (runsC (dd++[(s,e0)])):=by rw[eD];exact HO.out.row
     obtain⟨A2,c2,w2',hrun2,ho2',hb2'⟩:=push_run Tryz.underlying107 infoP wr w3.heap.size wr.heap.size rfl HB.out.size _ (dd++[(s,e0)]) hown t t (by omega);have Hrun2:=Lib.hid hrun2;have HO2:=Lib.hid ho2';have HB2:=Lib.hid (HB.out.trans hb2');obtain⟨q2,hq2⟩:∃ q2,q2=((dd++[(s,e0)])++[(t,t)]).length:=⟨_,rfl⟩;rw[← hq2]at Hrun2 HO2;have HQ2:=Lib.hid hq2;clear hrun2 ho2' hb2' hq2 ht' hk' hgap;clear hown eD hfz hcell hD he hlen;go_wp2_with (at_builtin;refine Lib.wpList_append_run _ rfl _ _ _ _ rfl _ _ rfl rfl _ _ Hrun2.out ?_);go_wp2_with fail;refine (HNX _ HB2.out).out.mono ?_;rintro e wr' ⟨rfl,rfl⟩;go_wp2;go_roundw
     case rel=>exact⟨q2,A2,c2,(dd++[(s,e0)])++[(t,t)],t',k',rfl,rfl,rfl,HQ2.out,HY.out,HO2.out,HB2.out⟩
     case measure=>cases k' <;> simp[intOf] <;> (try have:=(HM.out rfl)) <;> omega
end Sp
end Go.Proofs.YtjpcechcefhcfaaGreat
