/- Two sets put together: the program's. -/
import Derived.Test.YtcbpgemiffmieaaGreatG01
namespace Go.Proofs.YtcbpgemiffmieaaGreat
open Go.ChangeShapes Go.WideShapes Go.ChangeAt Go.RowKit
namespace Sp
theorem minus_fn (x y:Bool) (w:World):Calls Tryz.prog 161 #[.bool x,.bool y] w fun e w'=>e = .returned (.bool (x && !y))∧w'=w:=by
 cases x
 all_goals
  go_enter Tryz.func161,Tryz.ntmps161;go_wp2;go_ret;exact⟨rfl,rfl⟩
theorem Join.opened {f:Bool→Bool→Bool} {a b done:List (Int×Int)} {i j:Nat} {p s u:Int} (h:Join f a b i j p (if !true&&false then done++[(s,u-1)]else done) (if true && !false then u else s) true):Join f a b i j p done u true:=by simpa using h
theorem Join.stays {f:Bool→Bool→Bool} {a b done:List (Int×Int)} {i j:Nat} {p s u:Int} (k:Bool) (h:Join f a b i j p (if !k&&k then done++[(s,u-1)]else done) (if k && !k then u else s) k):Join f a b i j p done s k:=by cases k <;> simpa using h
theorem Join.closed {f:Bool→Bool→Bool} {a b done:List (Int×Int)} {i j:Nat} {p s u:Int} (h:Join f a b i j p (if !false&&true then done++[(s,u-1)]else done) (if false && !true then u else s) false):Join f a b i j p (done++[(s,u-1)]) s false:=by simpa using h
theorem odd_bool (i:Nat):((i:Int) % 2==1)=decide (i % 2=1):=by
 cases h:decide (i % 2=1)with
 | true=>simp at h ⊢;omega
 | false=>simp at h ⊢;omega
theorem odd_bool1 (i:Nat):(((i:Int)+1) % 2==1)=decide ((i+1) % 2=1):=by
 have:=odd_bool (i+1)
 rwa [show ((i+1:Nat):Int)=(i:Int)+1 from by omega]at this
def JoinIs (f:Bool→Bool→Bool) (a b:List (Int×Int)) (w:World) (e:Ending) (w':World):Prop:=
 ∃ l A c,e = .returned (.slice A l.length c)∧Put f a b l∧Own w' w.heap.size 184 2 A l.length c (runsC l)∧Below w.heap.size w w'
set_option maxRecDepth 100000 in
set_option maxHeartbeats 2000000 in
theorem join_any (f:Bool→Bool→Bool) (hf:f false false=false) (F:FuncId) (hF:∀ x y W,Calls Tryz.prog F #[.bool x,.bool y] W fun e w'=>e = .returned (.bool (f x y))∧w'=W) (eF:∀ args W,(callFunc F args).run Tryz.prog W = .ok (.enter F args) W)
  (a b:List (Int×Int)) (n m:Nat) (A B:Option Addr) (c d:Nat) (w:World) (hla:a.length=n) (hlb:b.length=m) (hn:n≤100000) (hm:m≤100000) (hra:Rd w w.heap.size 2 A n c (runsC a)) (hrb:Rd w w.heap.size 2 B m d (runsC b)) (oa:RightF 1 a) (ob:RightF 1 b) :
  Calls Tryz.prog 160 #[.slice A n c,.slice B m d,.func (.func F) #[] #[]] w (JoinIs f a b w):=by
 have HRA:=Lib.hid hra;have HRB:=Lib.hid hrb;have HLA:=Lib.hid hla;have HLB:=Lib.hid hlb;have HOA:=Lib.hid oa;have HOB:=Lib.hid ob;have HT1:=Lib.hid (right_any a n A c w hla (by omega) hra);rw[show rightB a=true from decide_eq_true oa]at HT1;have HT2:=fun W (h:Below w.heap.size w W)=>Lib.hid (right_any b m B d W hlb (by omega) ((hrb.below h).more h.size));rw[show rightB b=true from decide_eq_true ob]at HT2;clear hra hrb hla hlb oa ob;go_enter Tryz.func160,Tryz.ntmps160;go_wp2_with fail;refine HT1.out.mono ?_;rintro e w1 ⟨rfl,hb1⟩;go_wp2_with fail;refine (HT2 w1 hb1).out.mono ?_;rintro e w2 ⟨rfl,hb2⟩;have HB2:=Lib.hid (hb1.trans (hb2.mono hb1.size));clear hb1 hb2 HT1 HT2;go_wp2
 go_loopw [7,8,9,10] (fun lv wv iv jv wr=>∃ (i j q:Nat) (p s:Int) (done:List (Int×Int)) (within:Bool) (A':Option Addr) (c':Nat),lv = .slice A' q c'∧wv = .bool within∧iv = .int .i64 i∧jv = .int .i64 j∧i≤2*n∧j≤2*m∧Hid (q=(rowJ done s within).length)∧Hid (Join f a b i j p done s within)∧Hid (Own wr w.heap.size 184 2 A' q c' (runsC (rowJ done s within)))∧Hid (Below w.heap.size w wr)) (fun _ _ iv jv _=>2*n+2*m-(intOf iv).toNat-(intOf jv).toNat)
 case atStart=>exact⟨0,0,0,0,0,[],false,none,0,rfl,rfl,rfl,rfl,by omega,by omega,rfl,Join.zero hf HOA.out HOB.out _,⟨World.ownsRow_nil _ _ _ _,by simp[rowJ,runsC]⟩,HB2.out⟩
 case round=>
  obtain⟨i,j,q,p,s,done,within,A',c',rfl,rfl,rfl,rfl,hi,hj,HQ,HJ,HO,HB⟩:=hrel;have HEI:=Lib.hid (edge_any a n A c wr HLA.out (by omega) ((HRA.out.below HB.out).more HB.out.size) HOA.out i hi);have HEJ:=Lib.hid (edge_any b m B d wr HLB.out (by omega) ((HRB.out.below HB.out).more HB.out.size) HOB.out j hj);obtain⟨ei,hei⟩:∃ x,x=edge a i:=⟨_,rfl⟩;obtain⟨ej,hej⟩:∃ x,x=edge b j:=⟨_,rfl⟩;rw[← hei]at HEI;rw[← hej]at HEJ
  by_cases hgi:i<2*n
  ·have f0:decide ((i:Int)<2*(n:Int))=true:=decide_eq_true (by omega)
   rcases Int.lt_trichotomy ei ej with hlt | heq | hgt
   ·have f1:min ei ej=ei:=by omega
    have f2:(ej==ei)=false:=by simp;omega
    obtain⟨kept,hkept⟩:∃ k,k=f (decide ((i+1) % 2=1)) (decide ((j) % 2=1)):=⟨_,rfl⟩
    have HFN:Hid (Calls Tryz.prog F #[.bool (((i:Int)+1) % 2==1),.bool ((j:Int) % 2==1)] wr fun e w'=>e = .returned (.bool kept)∧w'=wr):=by
     rw[odd_bool1 i,odd_bool j,hkept];exact hF _ _ _
    obtain⟨hu1,hu2,hsum,hmore⟩:=HJ.out.more (i':=i+1) (j':=j) (at':=ei) (kept:=kept) HOA.out HOB.out (.inl (by rw[HLA.out];exact hgi)) (by rw[← hei,← hej];omega) (by rw[← hei,if_pos (by omega)]) (by rw[← hej,if_neg (by omega)]) hkept
    have hi2:i+1≤2*n:=by have:=hmore.hi;rw[HLA.out]at this;exact this
    have hj2:j≤2*m:=by have:=hmore.hj;rw[HLB.out]at this;exact this
    have HMORE:=Lib.hid hmore;clear hmore hkept hei hej hF hsum
    cases kept with
    | true=>
     cases within with
     | true=>
      go_wp2_with fail;refine HEI.out.mono ?_;rintro e wr ⟨rfl,rfl⟩;go_wp2_with fail;refine HEJ.out.mono ?_;rintro e wr ⟨rfl,rfl⟩;go_wp2_with fail;refine HEI.out.mono ?_;rintro e wr ⟨rfl,rfl⟩;go_wp2_with fail;refine HEJ.out.mono ?_;rintro e wr ⟨rfl,rfl⟩;go_wp2_with fail;refine HFN.out.mono ?_;rintro e wr ⟨rfl,rfl⟩;go_wp2;go_roundw
      case rel=>exact⟨i+1,j,q,_,s,done,true,A',c',rfl,rfl,by go_num,rfl,hi2,hj2,HQ.out,Join.stays true HMORE.out,HO.out,HB.out⟩
      case measure=>simp[intOf];omega
     | false=>
      have hq:q=done.length:=HQ.out;subst hq;obtain⟨A2,c2,w2,hrun,ho2,hb2⟩:=push_run Tryz.underlying147 infoR wr w.heap.size wr.heap.size rfl HB.out.size _ done HO.out.row ei 0 (by have:=HJ.out.len;omega);have Hrun:=Lib.hid hrun;have HO2:=Lib.hid ho2;have HB2:=Lib.hid (HB.out.trans hb2);have e2:(done++[(ei,(0:Int))]).length=(rowJ done ei true).length:=rfl;rw[e2]at Hrun HO2;obtain⟨q2,hq2⟩:∃ q2,q2=(rowJ done ei true).length:=⟨_,rfl⟩;rw[← hq2]at Hrun HO2;have HQ2:=Lib.hid hq2;clear hrun ho2 hb2 e2 hq2;go_wp2_with fail;refine HEI.out.mono ?_;rintro e wr ⟨rfl,rfl⟩;go_wp2_with fail;refine HEJ.out.mono ?_;rintro e wr ⟨rfl,rfl⟩;go_wp2_with fail;refine HEI.out.mono ?_;rintro e wr ⟨rfl,rfl⟩;go_wp2_with fail;refine HEJ.out.mono ?_;rintro e wr ⟨rfl,rfl⟩;go_wp2_with fail;refine HFN.out.mono ?_;rintro e wr ⟨rfl,rfl⟩
      go_wp2_with (at_builtin;refine Lib.wpList_append_run _ rfl _ _ _ _ rfl _ _ rfl rfl _ _ Hrun.out ?_);go_roundw
      case rel=>exact⟨i+1,j,q2,_,ei,done,true,A2,c2,rfl,rfl,by go_num,rfl,hi2,hj2,HQ2.out,Join.opened HMORE.out,HO2.out,HB2.out⟩
      case measure=>simp[intOf];omega
    | false=>
     cases within with
     | true=>
      obtain⟨D,hD⟩:∃ D,D=done.length:=⟨_,rfl⟩
      have hq:q=D+1:=by rw[hD];have:=HQ.out;simpa [rowJ] using this
      subst hq
      have hD2:D≤400000:=by have:=HJ.out.len;omega
      obtain⟨g,rfl,hgb,hgl,hfz,hcell⟩:=Own.place HO.out (by omega);have hfz:=hfz (D*2+1)
      have hcl:wr.cell? ⟨g,D*2+1,none⟩=some (.int .i64 0):=by
       have:=(runsC_at (done++[(s,0)]) D (by simp[hD])).2;rw[show (done++[(s,(0:Int))])[D]'(by simp[hD])=(s,0) from by simp[hD]]at this;exact hcell _ _ this
      have HO2:Hid (Own (wr.setCell ⟨g,D*2+1,none⟩ (.int .i64 (ei-1))) w.heap.size 184 2 (some ⟨g,0,none⟩) (D+1) c' (runsC (rowJ (done++[(s,ei-1)]) s false))):=by
       rw[hD];exact own_close (by rw[← hD];exact HO.out)
      have HB2:Hid (Below w.heap.size w (wr.setCell ⟨g,D*2+1,none⟩ (.int .i64 (ei-1)))):=HB.out.setCell hgb _
      have HQ2:Hid (D+1=(rowJ (done++[(s,ei-1)]) s false).length):=by unfold Hid;rw[hD];simp[rowJ]
      clear hcell hD;go_wp2_with fail;refine HEI.out.mono ?_;rintro e wr ⟨rfl,rfl⟩;go_wp2_with fail;refine HEJ.out.mono ?_;rintro e wr ⟨rfl,rfl⟩;go_wp2_with fail;refine HEI.out.mono ?_;rintro e wr ⟨rfl,rfl⟩;go_wp2_with fail;refine HEJ.out.mono ?_;rintro e wr ⟨rfl,rfl⟩;go_wp2_with fail;refine HFN.out.mono ?_;rintro e wr ⟨rfl,rfl⟩;go_wp2;go_roundw
      case rel=>exact⟨i+1,j,D+1,_,s,done++[(s,ei-1)],false,_,c',rfl,rfl,by go_num,rfl,hi2,hj2,HQ2.out,Join.closed HMORE.out,HO2.out,HB2.out⟩
      case measure=>simp[intOf];omega
     | false=>
      go_wp2_with fail;refine HEI.out.mono ?_;rintro e wr ⟨rfl,rfl⟩;go_wp2_with fail;refine HEJ.out.mono ?_;rintro e wr ⟨rfl,rfl⟩;go_wp2_with fail;refine HEI.out.mono ?_;rintro e wr ⟨rfl,rfl⟩;go_wp2_with fail;refine HEJ.out.mono ?_;rintro e wr ⟨rfl,rfl⟩;go_wp2_with fail;refine HFN.out.mono ?_;rintro e wr ⟨rfl,rfl⟩;go_wp2;go_roundw
      case rel=>exact⟨i+1,j,q,_,s,done,false,A',c',rfl,rfl,by go_num,rfl,hi2,hj2,HQ.out,Join.stays false HMORE.out,HO.out,HB.out⟩
      case measure=>simp[intOf];omega
   ·subst heq
    have f1:min ei ei=ei:=by omega
    obtain⟨kept,hkept⟩:∃ k,k=f (decide ((i+1) % 2=1)) (decide ((j+1) % 2=1)):=⟨_,rfl⟩
    have HFN:Hid (Calls Tryz.prog F #[.bool (((i:Int)+1) % 2==1),.bool (((j:Int)+1) % 2==1)] wr fun e w'=>e = .returned (.bool kept)∧w'=wr):=by
     rw[odd_bool1 i,odd_bool1 j,hkept];exact hF _ _ _
    obtain⟨hu1,hu2,hsum,hmore⟩:=HJ.out.more (i':=i+1) (j':=j+1) (at':=ei) (kept:=kept) HOA.out HOB.out (.inl (by rw[HLA.out];exact hgi)) (by rw[← hei,← hej];omega) (by rw[← hei,if_pos (by omega)]) (by rw[← hej,if_pos (by omega)]) hkept
    have hi2:i+1≤2*n:=by have:=hmore.hi;rw[HLA.out]at this;exact this
    have hj2:j+1≤2*m:=by have:=hmore.hj;rw[HLB.out]at this;exact this
    have HMORE:=Lib.hid hmore;clear hmore hkept hei hej hF hsum
    cases kept with
    | true=>
     cases within with
     | true=>
      go_wp2_with fail;refine HEI.out.mono ?_;rintro e wr ⟨rfl,rfl⟩;go_wp2_with fail;refine HEJ.out.mono ?_;rintro e wr ⟨rfl,rfl⟩;go_wp2_with fail;refine HEI.out.mono ?_;rintro e wr ⟨rfl,rfl⟩;go_wp2_with fail;refine HEJ.out.mono ?_;rintro e wr ⟨rfl,rfl⟩;go_wp2_with fail;refine HFN.out.mono ?_;rintro e wr ⟨rfl,rfl⟩;go_wp2;go_roundw
      case rel=>exact⟨i+1,j+1,q,_,s,done,true,A',c',rfl,rfl,by go_num,by go_num,hi2,hj2,HQ.out,Join.stays true HMORE.out,HO.out,HB.out⟩
      case measure=>simp[intOf];omega
     | false=>
      have hq:q=done.length:=HQ.out;subst hq;obtain⟨A2,c2,w2,hrun,ho2,hb2⟩:=push_run Tryz.underlying147 infoR wr w.heap.size wr.heap.size rfl HB.out.size _ done HO.out.row ei 0 (by have:=HJ.out.len;omega);have Hrun:=Lib.hid hrun;have HO2:=Lib.hid ho2;have HB2:=Lib.hid (HB.out.trans hb2);have e2:(done++[(ei,(0:Int))]).length=(rowJ done ei true).length:=rfl;rw[e2]at Hrun HO2;obtain⟨q2,hq2⟩:∃ q2,q2=(rowJ done ei true).length:=⟨_,rfl⟩;rw[← hq2]at Hrun HO2;have HQ2:=Lib.hid hq2;clear hrun ho2 hb2 e2 hq2;go_wp2_with fail;refine HEI.out.mono ?_;rintro e wr ⟨rfl,rfl⟩;go_wp2_with fail;refine HEJ.out.mono ?_;rintro e wr ⟨rfl,rfl⟩;go_wp2_with fail;refine HEI.out.mono ?_;rintro e wr ⟨rfl,rfl⟩;go_wp2_with fail;refine HEJ.out.mono ?_;rintro e wr ⟨rfl,rfl⟩;go_wp2_with fail;refine HFN.out.mono ?_;rintro e wr ⟨rfl,rfl⟩
      go_wp2_with (at_builtin;refine Lib.wpList_append_run _ rfl _ _ _ _ rfl _ _ rfl rfl _ _ Hrun.out ?_);go_roundw
      case rel=>exact⟨i+1,j+1,q2,_,ei,done,true,A2,c2,rfl,rfl,by go_num,by go_num,hi2,hj2,HQ2.out,Join.opened HMORE.out,HO2.out,HB2.out⟩
      case measure=>simp[intOf];omega
    | false=>
     cases within with
     | true=>
      obtain⟨D,hD⟩:∃ D,D=done.length:=⟨_,rfl⟩
      have hq:q=D+1:=by rw[hD];have:=HQ.out;simpa [rowJ] using this
      subst hq
      have hD2:D≤400000:=by have:=HJ.out.len;omega
      obtain⟨g,rfl,hgb,hgl,hfz,hcell⟩:=Own.place HO.out (by omega);have hfz:=hfz (D*2+1)
      have hcl:wr.cell? ⟨g,D*2+1,none⟩=some (.int .i64 0):=by
       have:=(runsC_at (done++[(s,0)]) D (by simp[hD])).2;rw[show (done++[(s,(0:Int))])[D]'(by simp[hD])=(s,0) from by simp[hD]]at this;exact hcell _ _ this
      have HO2:Hid (Own (wr.setCell ⟨g,D*2+1,none⟩ (.int .i64 (ei-1))) w.heap.size 184 2 (some ⟨g,0,none⟩) (D+1) c' (runsC (rowJ (done++[(s,ei-1)]) s false))):=by
       rw[hD];exact own_close (by rw[← hD];exact HO.out)
      have HB2:Hid (Below w.heap.size w (wr.setCell ⟨g,D*2+1,none⟩ (.int .i64 (ei-1)))):=HB.out.setCell hgb _
      have HQ2:Hid (D+1=(rowJ (done++[(s,ei-1)]) s false).length):=by unfold Hid;rw[hD];simp[rowJ]
      clear hcell hD;go_wp2_with fail;refine HEI.out.mono ?_;rintro e wr ⟨rfl,rfl⟩;go_wp2_with fail;refine HEJ.out.mono ?_;rintro e wr ⟨rfl,rfl⟩;go_wp2_with fail;refine HEI.out.mono ?_;rintro e wr ⟨rfl,rfl⟩;go_wp2_with fail;refine HEJ.out.mono ?_;rintro e wr ⟨rfl,rfl⟩;go_wp2_with fail;refine HFN.out.mono ?_;rintro e wr ⟨rfl,rfl⟩;go_wp2;go_roundw
      case rel=>exact⟨i+1,j+1,D+1,_,s,done++[(s,ei-1)],false,_,c',rfl,rfl,by go_num,by go_num,hi2,hj2,HQ2.out,Join.closed HMORE.out,HO2.out,HB2.out⟩
      case measure=>simp[intOf];omega
     | false=>
      go_wp2_with fail;refine HEI.out.mono ?_;rintro e wr ⟨rfl,rfl⟩;go_wp2_with fail;refine HEJ.out.mono ?_;rintro e wr ⟨rfl,rfl⟩;go_wp2_with fail;refine HEI.out.mono ?_;rintro e wr ⟨rfl,rfl⟩;go_wp2_with fail;refine HEJ.out.mono ?_;rintro e wr ⟨rfl,rfl⟩;go_wp2_with fail;refine HFN.out.mono ?_;rintro e wr ⟨rfl,rfl⟩;go_wp2;go_roundw
      case rel=>exact⟨i+1,j+1,q,_,s,done,false,A',c',rfl,rfl,by go_num,by go_num,hi2,hj2,HQ.out,Join.stays false HMORE.out,HO.out,HB.out⟩
      case measure=>simp[intOf];omega
   ·have f1:min ei ej=ej:=by omega
    have f2:(ei==ej)=false:=by simp;omega
    obtain⟨kept,hkept⟩:∃ k,k=f (decide ((i) % 2=1)) (decide ((j+1) % 2=1)):=⟨_,rfl⟩
    have HFN:Hid (Calls Tryz.prog F #[.bool ((i:Int) % 2==1),.bool (((j:Int)+1) % 2==1)] wr fun e w'=>e = .returned (.bool kept)∧w'=wr):=by
     rw[odd_bool i,odd_bool1 j,hkept];exact hF _ _ _
    obtain⟨hu1,hu2,hsum,hmore⟩:=HJ.out.more (i':=i) (j':=j+1) (at':=ej) (kept:=kept) HOA.out HOB.out (.inl (by rw[HLA.out];exact hgi)) (by rw[← hei,← hej];omega) (by rw[← hei,if_neg (by omega)]) (by rw[← hej,if_pos (by omega)]) hkept
    have hi2:i≤2*n:=by have:=hmore.hi;rw[HLA.out]at this;exact this
    have hj2:j+1≤2*m:=by have:=hmore.hj;rw[HLB.out]at this;exact this
    have HMORE:=Lib.hid hmore;clear hmore hkept hei hej hF hsum
    cases kept with
    | true=>
     cases within with
     | true=>
      go_wp2_with fail;refine HEI.out.mono ?_;rintro e wr ⟨rfl,rfl⟩;go_wp2_with fail;refine HEJ.out.mono ?_;rintro e wr ⟨rfl,rfl⟩;go_wp2_with fail;refine HEI.out.mono ?_;rintro e wr ⟨rfl,rfl⟩;go_wp2_with fail;refine HEJ.out.mono ?_;rintro e wr ⟨rfl,rfl⟩;go_wp2_with fail;refine HFN.out.mono ?_;rintro e wr ⟨rfl,rfl⟩;go_wp2;go_roundw
      case rel=>exact⟨i,j+1,q,_,s,done,true,A',c',rfl,rfl,rfl,by go_num,hi2,hj2,HQ.out,Join.stays true HMORE.out,HO.out,HB.out⟩
      case measure=>simp[intOf];omega
     | false=>
      have hq:q=done.length:=HQ.out;subst hq;obtain⟨A2,c2,w2,hrun,ho2,hb2⟩:=push_run Tryz.underlying147 infoR wr w.heap.size wr.heap.size rfl HB.out.size _ done HO.out.row ej 0 (by have:=HJ.out.len;omega);have Hrun:=Lib.hid hrun;have HO2:=Lib.hid ho2;have HB2:=Lib.hid (HB.out.trans hb2);have e2:(done++[(ej,(0:Int))]).length=(rowJ done ej true).length:=rfl;rw[e2]at Hrun HO2;obtain⟨q2,hq2⟩:∃ q2,q2=(rowJ done ej true).length:=⟨_,rfl⟩;rw[← hq2]at Hrun HO2;have HQ2:=Lib.hid hq2;clear hrun ho2 hb2 e2 hq2;go_wp2_with fail;refine HEI.out.mono ?_;rintro e wr ⟨rfl,rfl⟩;go_wp2_with fail;refine HEJ.out.mono ?_;rintro e wr ⟨rfl,rfl⟩;go_wp2_with fail;refine HEI.out.mono ?_;rintro e wr ⟨rfl,rfl⟩;go_wp2_with fail;refine HEJ.out.mono ?_;rintro e wr ⟨rfl,rfl⟩;go_wp2_with fail;refine HFN.out.mono ?_;rintro e wr ⟨rfl,rfl⟩
      go_wp2_with (at_builtin;refine Lib.wpList_append_run _ rfl _ _ _ _ rfl _ _ rfl rfl _ _ Hrun.out ?_);go_roundw
      case rel=>exact⟨i,j+1,q2,_,ej,done,true,A2,c2,rfl,rfl,rfl,by go_num,hi2,hj2,HQ2.out,Join.opened HMORE.out,HO2.out,HB2.out⟩
      case measure=>simp[intOf];omega
    | false=>
     cases within with
     | true=>
      obtain⟨D,hD⟩:∃ D,D=done.length:=⟨_,rfl⟩
      have hq:q=D+1:=by rw[hD];have:=HQ.out;simpa [rowJ] using this
      subst hq
      have hD2:D≤400000:=by have:=HJ.out.len;omega
      obtain⟨g,rfl,hgb,hgl,hfz,hcell⟩:=Own.place HO.out (by omega);have hfz:=hfz (D*2+1)
      have hcl:wr.cell? ⟨g,D*2+1,none⟩=some (.int .i64 0):=by
       have:=(runsC_at (done++[(s,0)]) D (by simp[hD])).2;rw[show (done++[(s,(0:Int))])[D]'(by simp[hD])=(s,0) from by simp[hD]]at this;exact hcell _ _ this
      have HO2:Hid (Own (wr.setCell ⟨g,D*2+1,none⟩ (.int .i64 (ej-1))) w.heap.size 184 2 (some ⟨g,0,none⟩) (D+1) c' (runsC (rowJ (done++[(s,ej-1)]) s false))):=by
       rw[hD];exact own_close (by rw[← hD];exact HO.out)
      have HB2:Hid (Below w.heap.size w (wr.setCell ⟨g,D*2+1,none⟩ (.int .i64 (ej-1)))):=HB.out.setCell hgb _
      have HQ2:Hid (D+1=(rowJ (done++[(s,ej-1)]) s false).length):=by unfold Hid;rw[hD];simp[rowJ]
      clear hcell hD;go_wp2_with fail;refine HEI.out.mono ?_;rintro e wr ⟨rfl,rfl⟩;go_wp2_with fail;refine HEJ.out.mono ?_;rintro e wr ⟨rfl,rfl⟩;go_wp2_with fail;refine HEI.out.mono ?_;rintro e wr ⟨rfl,rfl⟩;go_wp2_with fail;refine HEJ.out.mono ?_;rintro e wr ⟨rfl,rfl⟩;go_wp2_with fail;refine HFN.out.mono ?_;rintro e wr ⟨rfl,rfl⟩;go_wp2;go_roundw
      case rel=>exact⟨i,j+1,D+1,_,s,done++[(s,ej-1)],false,_,c',rfl,rfl,rfl,by go_num,hi2,hj2,HQ2.out,Join.closed HMORE.out,HO2.out,HB2.out⟩
      case measure=>simp[intOf];omega
     | false=>
      go_wp2_with fail;refine HEI.out.mono ?_;rintro e wr ⟨rfl,rfl⟩;go_wp2_with fail;refine HEJ.out.mono ?_;rintro e wr ⟨rfl,rfl⟩;go_wp2_with fail;refine HEI.out.mono ?_;rintro e wr ⟨rfl,rfl⟩;go_wp2_with fail;refine HEJ.out.mono ?_;rintro e wr ⟨rfl,rfl⟩;go_wp2_with fail;refine HFN.out.mono ?_;rintro e wr ⟨rfl,rfl⟩;go_wp2;go_roundw
      case rel=>exact⟨i,j+1,q,_,s,done,false,A',c',rfl,rfl,rfl,by go_num,hi2,hj2,HQ.out,Join.stays false HMORE.out,HO.out,HB.out⟩
      case measure=>simp[intOf];omega
  ·have f0:decide ((i:Int)<2*(n:Int))=false:=decide_eq_false (by omega)
   by_cases hgj:j<2*m
   ·have f3:decide ((j:Int)<2*(m:Int))=true:=decide_eq_true (by omega)
    have hgt:ej<ei:=by
     have e1:=edge_end (l:=a) (i:=i) (by rw[HLA.out];omega);have e2:=(edge_ge HOB.out (i:=j) (by rw[HLB.out];exact hgj)).2;omega
    have f1:min ei ej=ej:=by omega
    have f2:(ei==ej)=false:=by simp;omega
    obtain⟨kept,hkept⟩:∃ k,k=f (decide ((i) % 2=1)) (decide ((j+1) % 2=1)):=⟨_,rfl⟩
    have HFN:Hid (Calls Tryz.prog F #[.bool ((i:Int) % 2==1),.bool (((j:Int)+1) % 2==1)] wr fun e w'=>e = .returned (.bool kept)∧w'=wr):=by
     rw[odd_bool i,odd_bool1 j,hkept];exact hF _ _ _
    obtain⟨hu1,hu2,hsum,hmore⟩:=HJ.out.more (i':=i) (j':=j+1) (at':=ej) (kept:=kept) HOA.out HOB.out (.inr (by rw[HLB.out];exact hgj)) (by rw[← hei,← hej];omega) (by rw[← hei,if_neg (by omega)]) (by rw[← hej,if_pos (by omega)]) hkept
    have hi2:i≤2*n:=by have:=hmore.hi;rw[HLA.out]at this;exact this
    have hj2:j+1≤2*m:=by have:=hmore.hj;rw[HLB.out]at this;exact this
    have HMORE:=Lib.hid hmore;clear hmore hkept hei hej hF hsum
    cases kept with
    | true=>
     cases within with
     | true=>
      go_wp2_with fail;refine HEI.out.mono ?_;rintro e wr ⟨rfl,rfl⟩;go_wp2_with fail;refine HEJ.out.mono ?_;rintro e wr ⟨rfl,rfl⟩;go_wp2_with fail;refine HEI.out.mono ?_;rintro e wr ⟨rfl,rfl⟩;go_wp2_with fail;refine HEJ.out.mono ?_;rintro e wr ⟨rfl,rfl⟩;go_wp2_with fail;refine HFN.out.mono ?_;rintro e wr ⟨rfl,rfl⟩;go_wp2;go_roundw
      case rel=>exact⟨i,j+1,q,_,s,done,true,A',c',rfl,rfl,rfl,by go_num,hi2,hj2,HQ.out,Join.stays true HMORE.out,HO.out,HB.out⟩
      case measure=>simp[intOf];omega
     | false=>
      have hq:q=done.length:=HQ.out;subst hq;obtain⟨A2,c2,w2,hrun,ho2,hb2⟩:=push_run Tryz.underlying147 infoR wr w.heap.size wr.heap.size rfl HB.out.size _ done HO.out.row ej 0 (by have:=HJ.out.len;omega);have Hrun:=Lib.hid hrun;have HO2:=Lib.hid ho2;have HB2:=Lib.hid (HB.out.trans hb2);have e2:(done++[(ej,(0:Int))]).length=(rowJ done ej true).length:=rfl;rw[e2]at Hrun HO2;obtain⟨q2,hq2⟩:∃ q2,q2=(rowJ done ej true).length:=⟨_,rfl⟩;rw[← hq2]at Hrun HO2;have HQ2:=Lib.hid hq2;clear hrun ho2 hb2 e2 hq2;go_wp2_with fail;refine HEI.out.mono ?_;rintro e wr ⟨rfl,rfl⟩;go_wp2_with fail;refine HEJ.out.mono ?_;rintro e wr ⟨rfl,rfl⟩;go_wp2_with fail;refine HEI.out.mono ?_;rintro e wr ⟨rfl,rfl⟩;go_wp2_with fail;refine HEJ.out.mono ?_;rintro e wr ⟨rfl,rfl⟩;go_wp2_with fail;refine HFN.out.mono ?_;rintro e wr ⟨rfl,rfl⟩
      go_wp2_with (at_builtin;refine Lib.wpList_append_run _ rfl _ _ _ _ rfl _ _ rfl rfl _ _ Hrun.out ?_);go_roundw
      case rel=>exact⟨i,j+1,q2,_,ej,done,true,A2,c2,rfl,rfl,rfl,by go_num,hi2,hj2,HQ2.out,Join.opened HMORE.out,HO2.out,HB2.out⟩
      case measure=>simp[intOf];omega
    | false=>
     cases within with
     | true=>
      obtain⟨D,hD⟩:∃ D,D=done.length:=⟨_,rfl⟩
      have hq:q=D+1:=by rw[hD];have:=HQ.out;simpa [rowJ] using this
      subst hq
      have hD2:D≤400000:=by have:=HJ.out.len;omega
      obtain⟨g,rfl,hgb,hgl,hfz,hcell⟩:=Own.place HO.out (by omega);have hfz:=hfz (D*2+1)
      have hcl:wr.cell? ⟨g,D*2+1,none⟩=some (.int .i64 0):=by
       have:=(runsC_at (done++[(s,0)]) D (by simp[hD])).2;rw[show (done++[(s,(0:Int))])[D]'(by simp[hD])=(s,0) from by simp[hD]]at this;exact hcell _ _ this
      have HO2:Hid (Own (wr.setCell ⟨g,D*2+1,none⟩ (.int .i64 (ej-1))) w.heap.size 184 2 (some ⟨g,0,none⟩) (D+1) c' (runsC (rowJ (done++[(s,ej-1)]) s false))):=by
       rw[hD];exact own_close (by rw[← hD];exact HO.out)
      have HB2:Hid (Below w.heap.size w (wr.setCell ⟨g,D*2+1,none⟩ (.int .i64 (ej-1)))):=HB.out.setCell hgb _
      have HQ2:Hid (D+1=(rowJ (done++[(s,ej-1)]) s false).length):=by unfold Hid;rw[hD];simp[rowJ]
      clear hcell hD;go_wp2_with fail;refine HEI.out.mono ?_;rintro e wr ⟨rfl,rfl⟩;go_wp2_with fail;refine HEJ.out.mono ?_;rintro e wr ⟨rfl,rfl⟩;go_wp2_with fail;refine HEI.out.mono ?_;rintro e wr ⟨rfl,rfl⟩;go_wp2_with fail;refine HEJ.out.mono ?_;rintro e wr ⟨rfl,rfl⟩;go_wp2_with fail;refine HFN.out.mono ?_;rintro e wr ⟨rfl,rfl⟩;go_wp2;go_roundw
      case rel=>exact⟨i,j+1,D+1,_,s,done++[(s,ej-1)],false,_,c',rfl,rfl,rfl,by go_num,hi2,hj2,HQ2.out,Join.closed HMORE.out,HO2.out,HB2.out⟩
      case measure=>simp[intOf];omega
     | false=>
      go_wp2_with fail;refine HEI.out.mono ?_;rintro e wr ⟨rfl,rfl⟩;go_wp2_with fail;refine HEJ.out.mono ?_;rintro e wr ⟨rfl,rfl⟩;go_wp2_with fail;refine HEI.out.mono ?_;rintro e wr ⟨rfl,rfl⟩;go_wp2_with fail;refine HEJ.out.mono ?_;rintro e wr ⟨rfl,rfl⟩;go_wp2_with fail;refine HFN.out.mono ?_;rintro e wr ⟨rfl,rfl⟩;go_wp2;go_roundw
      case rel=>exact⟨i,j+1,q,_,s,done,false,A',c',rfl,rfl,rfl,by go_num,hi2,hj2,HQ.out,Join.stays false HMORE.out,HO.out,HB.out⟩
      case measure=>simp[intOf];omega
   ·have f3:decide ((j:Int)<2*(m:Int))=false:=decide_eq_false (by omega)
    obtain⟨rfl,hput⟩:=HJ.out.end hf HOA.out HOB.out (by rw[HLA.out];omega) (by rw[HLB.out];omega);have hq:q=done.length:=HQ.out;subst hq;clear hei hej;go_wp2;go_ret;exact⟨done,_,_,rfl,hput,HO.out,HB.out⟩
end Sp
end Go.Proofs.YtcbpgemiffmieaaGreat
