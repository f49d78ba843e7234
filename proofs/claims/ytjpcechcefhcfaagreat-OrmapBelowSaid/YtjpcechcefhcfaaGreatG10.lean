/- Texts of the lower layers, and of layer 9, put together. -/
import Derived.Test.YtjpcechcefhcfaaGreatG00
import Derived.Test.YtjpcechcefhcfaaGreatSpan2
import Derived.RangeFuncBox
import Derived.RangeFuncLeaves
import Derived.Shelf.Abstract
import Derived.WalkKit
import Derived.OwnWalkIn
import Derived.TacticsInMore
import Derived.LoopNIn
import Derived.LoopIn
import Derived.Maps.AppendAt
import Derived.Sort.OwnSorted
import Derived.Test.YtjpcechcefhcfaaGreatTreeSearch
import Derived.Test.YtjpcechcefhcfaaGreatTreeRight
namespace Go.Proofs.YtjpcechcefhcfaaGreat
namespace Cx
open Sp
end Cx
end Go.Proofs.YtjpcechcefhcfaaGreat
namespace Go.Proofs.YtjpcechcefhcfaaGreat
open Go.ChangeShapes Go.WideShapes Go.ChangeAt Go.RowKit
namespace Sp
theorem upon_append {P:Program} {o:Oper} {a:Go.Act} {K:Go.Act→World→Prop} {Q:Exit→Go.Act→World→Prop} {w w':World} {v xv v':Value} (s x:Operand) (t:TypeId)
  (ho:o.op = .call { callee:=.builtin .append,args:=#[s,x],argTypes:=#[t,t] }) (hs:a.eval s=v) (hx:a.eval x=xv)
  (hr:(Builtin.append_ #[t,t] o.type #[v,xv]).run P w = .ok v' w') (h:K (a.put o.dst v') w'):Oper.upon P o a K Q ((execOp a.eval o).run P w):=by
 unfold execOp;simp only[ho,resolve,invoke,builtin,Sem.run_bind,Sem.run_pure,Result.andThen_ok,List.map_toArray,List.map_cons,List.map_nil,hs,hx,hr];exact h
set_option maxRecDepth 100000 in
set_option maxHeartbeats 1000000 in
theorem refhas_any (l:List (Int×Int)) (n:Nat) (A:Option Addr) (c:Nat) (w:World) (hl:l.length=n) (hn:n≤1000000) (hr:Rd w w.heap.size 2 A n c (runsC l)) (v:Int) :
  Calls Tryz.prog 81 #[.slice A n c,.int .i64 v] w fun e w'=>e = .returned (.bool (hasB l v))∧w'=w:=by
 obtain⟨z,hz⟩:∃ z,z=hasB l v:=⟨_,rfl⟩;rw[← hz];have HZ:=Lib.hid hz;have HR:=Lib.hid hr;have HL:=Lib.hid hl;clear hr hl hz;go_enter Tryz.func81,Tryz.ntmps81;go_wp2
 go_loop [8] (fun i=>∃ (k:Nat),k≤n∧i = .int .i64 k∧Hid (hasB (l.take k) v=false)) (fun i=>n-(intOf i).toNat)
 case atStart=>exact⟨0,by omega,rfl,Lib.hid (by rw[List.take_zero];rfl)⟩
 case round=>
  obtain⟨k,hk,rfl,HF⟩:=hrel
  by_cases hlt:k<n
  ·have hkl:k<l.length:=by rw[HL.out];exact hlt
   obtain⟨b,o,rfl,hbl,hc⟩:=rd_run HR.out HL.out hlt;obtain⟨q0,q1⟩:=hc k hkl;obtain⟨p,hp⟩:∃ p,p=l[k]:=⟨_,rfl⟩;have htk:l.take (k+1)=l.take k++[l[k]]:=List.take_succ_eq_append_getElem hkl;rw[← hp]at q0 q1 htk;obtain⟨x,y⟩:=p
   by_cases h1:x≤v
   ·have f1:decide (x≤v)=true:=by simpa using h1
    by_cases h2:v≤y
    ·have f2:decide (v≤y)=true:=by simpa using h2
     have HE:Hid (true=z):=by
      unfold Hid;rw[HZ.out];exact (has_true.2 ⟨(x,y),by rw[hp];exact List.getElem_mem hkl,h1,h2⟩).symm
     clear hc hp htk;go_wp2;go_ret;exact⟨ret_bool HE.out,rfl⟩
    ·have f2:decide (v≤y)=false:=by simpa using h2
     have HF2:Hid (hasB (l.take (k+1)) v=false):=by
      unfold Hid;rw[htk,has_append,HF.out];simp[hasB];omega
     clear hc hp htk;go_wp2
     go_round
     case rel=>exact⟨k+1,by omega,by go_num,HF2.out⟩
     case measure=>simp[intOf];omega
   ·have f1:decide (x≤v)=false:=by simpa using h1
    have HF2:Hid (hasB (l.take (k+1)) v=false):=by
     unfold Hid;rw[htk,has_append,HF.out];simp[hasB];omega
    clear hc hp htk;go_wp2
    go_round
    case rel=>exact⟨k+1,by omega,by go_num,HF2.out⟩
    case measure=>simp[intOf];omega
  ·have HE:Hid (false=z):=by
    unfold Hid;have:=HF.out;rw[List.take_of_length_le (by rw[HL.out];omega)]at this;rw[HZ.out,this]
   go_wp2;go_ret;exact⟨ret_bool HE.out,rfl⟩
def endsL (l:List (Int×Int)):List Int:=l.flatMap fun r=>[r.1,r.2+1]
theorem endsL_snoc (l:List (Int×Int)) (r:Int×Int):endsL (l++[r])=endsL l++[r.1,r.2+1]:=by simp[endsL]
theorem endsL_len (l:List (Int×Int)):(endsL l).length=l.length*2:=by
 induction l with
 | nil=>rfl
 | cons r l ih=>
  have:endsL (r::l)=r.1::(r.2+1)::endsL l:=rfl;rw[this];simp[ih];omega
def nstep (above:Int) (acc:Option Int) (x:Int):Option Int:=if above<x∧(∀ b,acc=some b→x<b)then some x else acc
def nextL (above:Int) (l:List Int):Option Int:=l.foldl (nstep above) none
theorem nextL_snoc (above:Int) (l:List Int) (x:Int):nextL above (l++[x])=nstep above (nextL above l) x:=by unfold nextL;rw[List.foldl_append];rfl
def NextIs (above:Int) (l:List Int):Option Int→Prop
 | none=>∀ x∈l,x≤above
 | some t=>t∈l∧above<t∧∀ x∈l,above<x→t≤x
theorem nextL_is (above:Int) (l:List Int):NextIs above l (nextL above l):=by
 have key:∀ k,k≤l.length→NextIs above (l.take k) (nextL above (l.take k)):=by
  intro k
  induction k with
  | zero=>intro _;simp[nextL,NextIs]
  | succ k ih=>
   intro hk;have ih:=ih (by omega);rw[List.take_succ_eq_append_getElem (by omega),nextL_snoc];obtain⟨d,hd⟩:∃ d,d=l[k]:=⟨_,rfl⟩;obtain⟨acc,hacc⟩:∃ acc,acc=nextL above (l.take k):=⟨_,rfl⟩;rw[← hd,← hacc];rw[← hacc]at ih;unfold nstep
   by_cases h:above<d∧(∀ b,acc=some b→d<b)
   ·rw[if_pos h]
    refine⟨by simp,h.1,fun x hx hax=>?_⟩
    rcases List.mem_append.1 hx with hx | hx
    ·cases acc with
     | none=>have:=ih x hx;omega
     | some b=>have:=ih.2.2 x hx hax;have:=h.2 b rfl;omega
    ·rw[List.mem_singleton.1 hx];omega
   ·rw[if_neg h]
    cases acc with
    | none=>
     intro x hx
     rcases List.mem_append.1 hx with hx | hx
     ·exact ih x hx
     ·rw[List.mem_singleton.1 hx]
      have:¬above<d:=fun hlt=>h ⟨hlt,by simp⟩;omega
    | some b=>
     refine⟨List.mem_append_left _ ih.1,ih.2.1,fun x hx hax=>?_⟩
     rcases List.mem_append.1 hx with hx | hx
     ·exact ih.2.2 x hx hax
     ·rw[List.mem_singleton.1 hx]at hax ⊢
      have:¬d<b:=fun hlt=>h ⟨hax,fun b' e=>by injection e with e;omega⟩;omega
 have:=key l.length (Nat.le_refl _)
 rwa [List.take_of_length_le (Nat.le_refl _)]at this
set_option maxRecDepth 100000 in
set_option maxHeartbeats 1000000 in
theorem next_any (l:List Int) (n:Nat) (A:Option Addr) (c:Nat) (w:World) (hl:l.length=n) (hn:n≤1000000) (hr:Rd w w.heap.size 1 A n c (intsC l)) (v:Int) :
  Calls Tryz.prog 103 #[.slice A n c,.int .i64 v] w fun e w'=>e = .returned (.tuple #[.int .i64 ((nextL v l).getD 0),.bool (nextL v l).isSome])∧w'=w:=by
 obtain⟨z,hz⟩:∃ z,z=nextL v l:=⟨_,rfl⟩;rw[← hz];obtain⟨zb,hzb⟩:∃ x,x=z.getD 0:=⟨_,rfl⟩;obtain⟨zo,hzo⟩:∃ x,x=z.isSome:=⟨_,rfl⟩;rw[← hzb,← hzo];have HZB:=Lib.hid hzb;have HZO:=Lib.hid hzo;have HZ:=Lib.hid hz;have HR:=Lib.hid hr;have HL:=Lib.hid hl;clear hr hl hz hzb hzo;go_enter Tryz.func103,Tryz.ntmps103;go_wp2
 go_loop [6,7,11] (fun b s i=>∃ (k:Nat) (best:Int) (ok:Bool),k≤n∧b = .int .i64 best∧s = .bool ok∧i = .int .i64 k∧Hid (best=(nextL v (l.take k)).getD 0∧ok=(nextL v (l.take k)).isSome)) (fun _ _ i=>n-(intOf i).toNat)
 case atStart=>exact⟨0,0,false,by omega,rfl,rfl,rfl,Lib.hid (by rw[List.take_zero];exact⟨rfl,rfl⟩)⟩
 case round=>
  obtain⟨k,best,ok,hk,rfl,rfl,rfl,HF⟩:=hrel
  by_cases hlt:k<n
  ·have hkl:k<l.length:=by rw[HL.out];exact hlt
   obtain⟨b,o,rfl,hbl,hc⟩:=rd_int HR.out HL.out hlt;have q0:=hc k hkl
   have htk:nextL v (l.take (k+1))=nstep v (nextL v (l.take k)) l[k]:=by rw[List.take_succ_eq_append_getElem hkl,nextL_snoc]
   obtain⟨x,hx⟩:∃ x,x=l[k]:=⟨_,rfl⟩;obtain⟨acc,hacc⟩:∃ acc,acc=nextL v (l.take k):=⟨_,rfl⟩;rw[← hx]at q0 htk;rw[← hacc]at htk HF
   have hyes:nstep v acc x=some x→Hid (x=(nextL v (l.take (k+1))).getD 0∧true=(nextL v (l.take (k+1))).isSome):=fun e=>by
    unfold Hid;rw[htk,e];exact⟨rfl,rfl⟩
   have hno:nstep v acc x=acc→Hid (best=(nextL v (l.take (k+1))).getD 0∧ok=(nextL v (l.take (k+1))).isSome):=fun e=>by
    unfold Hid;rw[htk,e];exact HF.out
   clear hc hx htk hacc
   by_cases h1:v<x
   ·have f1:decide (v<x)=true:=by simpa using h1
    cases acc with
    | none=>
     have hok:ok=false:=HF.out.2;subst hok;have HY:=hyes (by unfold nstep;rw[if_pos ⟨h1,by simp⟩]);clear hyes hno;go_wp2
     go_round
     case rel=>exact⟨k+1,x,true,by omega,rfl,rfl,by go_num,HY.out⟩
     case measure=>simp[intOf];omega
    | some b0=>
     have hok:ok=true:=HF.out.2;have hb0:best=b0:=HF.out.1;subst hok;subst hb0
     by_cases h2:x<best
     ·have f2:decide (x<best)=true:=by simpa using h2
      have HY:=hyes (by unfold nstep;rw[if_pos ⟨h1,fun b' e=>by injection e with e;omega⟩]);clear hyes hno;go_wp2
      go_round
      case rel=>exact⟨k+1,x,true,by omega,rfl,rfl,by go_num,HY.out⟩
      case measure=>simp[intOf];omega
     ·have f2:decide (x<best)=false:=by simpa using h2
      have HY:=hno (by unfold nstep;rw[if_neg (fun h=>h2 (h.2 best rfl))]);clear hyes hno;go_wp2
      go_round
      case rel=>exact⟨k+1,best,true,by omega,rfl,rfl,by go_num,HY.out⟩
      case measure=>simp[intOf];omega
   ·have f1:decide (v<x)=false:=by simpa using h1
    have HY:=hno (by unfold nstep;rw[if_neg (fun h=>h1 h.1)]);clear hyes hno;go_wp2
    go_round
    case rel=>exact⟨k+1,best,ok,by omega,rfl,rfl,by go_num,HY.out⟩
    case measure=>simp[intOf];omega
  ·have HE:Hid (best=z.getD 0∧ok=z.isSome):=by
    have:=HF.out;rw[List.take_of_length_le (by rw[HL.out];omega)]at this;unfold Hid;rw[HZ.out];exact this
   have hE:best=zb∧ok=zo:=by rw[HZB.out,HZO.out];exact HE.out
   clear HE HZB HZO HF;obtain⟨rfl,rfl⟩:=hE;go_wp2;go_ret2;exact⟨rfl,rfl⟩
set_option maxRecDepth 100000 in
set_option maxHeartbeats 1000000 in
theorem ends_any (l:List (Int×Int)) (n:Nat) (A:Option Addr) (c:Nat) (w:World) (hl:l.length=n) (hn:n≤1000) (hr:Rd w w.heap.size 2 A n c (runsC l)) (hR:RightF 1 l) :
  Calls Tryz.prog 120 #[.slice A n c] w fun e w'=>∃ A' c',e = .returned (.slice A' (n*2) c')∧Own w' w.heap.size 2 1 A' (n*2) c' (intsC (endsL l))∧Below w.heap.size w w':=by
 have HR:=Lib.hid hr;have HL:=Lib.hid hl;have HO:=Lib.hid hR;clear hr hl hR;go_enter Tryz.func120,Tryz.ntmps120;go_wp2
 go_loopw [3,7] (fun v i wr=>∃ (k m:Nat) (A':Option Addr) (c':Nat),k≤n∧v = .slice A' m c'∧i = .int .i64 k∧Hid (m=k*2)∧Hid (Own wr w.heap.size 2 1 A' m c' (intsC (endsL (l.take k))))∧Hid (Below w.heap.size w wr)) (fun _ i _=>n-(intOf i).toNat)
 case atStart=>exact⟨0,0,none,0,by omega,rfl,rfl,rfl,⟨World.ownsRow_nil _ _ _ _,by simp[endsL,intsC]⟩,Below.refl _ _⟩
 case round=>
  obtain⟨k,m,A',c',hk,rfl,rfl,HM,HOW,HB⟩:=hrel
  by_cases hlt:k<n
  ·have hkl:k<l.length:=by rw[HL.out];exact hlt
   obtain⟨b,o,rfl,hbl,hc⟩:=rd_run HR.out HL.out hlt;obtain⟨q0,q1⟩:=hc k hkl;have htk:l.take (k+1)=l.take k++[l[k]]:=List.take_succ_eq_append_getElem hkl;have hm:=HO.out.mem l[k] (List.getElem_mem hkl);obtain⟨p,hp⟩:∃ p,p=l[k]:=⟨_,rfl⟩;rw[← hp]at q0 q1 htk hm;obtain⟨x,y⟩:=p;obtain⟨hm1,hm2,hm3⟩:=hm;dsimp only at hm1 hm2 hm3;have q0:=(HB.out.cell (p:=⟨b,o+k*2,none⟩) hbl).trans q0;have q1:=(HB.out.cell (p:=⟨b,o+k*2+1,none⟩) hbl).trans q1
   obtain⟨v2,w2,hrun,ho2,hb2⟩:=run_push Tryz.underlying112 infoI rfl (by omega) (by omega) wr.drew w.heap.size wr.heap.size (by simp) (by have:=HB.out.size;simp;omega) _ m _ (ownsRow_later HOW.out.row (Below.refl _ _).drew) [.int .i64 x,.int .i64 (y+1)] 2 rfl (by intro u hu;simp at hu;rcases hu with rfl | rfl <;> rfl) (by have:=HM.out;omega)
   have e2:intsC (endsL (l.take k))++[.int .i64 x,.int .i64 (y+1)]=intsC (endsL (l.take (k+1))):=by rw[htk,endsL_snoc,intsC_append];rfl
   rw[e2]at ho2;obtain⟨A2,c2,rfl,ho3⟩:=Own.of_row ho2 (intsC_one _);have Hrun:=Lib.hid hrun;have HO2:=Lib.hid ho3;have HB2:=Lib.hid ((HB.out.drew).trans hb2)
   have HM2:Hid (m+2=(k+1)*2):=by unfold Hid;have:=HM.out;omega
   have hwy:IntKind.i64.wrap (y+1)=y+1:=IntWalk.i64_in _ (by omega);clear hc hp hrun ho2 ho3 hb2 htk e2 HOW;go_wp2
   go_region_law (refine upon_append _ _ _ rfl rfl rfl Hrun.out ?_)
   all_goals
    clear Hrun q0 q1;go_wp2;go_roundw
    case rel=>exact⟨k+1,m+2,A2,c2,by omega,rfl,by go_num,HM2.out,HO2.out,HB2.out⟩
    case measure=>simp[intOf];omega
  ·obtain rfl:k=n:=by omega
   have HE:Hid (l.take k=l):=List.take_of_length_le (by rw[HL.out];omega);rw[HE.out]at HOW;have hm:=HM.out;subst hm;go_wp2;go_ret;exact⟨_,_,rfl,HOW.out,HB.out⟩
end Sp
end Go.Proofs.YtjpcechcefhcfaaGreat
namespace Go.Proofs.YtjpcechcefhcfaaGreat
open Go.ChangeShapes Go.WideShapes Go.ChangeAt Go.RowKit
namespace Sp
set_option maxHeartbeats 400000 in
theorem within_any (x y v:Int) (p:Nat) (w:World) (hv:w.cell? ⟨p,0,none⟩=some (.int .i64 v)) :
  Calls Tryz.prog 155 #[.agg #[.int .i64 x,.int .i64 y],.pointer (some ⟨p,0,none⟩)] w fun e w'=>e = .returned (.bool (decide (x≤v∧v≤y)))∧Below w.heap.size w w':=by
 have hp:p<w.heap.size:=World.block_lt_of_cell? w _ hv;have HB:=Lib.hid ((Below.refl w.heap.size w).alloc (Nat.le_refl _) (.cells #[.int .i64 x,.int .i64 y] 166));have hv2:(w.alloc (.cells #[.int .i64 x,.int .i64 y] 166)).cell? ⟨p,0,none⟩=some (.int .i64 v):=(HB.out.cell (p:=⟨p,0,none⟩) hp).trans hv
 by_cases h1:x≤v
 ·have f1:decide (x≤v)=true:=by simpa using h1
  by_cases h2:v≤y
  ·have f2:decide (v≤y)=true:=by simpa using h2
   go_enter Tryz.func155,Tryz.ntmps155;go_wp2;go_ret;exact⟨ret_bool (by simp[h1,h2]),HB.out⟩
  ·have f2:decide (v≤y)=false:=by simpa using h2
   go_enter Tryz.func155,Tryz.ntmps155;go_wp2;go_ret;exact⟨ret_bool (by simp),HB.out⟩
 ·have f1:decide (x≤v)=false:=by simpa using h1
  go_enter Tryz.func155,Tryz.ntmps155;go_wp2;go_ret;exact⟨ret_bool (by simp),HB.out⟩
def FoundIs (l:List (Int×Int)) (v:Int) (w:World) (e:Ending) (w':World):Prop:=∃ z:Int,e = .returned (.int .i64 z)∧decide (0≤z)=hasB l v∧Below w.heap.size w w'
set_option maxRecDepth 100000 in
set_option maxHeartbeats 1000000 in
theorem find_any (l:List (Int×Int)) (n:Nat) (A:Option Addr) (c:Nat) (v:Int) (p:Nat) (w:World) (hl:l.length=n) (hn:n≤1000000) (hr:Rd w w.heap.size 2 A n c (runsC l)) (hv:w.cell? ⟨p,0,none⟩=some (.int .i64 v)) :
  Calls Tryz.prog 175 #[.slice A n c,.func (.func 155) #[] #[.pointer (some ⟨p,0,none⟩)]] w (FoundIs l v w):=by
 have hp:p<w.heap.size:=World.block_lt_of_cell? w _ hv;have HR:=Lib.hid hr;have HL:=Lib.hid hl;have HV:=Lib.hid hv;clear hr hl hv;go_enter Tryz.func175,Tryz.ntmps175;go_wp2
 go_loopw [8] (fun i wr=>∃ (k:Nat),k≤n∧i = .int .i64 k∧Hid (hasB (l.take k) v=false)∧Hid (Below w.heap.size w wr)) (fun i _=>n-(intOf i).toNat)
 case atStart=>exact⟨0,by omega,rfl,Lib.hid (by rw[List.take_zero];rfl),Below.refl _ _⟩
 case round=>
  obtain⟨k,hk,rfl,HF,HB⟩:=hrel
  by_cases hlt:k<n
  ·have hkl:k<l.length:=by rw[HL.out];exact hlt
   obtain⟨b,o,rfl,hbl,hc⟩:=rd_run HR.out HL.out hlt;obtain⟨q0,q1⟩:=hc k hkl;have htk:l.take (k+1)=l.take k++[l[k]]:=List.take_succ_eq_append_getElem hkl;obtain⟨r,hr⟩:∃ r,r=l[k]:=⟨_,rfl⟩;rw[← hr]at q0 q1 htk;obtain⟨x,y⟩:=r;have q0:=(HB.out.cell (p:=⟨b,o+k*2,none⟩) hbl).trans q0;have q1:=(HB.out.cell (p:=⟨b,o+k*2+1,none⟩) hbl).trans q1;have HC:=Lib.hid (within_any x y v p wr ((HB.out.cell (p:=⟨p,0,none⟩) hp).trans HV.out))
   by_cases h:x≤v∧v≤y
   ·rw[decide_eq_true h]at HC
    have HE:Hid (true=hasB l v):=(has_true.2 ⟨(x,y),by rw[hr];exact List.getElem_mem hkl,h.1,h.2⟩).symm;clear hc hr htk;go_wp2_with (go_at_call 155;refine HC.out.mono ?_;rintro e w1 ⟨rfl,hb1⟩);go_ret;exact⟨k,rfl,by rw[← HE.out];exact decide_eq_true (by omega),HB.out.trans (hb1.mono HB.out.size)⟩
   ·rw[decide_eq_false h]at HC
    have HF2:Hid (hasB (l.take (k+1)) v=false):=by
     unfold Hid;rw[htk,has_append,HF.out];simp[hasB];omega
    clear hc hr htk;go_wp2_with (go_at_call 155;refine HC.out.mono ?_;rintro e w1 ⟨rfl,hb1⟩;have HB2:=Lib.hid (HB.out.trans (hb1.mono HB.out.size));clear hb1);go_roundw
    case rel=>exact⟨k+1,by omega,by go_num,HF2.out,HB2.out⟩
    case measure=>simp[intOf];omega
  ·have HE:Hid (false=hasB l v):=by
    unfold Hid;have:=HF.out;rw[List.take_of_length_le (by rw[HL.out];omega)]at this;exact this.symm
   go_wp2;go_ret;exact⟨-1,rfl,by rw[← HE.out];rfl,HB.out⟩
theorem contains_any (l:List (Int×Int)) (n:Nat) (A:Option Addr) (c:Nat) (v:Int) (p:Nat) (w:World) (hl:l.length=n) (hn:n≤1000000) (hr:Rd w w.heap.size 2 A n c (runsC l)) (hv:w.cell? ⟨p,0,none⟩=some (.int .i64 v)) :
  Calls Tryz.prog 154 #[.slice A n c,.func (.func 155) #[] #[.pointer (some ⟨p,0,none⟩)]] w fun e w'=>e = .returned (.bool (hasB l v))∧Below w.heap.size w w':=by
 have HC:=Lib.hid (find_any l n A c v p w hl hn hr hv);clear hr hl hv;go_enter Tryz.func154,Tryz.ntmps154;go_wp2_with (go_at_call 175;refine HC.out.mono ?_;rintro e w1 ⟨z,rfl,hz,hb1⟩);go_ret;exact⟨ret_bool rfl,hb1⟩
set_option maxHeartbeats 400000 in
theorem has_any (l:List (Int×Int)) (n:Nat) (A:Option Addr) (c:Nat) (v:Int) (w:World) (hl:l.length=n) (hn:n≤1000000) (hr:Rd w w.heap.size 2 A n c (runsC l)) :
  Calls Tryz.prog 145 #[.slice A n c,.int .i64 v] w fun e w'=>e = .returned (.bool (rightB l&&hasB l v))∧Below w.heap.size w w':=by
 obtain⟨p,hp⟩:∃ p,p=w.heap.size:=⟨_,rfl⟩;obtain⟨W,hW⟩:∃ W,W=w.alloc (.cells #[.int .i64 v] 2):=⟨_,rfl⟩
 have HK:Hid (Kept [(⟨p,0,none⟩,.int .i64 v)] w W):=by
  rw[hW,hp];exact ((Kept.nil w).alloc _).cons_of (by go_simp)
 have HR:Hid (Rd W W.heap.size 2 A n c (runsC l)):=by
  rw[hW];exact (hr.alloc (Nat.le_refl _) _).more (by simp)
 have HRT:=Lib.hid (right_any l n A c W hl hn HR.out);have HL:=Lib.hid hl;have HP:=Lib.hid hp;have HW:=Lib.hid hW;clear hr hl hp hW
 cases hb:rightB l with
 | false=>
  rw[hb]at HRT;clear hb;go_enter Tryz.func145,Tryz.ntmps145;go_wp2_with fail;rw[← HP.out,← HW.out];refine (calls_kept HRT.out HK).mono ?_;rintro e w1 ⟨rfl,HK1⟩;go_wp2;go_ret;exact⟨rfl,HK1.out.below⟩
 | true=>
  rw[hb]at HRT;clear hb;go_enter Tryz.func145,Tryz.ntmps145;go_wp2_with fail;rw[← HP.out,← HW.out];refine HRT.out.mono ?_;rintro e w1 ⟨rfl,hb1⟩;have HK1:=Lib.hid (HK.out.later hb1);have HR1:=Lib.hid (HR.out.later hb1);clear hb1;have HC:=Lib.hid (contains_any l n A c v p w1 HL.out hn HR1.out HK1.out.c0);go_wp2_with (go_at_call 154;refine (calls_kept HC.out HK1).mono ?_;rintro e w2 ⟨rfl,HK2⟩);go_ret;exact⟨ret_bool (Bool.true_and _).symm,HK2.out.below⟩
end Sp
end Go.Proofs.YtjpcechcefhcfaaGreat
namespace Go.Proofs.YtjpcechcefhcfaaGreat
open Go.RowKit
namespace Sp
theorem run_apps {w:World} {base n m c c':Nat} {A A':Option Addr} {xs ys:List Int} (ho:Own w base 2 1 A n c (intsC xs)) (hr:Rd w w.heap.size 1 A' m c' (intsC ys)) (hn:n+m≤1000000) (hb:base≤w.heap.size) :
  ∃ A2 c2 w2,(Builtin.append_ #[112,112] 112 #[.slice A n c,.slice A' m c']).run Tryz.prog w = .ok (.slice A2 (n+m) c2) w2∧Own w2 base 2 1 A2 (n+m) c2 (intsC (xs++ys))∧Below base w w2:=by
 obtain⟨i0,hi0,hz0,hz1,hz2⟩:=info_of infoI;obtain⟨v',w',h1,h2,h3,h4⟩:=run_app (P:=Tryz.prog) w base 112 112 2 i0 _ 1 8 Tryz.underlying112 hi0 hz0 hz1 hz2 rfl (by omega) ho.row hr hn (by omega) hb;rw[← intsC_append]at h2;obtain⟨A2,c2,rfl,h5⟩:=Own.of_row h2 (intsC_one _);exact⟨A2,c2,w',h1,h5,(Below.refl base w).grown h3 hb (fun k hk=>(ho.row.lt k hk).1)⟩
theorem nil_or_snoc (l:List (Int×Int)):l=[]∨∃ d r,l=d++[r]:=by
 by_cases h:l=[]
 ·exact .inl h
 ·exact .inr ⟨_,_,(List.dropLast_concat_getLast h).symm⟩
theorem ends_mem {l:List (Int×Int)} {r:Int×Int} (h:r∈l):r.1∈endsL l∧r.2+1∈endsL l:=⟨List.mem_flatMap.2 ⟨r,h,by simp⟩,List.mem_flatMap.2 ⟨r,h,by simp⟩⟩
theorem has_between {l:List (Int×Int)} {u n:Int} (hu:u≤n) (h:∀ x∈endsL l,u<x→n<x):hasB l n=hasB l u:=by
 have key:∀ r∈l,(r.1≤n∧n≤r.2)↔(r.1≤u∧u≤r.2):=fun r hr=>by
  obtain⟨m1,m2⟩:=ends_mem hr;have h1:=h _ m1;have h2:=h _ m2;omega
 cases hx:hasB l u with
 | true=>
  obtain⟨r,hr,h2⟩:=has_true.1 hx;exact has_true.2 ⟨r,hr,(key r hr).2 h2⟩
 | false=>exact has_false.2 fun r hr h2=>has_false.1 hx r hr ((key r hr).1 h2)
theorem cnt_step:∀ {L:List Int} {t u:Int},t∈L→t<u→L.countP (fun x=>decide (x<t))+1≤L.countP (fun x=>decide (x<u))
 | [],_,_,h,_=>by simp at h
 | x::L,t,u,h,hu=>by
  have mono:L.countP (fun x=>decide (x<t))≤L.countP (fun x=>decide (x<u)):=List.countP_mono_left (fun y _ hy=>by simp at hy ⊢;omega);rw[List.countP_cons,List.countP_cons]
  by_cases hx:x=t
  ·subst hx
   have e1:decide (x<x)=false:=by simp
   have e2:decide (x<u)=true:=by simpa using hu
   simp only[e1,e2,if_true,Bool.false_eq_true,if_false];omega
  ·have h':t∈L:=by
    rcases List.mem_cons.1 h with h | h
    ·exact absurd h.symm hx
    ·exact h
   have ih:=cnt_step h' hu
   by_cases h1:x<t
   ·have e1:decide (x<t)=true:=by simpa using h1
    have e2:decide (x<u)=true:=by simp;omega
    simp only[e1,e2,if_true];omega
   ·have e1:decide (x<t)=false:=by simpa using h1
    simp only[e1,Bool.false_eq_true,if_false]
    split <;> omega
theorem ends_bounds {l:List (Int×Int)} (h:RightF 1 l) {x:Int} (hx:x∈endsL l):1≤x∧x≤1099511627777:=by
 obtain⟨r,hr,hx⟩:=List.mem_flatMap.1 hx;have:=h.mem r hr
 simp at hx
 omega
structure ByInv (f:Bool→Bool→Bool) (a b out:List (Int×Int)) (t:Int) (ok:Bool):Prop where
 right:RightF 1 out
 on:ok=true→t∈endsL a++endsL b∧1≤t∧t≤1099511627777∧(∀ r∈out,r.2<t)∧(∀ n,n<t→hasB out n=f (hasB a n) (hasB b n))∧out.length≤(endsL a++endsL b).countP (fun x=>decide (x<t))
 off:ok=false→∀ n,hasB out n=f (hasB a n) (hasB b n)
theorem between_both {a b:List (Int×Int)} {u n:Int} (hu:u≤n) (h:∀ x∈endsL a++endsL b,u<x→n<x):hasB a n=hasB a u∧hasB b n=hasB b u:=
 ⟨has_between hu fun x hx=>h x (List.mem_append_left _ hx),has_between hu fun x hx=>h x (List.mem_append_right _ hx)⟩
theorem ByInv.zero {f:Bool→Bool→Bool} (hf:f false false=false) {a b:List (Int×Int)} (ha:RightF 1 a) (hb:RightF 1 b):ByInv f a b [] ((nextL 0 (endsL a++endsL b)).getD 0) (nextL 0 (endsL a++endsL b)).isSome:=by
 have hN:=nextL_is 0 (endsL a++endsL b);have h0:∀ n,n≤0→hasB a n=false∧hasB b n=false:=fun n hn=>⟨has_lt ha (by omega),has_lt hb (by omega)⟩
 cases hx:nextL 0 (endsL a++endsL b)with
 | none=>
  rw[hx]at hN;refine⟨trivial,fun h=>(by cases h),fun _ n=>?_⟩
  rcases (by omega:n≤0∨0<n)with hn | hn
  ·rw[(h0 n hn).1,(h0 n hn).2,hf];rfl
  ·obtain⟨e1,e2⟩:=between_both (a:=a) (b:=b) (u:=0) (n:=n) (by omega) (fun x hx h=>by have:=hN x hx;omega)
   rw[e1,e2,(h0 0 (by omega)).1,(h0 0 (by omega)).2,hf];rfl
 | some t=>
  rw[hx]at hN;obtain⟨h1,h2,h3⟩:=hN
  have hb':1≤t∧t≤1099511627777:=by
   rcases List.mem_append.1 h1 with h | h
   ·exact ends_bounds ha h
   ·exact ends_bounds hb h
  refine⟨trivial,fun _=>⟨h1,hb'.1,hb'.2,by simp,fun n hn=>?_,Nat.zero_le _⟩,fun h=>by cases h⟩;show hasB [] n=_
  rcases (by omega:n≤0∨0<n)with hn0 | hn0
  ·rw[(h0 n hn0).1,(h0 n hn0).2,hf];rfl
  ·obtain⟨e1,e2⟩:=between_both (a:=a) (b:=b) (u:=0) (n:=n) (by omega) (fun x hx h=>by have:=h3 x hx h;have hn:n<t:=hn;omega)
   rw[e1,e2,(h0 0 (by omega)).1,(h0 0 (by omega)).2,hf];rfl
section
variable {f:Bool→Bool→Bool} {a b out:List (Int×Int)} {t:Int}
theorem ByInv.last (hf:f false false=false) (ha:RightF 1 a) (hb:RightF 1 b) (h:ByInv f a b out t true) (hN:nextL t (endsL a++endsL b)=none):f (hasB a t) (hasB b t)=false∧∀ u,ByInv f a b out u false:=by
 have hN':=nextL_is t (endsL a++endsL b);rw[hN]at hN';obtain⟨h1,h2,h3,h4,h5,h6⟩:=h.on rfl;have hbt:∀ n,t≤n→hasB a n=hasB a t∧hasB b n=hasB b t:=fun n hn=>between_both hn (fun x hx h=>by have:=hN' x hx;omega)
 have hz:f (hasB a t) (hasB b t)=false:=by
  obtain⟨e1,e2⟩:=hbt 1099511627778 (by omega);rw[← e1,← e2,has_gt ha (by omega),has_gt hb (by omega),hf]
 refine⟨hz,fun u=>⟨h.right,fun h=>(by cases h),fun _ n=>?_⟩⟩
 rcases (by omega:n<t∨t≤n)with hn | hn
 ·exact h5 n hn
 ·obtain⟨e1,e2⟩:=hbt n hn
  rw[e1,e2,hz]
  exact has_false.2 fun r hr=>by have:=h4 r hr;omega
theorem ByInv.next {u:Int} (ha:RightF 1 a) (hb:RightF 1 b) (h:ByInv f a b out t true) (hN:nextL t (endsL a++endsL b)=some u) :
  t<u∧1≤t∧u≤1099511627777∧(f (hasB a t) (hasB b t)=false→ByInv f a b out u true) ∧
  (f (hasB a t) (hasB b t)=true→(∀ r∈out,r.2+2≤t)→ByInv f a b (out++[(t,u-1)]) u true) ∧
  (f (hasB a t) (hasB b t)=true→∀ d s,out=d++[(s,t-1)]→ByInv f a b (d++[(s,u-1)]) u true):=by
 have hN':=nextL_is t (endsL a++endsL b);rw[hN]at hN';obtain⟨g1,g2,g3⟩:=hN';obtain⟨h1,h2,h3,h4,h5,h6⟩:=h.on rfl;have hbt:∀ n,t≤n→n<u→hasB a n=hasB a t∧hasB b n=hasB b t:=fun n hn hnu=>between_both hn (fun x hx h=>by have:=g3 x hx h;omega)
 have hub:1≤u∧u≤1099511627777:=by
  rcases List.mem_append.1 g1 with h | h
  ·exact ends_bounds ha h
  ·exact ends_bounds hb h
 have hcnt:=cnt_step h1 g2
 have hno:∀ n,t≤n→hasB out n=false:=fun n hn=>has_false.2 fun r hr=>by have:=h4 r hr;omega
 refine⟨g2,h2,hub.2,fun hin=>?_,fun hin hgap=>?_,fun hin d s hd=>?_⟩
 ·refine⟨h.right,fun _=>⟨g1,hub.1,hub.2,fun r hr=>by have:=h4 r hr;omega,fun n hn=>?_,by omega⟩,fun h=>by cases h⟩
  rcases (by omega:n<t∨t≤n)with hn' | hn'
  ·exact h5 n hn'
  ·obtain⟨e1,e2⟩:=hbt n hn' hn
   rw[e1,e2,hin,hno n hn']
 ·refine⟨h.right.snoc hgap h2 (by show t≤u-1;omega) (by show u-1≤_;omega),fun _=>⟨g1,hub.1,hub.2,fun r hr=>?_,fun n hn=>?_,by rw[List.length_append,List.length_singleton];omega⟩,fun h=>by cases h⟩
  ·rcases List.mem_append.1 hr with hr | hr
   ·have:=h4 r hr;omega
   ·rw[List.mem_singleton.1 hr];show u-1<u;omega
  ·rw[has_append,has_cons,has_nil,Bool.or_false]
   rcases (by omega:n<t∨t≤n)with hn' | hn'
   ·have e:decide (t≤n∧n≤u-1)=false:=by simp;omega
    rw[e,Bool.or_false];exact h5 n hn'
   ·obtain⟨e1,e2⟩:=hbt n hn' hn
    have e:decide (t≤n∧n≤u-1)=true:=by simp;omega
    rw[e1,e2,hin,e,Bool.or_true]
 ·subst hd
  obtain⟨k1,k2,k3,k4,k5⟩:=h.right.of_snoc;dsimp only at k2 k3 k4 k5;refine⟨k1.snoc k2 k3 (by show s≤u-1;omega) (by show u-1≤_;omega),fun _=>⟨g1,hub.1,hub.2,fun r hr=>?_,fun n hn=>?_,by rw[List.length_append,List.length_singleton]at h6 ⊢;omega⟩,fun h=>by cases h⟩
  ·rcases List.mem_append.1 hr with hr | hr
   ·have:=h4 r (List.mem_append_left _ hr);omega
   ·rw[List.mem_singleton.1 hr];show u-1<u;omega
  ·rw[has_append,has_cons,has_nil,Bool.or_false]
   rcases (by omega:n<t∨t≤n)with hn' | hn'
   ·have e5:=h5 n hn'
    rw[has_append,has_cons,has_nil,Bool.or_false]at e5
    have e:decide (s≤n∧n≤u-1)=decide (s≤n∧n≤t-1):=by
     congr 1
     exact propext ⟨fun h=>⟨h.1,by omega⟩,fun h=>⟨h.1,by omega⟩⟩
    rw[e];exact e5
   ·obtain⟨e1,e2⟩:=hbt n hn' hn
    have e:decide (s≤n∧n≤u-1)=true:=by simp;omega
    rw[e1,e2,hin,e,Bool.or_true]
end
structure OfInv (ns:List Int) (out:List (Int×Int)) (t:Int) (ok:Bool):Prop where
 right:RightF 1 out
 on:ok=true→t∈ns∧(∀ r∈out,r.2<t)∧(∀ n,hasB out n=true↔(n∈ns∧n<t))∧out.length≤ns.countP (fun x=>decide (x<t))
 off:ok=false→∀ n,hasB out n=true↔n∈ns
theorem OfInv.zero {ns:List Int} (hb:∀ x∈ns,1≤x∧x≤1099511627776):OfInv ns [] ((nextL 0 ns).getD 0) (nextL 0 ns).isSome:=by
 have hN:=nextL_is 0 ns
 cases hx:nextL 0 ns with
 | none=>
  rw[hx]at hN;refine⟨trivial,fun h=>(by cases h),fun _ n=>⟨fun h=>(by cases h),fun h=>?_⟩⟩;have:=hN n h;have:=hb n h;omega
 | some t=>
  rw[hx]at hN;obtain⟨h1,h2,h3⟩:=hN;refine⟨trivial,fun _=>⟨h1,by simp,fun n=>⟨fun h=>(by cases h),fun h=>?_⟩,Nat.zero_le _⟩,fun h=>by cases h⟩;have h':n<t:=h.2;have:=h3 n h.1 (by have:=hb n h.1;omega);omega
section
variable {ns:List Int} {out:List (Int×Int)} {t:Int}
theorem OfInv.one (_hb:∀ x∈ns,1≤x∧x≤1099511627776) (h:OfInv ns out t true) (out':List (Int×Int)) (hr:RightF 1 out') (he:∀ r∈out',r.2≤t) (hh:∀ n,hasB out' n=(hasB out n||decide (n=t))) (hl:out'.length≤out.length+1) :
  OfInv ns out' ((nextL t ns).getD 0) (nextL t ns).isSome:=by
 have hN:=nextL_is t ns;obtain⟨h1,h2,h3,h4⟩:=h.on rfl
 have key:∀ n,hasB out' n=true↔(n∈ns∧n≤t):=fun n=>by
  rw[hh,Bool.or_eq_true,h3 n,decide_eq_true_eq];constructor
  ·rintro (h | rfl)
   ·exact⟨h.1,by omega⟩
   ·exact⟨h1,Int.le_refl _⟩
  ·rintro⟨ha,hb⟩
   rcases (by omega:n<t∨n=t)with h | h
   ·exact .inl ⟨ha,h⟩
   ·exact .inr h
 cases hx:nextL t ns with
 | none=>
  rw[hx]at hN;refine⟨hr,fun h=>(by cases h),fun _ n=>(key n).trans ⟨fun h=>h.1,fun h=>⟨h,hN n h⟩⟩⟩
 | some u=>
  rw[hx]at hN;obtain⟨g1,g2,g3⟩:=hN;have hcnt:=cnt_step h1 g2;refine⟨hr,fun _=>⟨g1,fun r hr=>?_,fun n=>(key n).trans ⟨fun h=>⟨h.1,?_⟩,fun h=>⟨h.1,?_⟩⟩,?_⟩,fun h=>by cases h⟩
  ·have:=he r hr
   show r.2<u;omega
  ·show n<u
   omega
  ·have h':n<u:=h.2
   rcases (by omega:n≤t∨t<n)with h2 | h2
   ·exact h2
   ·have:=g3 n h.1 h2;omega
  ·show out'.length≤ns.countP (fun x=>decide (x<u))
   omega
theorem OfInv.push (hb:∀ x∈ns,1≤x∧x≤1099511627776) (h:OfInv ns out t true) (hg:∀ r∈out,r.2+2≤t):OfInv ns (out++[(t,t)]) ((nextL t ns).getD 0) (nextL t ns).isSome:=by
 obtain⟨h1,h2,h3,h4⟩:=h.on rfl;have hbt:=hb t h1;refine h.one hb _ (h.right.snoc hg hbt.1 (Int.le_refl _) hbt.2) (fun r hr=>?_) (fun n=>?_) (by simp)
 ·rcases List.mem_append.1 hr with hr | hr
  ·have:=h2 r hr;omega
  ·rw[List.mem_singleton.1 hr];exact Int.le_refl _
 ·rw[has_append,has_cons,has_nil,Bool.or_false]
  congr 2
  exact propext ⟨fun h=>by dsimp only at h;omega,fun h=>⟨by dsimp only;omega,by dsimp only;omega⟩⟩
theorem OfInv.grow {d:List (Int×Int)} {s:Int} (hb:∀ x∈ns,1≤x∧x≤1099511627776) (h:OfInv ns (d++[(s,t-1)]) t true):OfInv ns (d++[(s,t)]) ((nextL t ns).getD 0) (nextL t ns).isSome:=by
 obtain⟨h1,h2,h3,h4⟩:=h.on rfl;have hbt:=hb t h1;obtain⟨k1,k2,k3,k4,k5⟩:=h.right.of_snoc;dsimp only at k2 k3 k4 k5;refine h.one hb _ (k1.snoc k2 k3 (by show s≤t;omega) hbt.2) (fun r hr=>?_) (fun n=>?_) (by simp)
 ·rcases List.mem_append.1 hr with hr | hr
  ·have:=h2 r (List.mem_append_left _ hr);omega
  ·rw[List.mem_singleton.1 hr];exact Int.le_refl _
 ·rw[has_append,has_append,has_cons,has_cons,has_nil,Bool.or_false,Bool.or_false,Bool.or_assoc]
  congr 1
  rw[← Bool.decide_or]
  congr 1
  exact propext ⟨fun h=>by dsimp only at h ⊢;omega,fun h=>by dsimp only at h ⊢;omega⟩
end
end Sp
end Go.Proofs.YtjpcechcefhcfaaGreat
namespace Go.Proofs.YtjpcechcefhcfaaGreat
open Go.RowKit Go.Shelf
namespace Tr
open Sp Rw
attribute [local go_sem] Oper.semAt_some

def upto {α:Type} (f:Nat→α) (k:Nat):List α:=(List.range k).map f
theorem upto_succ {α:Type} (f:Nat→α) (k:Nat):upto f (k+1)=upto f k++[f k]:=by simp[upto,List.range_succ]
theorem upto_length {α:Type} (f:Nat→α) (k:Nat):(upto f k).length=k:=by simp[upto]
def TextsAt (n₀:Nat) (W:World) (A:Option Addr) (len:Nat) (f:Nat→ByteArray):Prop:=∀ j,j<len→∃ b o,A=some ⟨b,o,none⟩∧b<n₀∧W.cell? ⟨b,o+j,none⟩=some (.string (f j))
theorem TextsAt.below {n₀:Nat} {W W':World} {A:Option Addr} {len:Nat} {f:Nat→ByteArray} (h:TextsAt n₀ W A len f) (hb:Below n₀ W W'):TextsAt n₀ W' A len f:=fun j hj=>by
 obtain⟨b,o,e,hlt,hc⟩:=h j hj;exact⟨b,o,e,hlt,(hb.cell (p:=⟨b,o+j,none⟩) hlt).trans hc⟩
theorem TextsAt.of_rd {W:World} {B:Nat} {A:Option Addr} {n c:Nat} {l:List ByteArray} (h:Rd W B 1 A n c (strs l)):TextsAt B W A n (fun j=>l[j]?.getD ByteArray.empty):=fun j hj=>by
 obtain⟨b,o,e,hb,hc⟩:=h.at_ (by omega)
 have hl:l.length=n:=by have:=h.len;simpa [strs] using this
 exact⟨b,o,e,hb,hc j _ (by simp[strs,show j<l.length by omega])⟩
theorem upto_get (l:List ByteArray) {n:Nat} (h:l.length=n):upto (fun j=>l[j]?.getD ByteArray.empty) n=l:=by
 subst h
 apply List.ext_getElem
 ·simp[upto]
 ·intro i h1 h2
  simp[upto,h2]

set_option maxRecDepth 100000 in
set_option maxHeartbeats 2000000 in
theorem values1_in (F:Fence) (n:Nat) (h7:F.fn 135) (hro:F.round=none) (hn:1≤n) (l Bs n₀ len cap:Nat) (A:Option Addr) (f:Nat→ByteArray) (hreach:len≤1000000) (J Jx:List ByteArray→World→Prop)
  (hY:∀ pre x W,J pre W→pre.length<len→YieldAt F (n-1) Tryz.prog l #[.string x] W fun e W'=>
   (e = .returned (.bool true)∧J (pre++[x]) W'∧Below n₀ W W')∨(e = .returned (.bool false)∧Jx (pre++[x]) W'))
  (W:World) (hBs:W.cell? ⟨Bs,0,none⟩=some (.slice A len cap)) (hc:TextsAt n₀ W A len f) (h0:J [] W) :
  CallsIn F n Tryz.prog 135 #[.func (.yield l) #[] #[],.pointer (some ⟨Bs,0,none⟩)] W fun e W'=>(∃ v,e = .returned v) ∧
   ((∃ ys,ys=upto f len∧J ys W')∨(∃ pre,(∃ k,k≤len∧pre=upto f k)∧Jx pre W')):=by
 have HC:=Lib.hid hc;clear hc;refine callsIn_of_wp Tryz.func135 rfl h7 ?_ hro;simp only[Tryz.ntmps135,List.size_toArray,List.length_cons,List.length_nil,Nat.reduceAdd,Nat.reduceSub,Array.replicate_succ,Array.replicate_zero,List.push_toArray,List.append_toArray,List.nil_append,List.cons_append]
 gi_wp2
 gi_loopw [7] (fun i wr=>∃ k:Nat,k≤len∧i = .int .i64 k∧J (upto f k) wr∧Below n₀ W wr)
  (fun i _=>len-(intOf i).toNat)
 case atStart=>exact⟨0,Nat.zero_le _,rfl,h0,Below.refl _ _⟩
 case round=>
  obtain⟨k,hk,rfl,hJs,hnx⟩:=hrel
  by_cases hlt:k<len
  ·obtain⟨b,o,rfl,hb,hcx⟩:=(HC.out.below hnx) k hlt
   obtain⟨fn,tmps,assign,body,hy,hR⟩:=hY _ (f k) wr hJs (by rw[upto_length];exact hlt)
   gi_wp2
   refine hR.mono ?_;rintro e W3 (⟨rfl,hJ3,hk3⟩ | ⟨rfl,hJx3⟩)
   ·gi_wp2
    go_roundw
    case rel=>exact⟨k+1,by omega,by simp,by rw[upto_succ];exact hJ3,hnx.trans hk3⟩
    case measure=>simp[intOf];omega
   ·gi_wp2
    refine bodyPost_ret (results_none rfl _ _ _) rfl ?_;exact⟨⟨_,rfl⟩,.inr ⟨_,⟨k+1,by omega,(upto_succ _ _).symm⟩,hJx3⟩⟩
  ·obtain rfl:k=len:=by omega
   gi_wp2
   go_end0
   exact⟨⟨_,rfl⟩,.inl ⟨_,rfl,hJs⟩⟩
theorem values_stops (F:Fence) (n:Nat) (h7:F.fn 135) (hro:F.round=none) (hn:1≤n) (Bs n₀ len cap:Nat) (A:Option Addr) (f:Nat→ByteArray) (hreach:len≤1000000) (w:World) (hBs:Bs<w.heap.size) (hn₀:n₀≤w.heap.size)
  (hc:w.cell? ⟨Bs,0,none⟩=some (.slice A len cap)) (hI:TextsAt n₀ w A len f) :
  SeqStopsK F n Tryz.prog 135 #[.pointer (some ⟨Bs,0,none⟩)] (fun x:ByteArray=>#[Value.string x]) (Below n₀) (fun ys=>ys=upto f len) (fun pre=>∃ k,k≤len∧pre=upto f k) len w:=fun l J Jx W hW _ _ hY h0=>
 values1_in F n h7 hro hn l Bs n₀ len cap A f hreach J Jx hY W ((hW.cell (p:=⟨Bs,0,none⟩) hBs).trans hc) (hI.below (hW.mono hn₀)) h0

theorem infoS:(Tryz.prog.info? 9).map (fun i=>(i.zero,i.size,i.bytes))=some (some (.string ⟨#[]⟩),1,16):=by kernel_rfl
set_option maxRecDepth 100000 in
set_option maxHeartbeats 4000000 in
theorem appendSeq_in (F:Fence) (n:Nat) (h3:F.fn 149) (h5:F.fn 135) (hro:F.round=none) (hn:3≤n) (Bs len cap:Nat) (A:Option Addr) (f:Nat→ByteArray) (hreach:len≤1000000) (w:World)
  (hBs:Bs<w.heap.size) (hc0:w.cell? ⟨Bs,0,none⟩=some (.slice A len cap)) (hI:TextsAt w.heap.size w A len f) :
  CallsIn F n Tryz.prog 149 #[.slice none 0 0,.func (.func 135) #[] #[.pointer (some ⟨Bs,0,none⟩)]] w fun e W'=>∃ v,e = .returned v∧W'.ownsRow w.heap.size 9 1 v (upto f len).length ((upto f len).map Value.string)∧Below w.heap.size w W':=by
 have h1:1≤n:=by omega
 obtain⟨i0,hi,hz0,hz1,hz2⟩:=info_parts infoS;refine callsIn_of_wp_marks Tryz.func149 rfl h3 ?_ hro;simp only[Tryz.ntmps149,List.size_toArray,List.length_cons,List.length_nil,Nat.reduceAdd,Nat.reduceSub,Array.replicate_succ,Array.replicate_zero,List.push_toArray,List.append_toArray,List.nil_append,List.cons_append]
 gi_wp2
 have bO:=Boxed.new w 44 (.slice none 0 0);have hB0:Below w.heap.size w (w.alloc (.cells #[.slice none 0 0] 44)):=(Below.refl _ w).alloc (Nat.le_refl _) _
 refine wpIn_rangeFunc_ownG hro h1 (gf:=135) (lb:=#[.pointer (some ⟨Bs,0,none⟩)]) rfl h5 (enters_of Tryz.func135 (by kernel_rfl) rfl)
  (values_stops F (n-1) h5 hro (by omega) Bs w.heap.size len cap A f hreach _ (by simp;omega) (by simp) ((hB0.cell (p:=⟨Bs,0,none⟩) hBs).trans hc0) (hI.below hB0)) belowK_t (belowK_b (by simp)) (Below.refl _ _) (fun _=>rfl)
  (fun pre W=>(∃ v,Boxed W w.heap.size 44 v∧W.ownsRow w.heap.size 9 1 v pre.length (pre.map Value.string)∧True)∧Below w.heap.size w W)
  (fun _ _ _=>False)
  (OwnFrom.and (Own.from (holdsRow_own w.heap.size w.heap.size 44 9 1 (fun pre:List ByteArray=>pre.length) (fun pre=>pre.map Value.string) (fun _ _=>True)) _) (ownFrom_below (Nat.le_refl _) (by simp)))
  (fun _ _ _ _ _ hs _ _=>hs)
  ⟨⟨_,bO,World.ownsRow_nil _ _ _ _,trivial⟩,hB0⟩
  (fun x=>{ tmps:=#[.slice none 0 0,.func (.func 135) #[] #[.pointer (some ⟨Bs,0,none⟩)],.pointer (some ⟨w.heap.size,0,none⟩),undef,.slice none 0 0,.string x,.func (.func 135) #[] #[.pointer (some ⟨Bs,0,none⟩)],.string x,undef,undef,undef,undef,undef],defers:=[] }) ?assign ?body ?done ?stop
 case assign=>
  intro l x W K hK
  gi_wp2
  exact hK
 case body=>
  rintro l pre x W ⟨⟨v,hv,hrow,_⟩,hB⟩ hlt;have hc:=hv.cell
  gi_wp2_with (gi_at_builtin;refine wpListIn_append_own _ rfl _ _ 44 rfl w.heap.size 9 i0 (.string ⟨#[]⟩) 1 16 Tryz.underlying44 hi hz0 hz1 hz2 rfl (by decide) _ _ _ rfl (hrow.alloc _) ⟨W.heap.size,0,none⟩ 1 1 [.string x] rfl rfl (cell_one_new _ _ _) (by simp[Value.oneCell']) (by have:maxLen=9223372036854775807:=rfl;omega) (by omega) (by have:=hB.size;simp;omega) ?_;intro v' w1 hown' hgrow _;obtain⟨g',cap',rfl⟩:=ownsRow_succ hown';obtain⟨hv1,hv2,hr2,hk2,hb2⟩:=hv.appended (by decide) hrow hB.size (Nat.le_refl _) hown' hgrow;have hc1:=hv1.cell;have hf1:=hv1.frozen)
  exact⟨hk2.from _,hb2,⟨_,hv2,by simpa using hr2,trivial⟩,hB.trans hb2⟩
 case done=>
  rintro D ys W hD rfl ⟨⟨v,hv,hrow,_⟩,hB⟩ hK;have hc:=hv.cell
  gi_wp2
  refine⟨by simp,.inl ⟨_,_,rfl,run_takeDeferred hK,?_⟩⟩;exact⟨_,results_tmp rfl _ _ _,v,rfl,ownsRow_putObj hrow _ hK rfl,hB.trans (belowK_b (w:=w) (Nat.le_refl _) W D _ _ (by simp at hD;omega) hK rfl rfl)⟩
 case stop=>
  rintro D c pre W _ _ h _;exact h.elim
theorem appendSeq_any (Bs len cap:Nat) (A:Option Addr) (l:List ByteArray) (w:World) (hl:l.length=len) (hreach:len≤1000000) (hc0:w.cell? ⟨Bs,0,none⟩=some (.slice A len cap)) (hr:Rd w w.heap.size 1 A len cap (strs l)) :
  Calls Tryz.prog 149 #[.slice none 0 0,.func (.func 135) #[] #[.pointer (some ⟨Bs,0,none⟩)]] w fun e W'=>∃ A' c',e = .returned (.slice A' len c')∧Own W' w.heap.size 9 1 A' len c' (strs l)∧Below w.heap.size w W':=by
 refine callsIn_wide.1 ((appendSeq_in Fence.wide 6 trivial trivial rfl (by omega) Bs len cap A _ hreach w (World.block_lt_of_cell? w _ hc0) hc0 (TextsAt.of_rd hr)).mono ?_);rintro e W' ⟨v,rfl,hrow,hb⟩;rw[upto_get l hl,hl]at hrow;obtain⟨A',c',rfl,ho⟩:=Own.of_row hrow (strs_one l);exact⟨A',c',rfl,ho,hb⟩
theorem collect_any (Bs len cap:Nat) (A:Option Addr) (l:List ByteArray) (w:World) (hl:l.length=len) (hreach:len≤1000000) (hc0:w.cell? ⟨Bs,0,none⟩=some (.slice A len cap)) (hr:Rd w w.heap.size 1 A len cap (strs l)) :
  Calls Tryz.prog 133 #[.func (.func 135) #[] #[.pointer (some ⟨Bs,0,none⟩)]] w fun e W'=>∃ A' c',e = .returned (.slice A' len c')∧Own W' w.heap.size 9 1 A' len c' (strs l)∧Below w.heap.size w W':=by
 have HC:=Lib.hid (appendSeq_any Bs len cap A l w hl hreach hc0 hr);clear hl hreach hc0 hr;go_enter Tryz.func133,Tryz.ntmps133;go_wp2_with fail;refine HC.out.mono ?_;rintro e W' ⟨A',c',rfl,ho,hb⟩;have HO:=Lib.hid ho;have HB:=Lib.hid hb;clear ho hb;go_wp2_with fail;go_ret;exact⟨A',c',rfl,HO.out,HB.out⟩
end Tr
end Go.Proofs.YtjpcechcefhcfaaGreat
namespace Go.Proofs.YtjpcechcefhcfaaGreat
open Go.RowKit Go.Shelf Go.Sort
namespace Tr
open Sp Rw
theorem lt_bytes:∀ x y:List UInt8,x<y↔Op.bytesLess x y=true
  | [],[]=>by simp[Op.bytesLess]
  | [],_::_=>by simp[Op.bytesLess]
  | _::_,[]=>by simp[Op.bytesLess]
  | x::a,y::b=>by
    rw[List.cons_lt_cons_iff,lt_bytes a b];simp[Op.bytesLess]
theorem le_bytes (x y:List UInt8):decide (x≤y) = !Op.bytesLess y x:=by
  have h:=lt_bytes y x;have h2:x≤y↔¬y<x:=Iff.rfl
  cases hb:Op.bytesLess y x with
  | true => rw [decide_eq_false]; · rfl
            rw[h2,h,hb];simp
  | false => rw [decide_eq_true]; · rfl
             rw[h2,h,hb];simp
def toL (b:ByteArray):List UInt8:=b.data.toList
def ofL (l:List UInt8):ByteArray:=⟨l.toArray⟩
theorem of_to (b:ByteArray):ofL (toL b)=b:=by unfold ofL toL;rw[Array.toArray_toList]
theorem to_of (l:List UInt8):toL (ofL l)=l:=rfl
def sortS (l:List ByteArray):List ByteArray:=((l.map toL).mergeSort fun x y=>decide (x≤y)).map ofL
theorem sortS_len (l:List ByteArray):(sortS l).length=l.length:=by unfold sortS;rw[List.length_map,List.length_mergeSort,List.length_map]
theorem sortS_mem {l:List ByteArray} {x:ByteArray} : x∈sortS l↔x∈l:=by
  unfold sortS;constructor
  · intro h
    obtain⟨y,hy,rfl⟩:=List.mem_map.1 h;obtain⟨z,hz,rfl⟩:=List.mem_map.1 (List.mem_mergeSort.1 hy);rw[of_to];exact hz
  · intro h
    refine List.mem_map.2 ⟨toL x,List.mem_mergeSort.2 (List.mem_map.2 ⟨x,h,rfl⟩),of_to x⟩
theorem sortS_rise (l:List ByteArray):(sortS l).Pairwise fun a b=>¬ltS b a:=by
  unfold sortS;rw[List.pairwise_map];refine (List.pairwise_mergeSort (fun a b c h1 h2=>?_) (fun a b=>?_) (l.map toL)).imp fun {a b} h=>?_
  · rw[le_bytes]at h1 h2 ⊢
    simp only[Bool.not_eq_true']at h1 h2 ⊢
    cases h3:Op.bytesLess c a with
    | false=>rfl
    | true=>
      rcases bytesLess_tri a b with h4 | h4 | h4
      · have:=bytesLess_tr c a b h3 h4;rw[h2]at this;cases this
      · subst h4;rw[h2]at h3;cases h3
      · rw[h1]at h4;cases h4
  · rw[le_bytes,le_bytes]
    cases h3:Op.bytesLess b a with
    | false=>rfl
    | true=>
      cases h4:Op.bytesLess a b with
      | false=>rfl
      | true=>
        have:=bytesLess_tr a b a h4 h3;rw[bytesLess_irr]at this
        cases this
  · rw[le_bytes]at h
    unfold ltS;rw[ByteArray.toList_eq,ByteArray.toList_eq];show ¬Op.bytesLess (toL (ofL b)) (toL (ofL a))=true;rw[to_of,to_of];intro h2;rw[h2]at h
    cases h
theorem strs_enc (l:List ByteArray):strs l=(l.map toL).map encStr:=by
  unfold strs;rw[List.map_map];refine List.map_congr_left fun b _=>?_;show Value.string b=Value.string (ofL (toL b));rw[of_to]
theorem sortS_enc (l:List ByteArray):strs (sortS l)=((l.map toL).mergeSort fun x y=>decide (x≤y)).map encStr:=by
  unfold strs sortS;rw[List.map_map];rfl
theorem sortS_own (l:List ByteArray) (n:Nat) (A:Option Addr) (c base:Nat) (w:World) (hl:l.length=n) (hn:n≤900000) (ho:Own w base 9 1 A n c (strs l)) (hb:base≤w.heap.size) :
    Calls Tryz.prog 134 #[.slice A n c] w fun e w'=>e = .returned (.tuple #[])∧Own w' base 9 1 A n c (strs (sortS l))∧Below base w w':=by
  rcases Nat.eq_zero_or_pos n with h0 | h0
  · subst h0
    have:l=[]:=List.eq_nil_of_length_eq_zero hl;subst this;refine (Go.Proofs.AnyG.slices_Sort_string_none sortS_lay A c w).mono ?_;rintro e w' ⟨rfl,rfl⟩;exact⟨rfl,by rw[show sortS []=[] from by unfold sortS;simp];exact ho,Below.refl _ _⟩
  · subst hl
    rcases ho.row.2 with ⟨_,h⟩ | ⟨g,cap,cur,hv,hg,hh,h1,h2,h3,h4⟩
    · omega
    · injection hv with e1 _ e3
      subst e1;subst e3;rw[Nat.mul_one,strs_enc]at h4;have hs:=Go.Proofs.AnyG.slices_Sort_string sortS_lay g 0 c (l.map toL) w (holds_of_block hh (by simpa using h4)) (Array.getElem?_eq_some_iff.1 hh).1 (by rw[List.length_map];omega);rw[List.length_map]at hs;refine hs.mono ?_;rintro e w' ⟨rfl,k,os,rfl⟩;refine⟨rfl,⟨?_,strs_one _⟩,(Below.refl base w).grown (grownBy_sorted _) hb (fun k hk=>by injection hk with hk;omega)⟩;rw[sortS_enc];have:=ownsRow_sorted (n:=k) (os:=os) (ss:=l.map toL) (ts:=(l.map toL).mergeSort fun x y=>decide (x≤y)) (List.length_mergeSort _) hg hh (by rw[List.length_map];exact h1) h2 h3;rw[List.length_map]at this;exact this
theorem sorted_any (Bs len cap:Nat) (A:Option Addr) (l:List ByteArray) (w:World) (hl:l.length=len) (hreach:len≤900000) (hc0:w.cell? ⟨Bs,0,none⟩=some (.slice A len cap)) (hr:Rd w w.heap.size 1 A len cap (strs l)) :
    Calls Tryz.prog 109 #[.func (.func 135) #[] #[.pointer (some ⟨Bs,0,none⟩)]] w fun e W'=>∃ A' c',e = .returned (.slice A' len c')∧Own W' w.heap.size 9 1 A' len c' (strs (sortS l))∧Below w.heap.size w W':=by
  have HC:=Lib.hid (collect_any Bs len cap A l w hl (by omega) hc0 hr);have HL:=Lib.hid hl;clear hl hc0 hr;go_enter Tryz.func109,Tryz.ntmps109;go_wp2_with fail;refine HC.out.mono ?_;rintro e W1 ⟨A',c',rfl,ho,hb⟩;have HS:=Lib.hid (sortS_own l len A' c' w.heap.size W1 HL.out hreach ho hb.size);have HB:=Lib.hid hb;clear ho hb;go_wp2_with fail;refine HS.out.mono ?_;rintro e W2 ⟨rfl,ho,hb⟩;have HO:=Lib.hid ho;have HB2:=Lib.hid (HB.out.trans hb);clear ho hb;go_wp2_with fail;go_ret;exact⟨A',c',rfl,HO.out,HB2.out⟩
end Tr
end Go.Proofs.YtjpcechcefhcfaaGreat
set_option maxRecDepth 100000
set_option maxHeartbeats 4000000
namespace Go.Proofs.YtjpcechcefhcfaaGreat
open Go.ChangeShapes Go.WideShapes Go.ChangeAt Go.RowKit
namespace Tr
open Sp Rw
theorem infoE:(Tryz.prog.info? 61).map (fun i=>(i.zero,i.size,i.bytes))=some (some (.agg #[.int .i64 0,.int .i64 0,.string ⟨#[]⟩,.int .i64 0]),4,40):=by kernel_rfl
theorem infoK:(Tryz.prog.info? 73).map (fun i=>(i.zero,i.size,i.bytes))=some (some (.agg #[.string ⟨#[]⟩,.slice none 0 0,.slice none 0 0]),3,64):=by kernel_rfl
theorem values_any (A:Option Addr) (n c:Nat) (w:World):Calls Tryz.prog 110 #[.slice A n c] w fun e w'=>e = .returned (.func (.func 135) #[] #[.pointer (some ⟨w.heap.size,0,none⟩)])∧w'=w.alloc (.cells #[.slice A n c] 44):=by
 go_enter Tryz.func110,Tryz.ntmps110;go_wp2;go_ret;exact⟨rfl,rfl⟩
open Classical in
noncomputable def inB (l:List ByteArray) (k:ByteArray):Bool:=decide (k∈l)
open Classical in
theorem inB_iff {l:List ByteArray} {k:ByteArray} : inB l k=true↔k∈l:=decide_eq_true_iff
theorem inB_nil (k:ByteArray):inB [] k=false:=by
 cases h:inB [] k with
 | false=>rfl
 | true=>exact absurd (inB_iff.1 h) (by simp)
theorem keepK_succ (f:ByteArray→Bool) {ks:List (ByteArray×T)} {k:Nat} (h:k<ks.length):keepK f (ks.take (k+1))=if f (ks[k]).1 then keepK f (ks.take k)++[ks[k]]else keepK f (ks.take k):=by
 unfold keepK;rw[List.take_succ_eq_append_getElem h,List.filter_append,List.filter_cons,List.filter_nil]
 split <;> simp
theorem keepK_all (ks:List (ByteArray×T)) {f:ByteArray→Bool} (h:∀ k,f k=true):keepK f ks=ks:=by
 unfold keepK;rw[List.filter_eq_self];exact fun k _=>h k.1
set_option maxHeartbeats 800000 in
theorem entries_any (es:List E) (ks:List (ByteArray×T)) (Ae Ak:Option Addr) (ne nk ce ck:Nat) (w:World) (hn:ne≤900000) (hr:RdT w w.heap.size (.mk es ks) ⟨Ae,ne,ce⟩ ⟨Ak,nk,ck⟩) :
  Calls Tryz.prog 90 #[.agg #[.slice Ae ne ce,.slice Ak nk ck]] w fun e w'=>∃ A' c',e = .returned (.slice A' ne c')∧Own w' w.heap.size 61 4 A' ne c' (entsC es)∧Below w.heap.size w w':=by
 have hbx:Below w.heap.size w (w.alloc (.cells #[.slice Ae ne ce,.slice Ak nk ck] 25)):=Dt.box_below _ _ _;have hr2:=hr;rw[rdT_mk]at hr2;have hre:=(hr2.2.1.below hbx).more hbx.size;have hle:=hr2.1;clear hr hr2;dsimp only at hre hle;obtain⟨W,hW⟩:∃ W,W=w.alloc (.cells #[.slice Ae ne ce,.slice Ak nk ck] 25):=⟨_,rfl⟩;rw[← hW]at hre hbx;obtain⟨i0,hi0,hz0,hz1,hz2⟩:=info_of infoE;obtain⟨v',w',r1,r2,r3,_⟩:=run_app (P:=Tryz.prog) W w.heap.size 22 22 61 i0 _ 4 40 Tryz.underlying22 hi0 hz0 hz1 hz2 rfl (by omega) (v:=.slice none 0 0) (n:=0) (xs:=[]) (World.ownsRow_nil _ _ _ _) hre (by omega) (by omega) hbx.size;rw[List.nil_append,Nat.zero_add]at r2;obtain⟨A',c',rfl,ho⟩:=Own.of_row r2 (fun u hu=>hre.one u hu);have HO:=Lib.hid ho
 have HB:=Lib.hid (hbx.grown r3 hbx.size (fun k hk=>by simp[Value.ownBlock]at hk));have Hrun:=Lib.hid r1;have HW:=Lib.hid hW;clear hre r1 r2 r3 ho hbx hW hle;go_enter Tryz.func90,Tryz.ntmps90;go_wp2_with (at_builtin;rw[← HW.out];refine Lib.wpList_append_run _ rfl _ _ _ _ rfl _ _ rfl rfl _ _ Hrun.out ?_);go_ret;exact⟨A',c',rfl,HO.out,HB.out⟩
def CopyIs (t:T) (ne nk:Nat) (w:World) (e:Ending) (w':World):Prop:=∃ Ae ce Ak ck,e = .returned (.agg #[.slice Ae ne ce,.slice Ak nk ck])∧RdO w' (fun b=>w.heap.size≤b) t ⟨Ae,ne,ce⟩ ⟨Ak,nk,ck⟩∧Below w.heap.size w w'
def KidsIs (f:ByteArray→Bool) (ks:List (ByteArray×T)) (w:World) (e:Ending) (w':World):Prop:=∃ base A m c kr,e = .returned (.slice A m c)∧w.heap.size≤base∧base≤w'.heap.size∧KidRow w' base 73 A m c (keepK f ks) kr∧Below w.heap.size w w'
theorem kids_of (es:List E) (ks:List (ByteArray×T)) (ih:∀ k∈ks,∀ (Ae Ak:Option Addr) (ne nk ce ck:Nat) (w:World),nodes k.2≤100000→RdT w w.heap.size k.2 ⟨Ae,ne,ce⟩ ⟨Ak,nk,ck⟩→Calls Tryz.prog 60 #[.agg #[.slice Ae ne ce,.slice Ak nk ck]] w (CopyIs k.2 ne nk w))
  (l:List ByteArray) (A:Option Addr) (n c:Nat) (am:Bool) (Ae Ak:Option Addr) (ne nk ce ck:Nat) (w:World) (hl:l.length=n) (hn5:n≤100000) (hrk:Rd w w.heap.size 1 A n c (strs l)) (hn:nodes (.mk es ks)≤100000) (hr:RdT w w.heap.size (.mk es ks) ⟨Ae,ne,ce⟩ ⟨Ak,nk,ck⟩) :
  Calls Tryz.prog 91 #[.agg #[.slice Ae ne ce,.slice Ak nk ck],.slice A n c,.bool am] w (KidsIs (fun k=>inB l k==am) ks w):=by
 obtain⟨hle,hlk⟩:=rd_lens hr;have HR:=Lib.hid hr;have HLE:=Lib.hid hle;have HLK:=Lib.hid hlk;clear hle hlk hr;have HIH:=Lib.hid ih;have HN:=Lib.hid hn;have HL:=Lib.hid hl
 have hnk:nk≤100000:=by have:=nodes_es es ks;have:=HLK.out;omega
 have HRK:=Lib.hid hrk;obtain⟨f,hf⟩:∃ f:ByteArray→Bool,f=fun k=>inB l k==am:=⟨_,rfl⟩;rw[← hf];have HF:=Lib.hid hf;clear ih hn hl hrk hf;obtain⟨g,hg⟩:∃ g,g=w.heap.size:=⟨_,rfl⟩;have HK:=Lib.hid (tree_box w Ae Ak ne nk ce ck);rw[← hg]at HK;obtain⟨W0,hW0⟩:∃ W,W=w.alloc (.cells #[.slice Ae ne ce,.slice Ak nk ck] 25):=⟨_,rfl⟩;rw[← hW0]at HK;have HG:=Lib.hid hg;have HW0:=Lib.hid hW0;have k0:=HK.out.c0;have k1:=HK.out.c1;clear hg hW0;go_enter Tryz.func91,Tryz.ntmps91;go_wp2_with fail;rw[← HG.out,← HW0.out];refine (values_any A n c W0).mono ?_;rintro e w1 ⟨rfl,hw1⟩
 have hb1:Below W0.heap.size W0 w1:=by rw[hw1];exact (Below.refl _ _).alloc (Nat.le_refl _) _
 have HK1:=Lib.hid (HK.out.later hb1)
 have hbx:w1.cell? ⟨W0.heap.size,0,none⟩=some (.slice A n c):=by rw[hw1];go_simp
 have HSO:=Lib.hid (sorted_any W0.heap.size n c A l w1 HL.out (by omega) hbx ((HRK.out.below HK1.out.below).more HK1.out.below.size));clear hb1 hw1 hbx k0 k1;go_wp2_with fail;refine HSO.out.mono ?_;rintro e w2 ⟨As,cs,rfl,hos,hb2⟩;have HK2:=Lib.hid (HK1.out.later hb2);have HSR:=Lib.hid hos.rd;have k0:=HK2.out.c0;have k1:=HK2.out.c1;clear hos hb2 HSO;go_wp2_with fail
 go_loopw [8,19] (fun s i wr=>∃ (k:Nat) (Ax:Option Addr) (m cx:Nat) (kr:List (ByteArray×SV×SV)),k≤nk∧i = .int .i64 k∧s = .slice Ax m cx∧m≤k∧Hid (KidRow wr w2.heap.size 73 Ax m cx (keepK f (ks.take k)) kr)∧Hid (Below w2.heap.size w2 wr)) (fun _ i _=>nk-(intOf i).toNat)
 case atStart=>exact⟨0,none,0,0,[],by omega,rfl,rfl,by omega,KidRow.nil _ _ _,Below.refl _ _⟩
 case round=>
  obtain⟨k,Ax,m,cx,kr,hk,rfl,rfl,hmk,HKR,HBW⟩:=hrel;have HKW:=Lib.hid (HK2.out.later HBW.out);clear k0 k1;have k0:=HKW.out.c0;have k1:=HKW.out.c1
  by_cases hlt:k<nk
  ·have hkl:k<ks.length:=by rw[HLK.out];exact hlt
   obtain⟨b,o,rfl,hb,hc⟩:=rd_kid HR.out (by omega);obtain⟨⟨Ae',ne',ce'⟩,⟨Ak',nk',ck'⟩,c0,c1,c2,hkid⟩:=hc k hkl;dsimp only at c0 c1 c2;have c0:=(HKW.out.below.cell (p:=⟨b,o+k*3,none⟩) hb).trans c0;have c1:=(HKW.out.below.cell (p:=⟨b,o+k*3+1,none⟩) hb).trans c1;have c2:=(HKW.out.below.cell (p:=⟨b,o+k*3+2,none⟩) hb).trans c2;obtain⟨key,hkey⟩:∃ key,key=(ks[k]).1:=⟨_,rfl⟩;rw[← hkey]at c0;clear hc
   have hkeq:ks[k]=(key,(ks[k]).2):=by rw[hkey]
   have HKEY:=Lib.hid hkeq;clear hkeq;obtain⟨p,hp⟩:∃ p,p=wr.heap.size:=⟨_,rfl⟩;obtain⟨W1,hW1⟩:∃ W,W=wr.alloc (.cells #[.string key,.slice Ae' ne' ce',.slice Ak' nk' ck'] 73):=⟨_,rfl⟩
   have hb1:Below wr.heap.size wr W1:=by rw[hW1];exact Dt.box_below _ _ _
   have hk1:=HKW.out.later hb1;have hrd1:=RdT.more hk1.below.size _ (RdT.below hkid hk1.below);have HK1:=Lib.hid hk1;have HW1:=Lib.hid hW1;clear hW1 hb1 hkid
   have p0:W1.cell? ⟨p,0,none⟩=some (.string key):=by rw[HW1.out,hp];go_simp
   have p1:W1.cell? ⟨p,1,none⟩=some (.slice Ae' ne' ce'):=by rw[HW1.out,hp];go_simp
   have p2:W1.cell? ⟨p,2,none⟩=some (.slice Ak' nk' ck'):=by rw[HW1.out,hp];go_simp
   have hb1:Below wr.heap.size wr W1:=by rw[HW1.out];exact Dt.box_below _ _ _
   have HB1:=Lib.hid (HBW.out.trans (hb1.mono HBW.out.size));have HKR1:=Lib.hid (HKR.out.later hb1);have HKP:=Lib.hid ((((HK1.out.cons_of p2).cons_of p1).cons_of p0));have HP:=Lib.hid hp
   have hown:(Value.slice Ax m cx).ownBlock≠some p:=fun e=>by have:=(HKR.out.own.row.lt p e).2;omega
   have HOWN:=Lib.hid hown;have HSE:=Lib.hid (searchS_any (sortS l) n As cs key W1 (by rw[sortS_len];exact HL.out) (by omega) ((HSR.out.below (HB1.out)).more HB1.out.size) (sortS_rise l));have HRD:=Lib.hid hrd1;clear hrd1 hkey hp hb1 hown HBW;go_wp2_with fail;rw[← HP.out,← HW1.out];refine HSE.out.mono ?_;rintro e w3 ⟨i3,z,rfl,⟨hz1,hz2⟩,hb3⟩
   have HZ:Hid (z=inB l key):=by
    unfold Hid
    cases z with
    | true=>exact (inB_iff.2 (sortS_mem.1 (hz1 rfl))).symm
    | false=>
     cases h:inB l key with
     | false=>rfl
     | true=>exact absurd (sortS_mem.2 (inB_iff.1 h)) (hz2 rfl)
   have HB3:=Lib.hid (HB1.out.trans (hb3.mono HB1.out.size));have HKR3:=Lib.hid (HKR1.out.later hb3);have HKc:=Lib.hid (HKP.out.later hb3);have hks:=keepK_succ f hkl;rw[HKEY.out]at hks;dsimp only at hks
   have HFK:Hid (f key=(z==am)):=by unfold Hid;rw[HF.out,HZ.out]
   have HB13:=Lib.hid hb3;clear hz1 hz2 hb3 p0 p1 p2 HKR HKR1 HB1;obtain⟨s0,s1,s2,-⟩:=HKc.out.cj
   by_cases hzb:z=am
   ·subst hzb
    have hft:f key=true:=by rw[HFK.out];exact beq_self_eq_true z
    rw[hft,if_pos rfl]at hks;have HKS:=Lib.hid hks;clear hks hft;have hsz3:w3.heap.size=w3.drew.heap.size:=rfl;go_wp2_with fail;have HB3D:Hid (Below W1.heap.size W1 w3.drew):=HB13.out.drew;have HB3S:Hid (W1.heap.size≤w3.drew.heap.size):=HB13.out.size;refine wp_region_held_drew (S:=fun W=>W.cell? ⟨p,0,none⟩=some (.string key)∧W.cell? ⟨p,1,none⟩=some (.slice Ae' ne' ce')∧W.cell? ⟨p,2,none⟩=some (.slice Ak' nk' ck')) (by kernel_rfl) (by go_keep) (fun hHeld=>?_);refine Tk 0 33 ?_;refine Tk 1 34 ?_;refine Tk 2 35 ?_;refine Tk 3 36 ?_;refine Tk 4 37 ?_;refine Tc 5 (fun K hK=>?_);go_simp;(go_at_call 60;refine (HIH.out _ (List.getElem_mem hkl) Ae' Ak' ne' nk' ce' ck' w3.drew (Nat.le_trans (nodes_kid (List.getElem_mem hkl)) HN.out) (RdT.more HB3S.out _ (RdT.below HRD.out HB3D.out))).mono ?_);rintro e w4 ⟨Ae4,ce4,Ak4,ck4,rfl,hro,hb4⟩
    have hb4':Below w3.heap.size w3 w4:=((Below.refl w3.heap.size w3).drew).trans hb4;have HKc:=Lib.hid (HKc.out.later hb4');have HKR4:=HKR3.out.later hb4';have hu:RdO w4 (fun b=>w2.heap.size≤b∧(Value.slice Ax m cx).ownBlock≠some b) (ks[k]).2 ⟨Ae4,ne',ce4⟩ ⟨Ak4,nk',ck4⟩:=RdO.mono (fun b hb _=>⟨Nat.le_trans HB3.out.size hb,fun e=>by have h1:=(HKR3.out.own.row.lt b e).2;have h2:w3.drew.heap.size≤b:=hb;have h3:w3.drew.heap.size=w3.heap.size:=rfl;omega⟩) _ hro;obtain⟨A5,c5,w5,r1,HKR5,hb5,hblk⟩:=KidRow.push (k:=(key,⟨Ae4,ne',ce4⟩,⟨Ak4,nk',ck4⟩)) Tryz.underlying23 infoK rfl (by omega) HKR4 w4.heap.size rfl (Nat.le_trans HB3.out.size hb4'.size) hu (by omega) #[.string key,.slice Ae4 ne' ce4,.slice Ak4 nk' ck4] rfl;obtain⟨t0,t1,t2,-⟩:=HKc.out.cj;have hpl:p<w4.heap.size:=World.block_lt_of_cell? w4 _ t0;have u0:w5.cell? ⟨p,0,none⟩=_:=(World.cell?_of_block (a:=⟨p,0,none⟩) (hblk p HOWN.out hpl)).trans t0
    have u1:w5.cell? ⟨p,1,none⟩=_:=(World.cell?_of_block (a:=⟨p,1,none⟩) (hblk p HOWN.out hpl)).trans t1;have u2:w5.cell? ⟨p,2,none⟩=_:=(World.cell?_of_block (a:=⟨p,2,none⟩) (hblk p HOWN.out hpl)).trans t2;have Hrun:=Lib.hid r1;have HU:=Lib.hid (And.intro u0 (And.intro u1 u2))
    have HKR5':Hid (KidRow w5 w2.heap.size 73 A5 (m+1) c5 (keepK f (ks.take (k+1))) (kr++[(key,⟨Ae4,ne',ce4⟩,⟨Ak4,nk',ck4⟩)])):=by unfold Hid;rw[HKS.out];exact HKR5
    have HB5:=Lib.hid ((HB3.out.trans (hb4'.mono HB3.out.size)).trans hb5);clear hro hb4 hb4' hu r1 HKR5 hb5 hblk u0 u1 u2 hpl HKR4;clear hHeld;refine Th hK ?_ (fun hHeld=>?_)
    ·exact⟨t0,t1,t2⟩
    clear hK K;refine Tk 6 39 ?_;refine Tc 7 (fun K hK=>?_);go_simp;refine Th hK ?_ (fun hHeld2=>?_)
    ·(try dsimp only);go_keep
    clear hK K hHeld;have hHeld:=hHeld2;clear hHeld2;refine Tc 8 (fun K hK=>?_);refine upon_append _ _ _ rfl rfl rfl Hrun.out ?_;clear hHeld;refine Th hK ?_ (fun hHeld=>?_)
    ·exact HU.out
    clear hK K;refine Tk 9 8 ?_;refine wpAnyH_done (by kernel_rfl) ?_ _;clear t0 t1 t2 s0 s1 s2 Hrun hHeld;go_wp2_with fail;go_roundw
    case rel=>exact⟨k+1,A5,m+1,c5,_,by omega,by go_num,rfl,by omega,HKR5'.out,HB5.out⟩
    case measure=>simp[intOf];omega
   ·have hft:f key=false:=by rw[HFK.out];exact beq_eq_false_iff_ne.2 hzb
    rw[hft,if_neg (by simp)]at hks;have HKS:=Lib.hid hks;have fzb:(z==am)=false:=beq_eq_false_iff_ne.2 hzb
    have HKR4:Hid (KidRow w3 w2.heap.size 73 Ax m cx (keepK f (ks.take (k+1))) kr):=by unfold Hid;rw[HKS.out];exact HKR3.out
    clear hks hft hzb;go_wp2_with fail;go_roundw
    case rel=>exact⟨k+1,Ax,m,cx,kr,by omega,by go_num,rfl,by omega,HKR4.out,HB3.out⟩
    case measure=>simp[intOf];omega
  ·obtain rfl:k=nk:=by omega
   have hall:ks.take k=ks:=List.take_of_length_le (by rw[HLK.out];omega)
   have HKR4:Hid (KidRow wr w2.heap.size 73 Ax m cx (keepK f ks) kr):=by have:=HKR.out;rwa [hall]at this
   clear hall;go_wp2_with fail;go_ret;exact⟨w2.heap.size,Ax,m,cx,kr,rfl,HK2.out.below.size,HBW.out.size,HKR4.out,HKW.out.below⟩
theorem copied_any:∀ (t:T) (Ae Ak:Option Addr) (ne nk ce ck:Nat) (w:World),nodes t≤100000→RdT w w.heap.size t ⟨Ae,ne,ce⟩ ⟨Ak,nk,ck⟩→Calls Tryz.prog 60 #[.agg #[.slice Ae ne ce,.slice Ak nk ck]] w (CopyIs t ne nk w):=by
 intro t
 induction t using T.ind with
 | h es ks ih=>
  intro Ae Ak ne nk ce ck w hn hr;obtain⟨hle,hlk⟩:=rd_lens hr;have HR:=Lib.hid hr;have HLE:=Lib.hid hle;have HLK:=Lib.hid hlk;clear hle hlk hr;have HKO:=Lib.hid (fun (w:World)=>kids_of es ks ih [] none 0 0 false Ae Ak ne nk ce ck w rfl (by omega) (Rd.nil _) hn)
  have hne:ne≤900000:=by have:=nodes_es es ks;have:=HLE.out;omega
  obtain⟨g,hg⟩:∃ g,g=w.heap.size:=⟨_,rfl⟩;have HK:=Lib.hid (tree_box w Ae Ak ne nk ce ck);rw[← hg]at HK;obtain⟨W0,hW0⟩:∃ W,W=w.alloc (.cells #[.slice Ae ne ce,.slice Ak nk ck] 25):=⟨_,rfl⟩;rw[← hW0]at HK;have HG:=Lib.hid hg;have HW0:=Lib.hid hW0;have k0:=HK.out.c0;have k1:=HK.out.c1;clear hg hW0;obtain⟨q,hq⟩:∃ q,q=W0.heap.size:=⟨_,rfl⟩;obtain⟨W1,hW1⟩:∃ W,W=W0.alloc (.cells #[.slice none 0 0,.slice none 0 0] 25):=⟨_,rfl⟩
  have hb1:Below W0.heap.size W0 W1:=by rw[hW1];exact Dt.box_below _ _ _
  have q0:W1.cell? ⟨q,0,none⟩=some (.slice none 0 0):=by rw[hW1,hq];go_simp
  have q1:W1.cell? ⟨q,1,none⟩=some (.slice none 0 0):=by rw[hW1,hq];go_simp
  have hfr:Free q W1:=⟨by rw[hW1,hq];simp,fun j=>by rw[hW1,hq];go_simp⟩;have HKc:=Lib.hid ((((HK.out.later hb1).cons_of q1).cons_of q0)).drew;have HFR:=Lib.hid hfr.drew
  have HQ:Hid (q=g+1):=by unfold Hid;rw[hq,HW0.out,HG.out];simp
  have hgW:g<W0.heap.size:=World.block_lt_of_cell? W0 _ HK.out.c0
  have hgq:g≠q:=by omega
  have hgq2:¬q=g:=by omega
  have hqw:w.heap.size<q:=by have:=HG.out;omega
  have HW1:=Lib.hid hW1;have s0:W1.cell? ⟨g,0,none⟩=_:=(hb1.cell (p:=⟨g,0,none⟩) hgW).trans HK.out.c0;have s1:W1.cell? ⟨g,1,none⟩=_:=(hb1.cell (p:=⟨g,1,none⟩) hgW).trans HK.out.c1;have HKW1:Hid (w.heap.size≤W1.heap.size):=HKc.out.below.size;have HFQ:Hid (q<W1.heap.size):=hfr.1;clear hq hW1 hb1 hfr q0 q1 k0 k1 hn;go_enter Tryz.func60,Tryz.ntmps60;go_wp2_with fail;rw[← HG.out,← HW0.out,← HQ.out,← HW1.out];refine wp_region_held_drew (S:=fun W=>W.cell? ⟨g,0,none⟩=some (.slice Ae ne ce)∧W.cell? ⟨g,1,none⟩=some (.slice Ak nk ck)) (by kernel_rfl) (by go_keep) (fun hHeld=>?_);refine Tk 0 3 ?_;refine Tk 2 5 ?_;refine Tc 1 (fun K hK=>?_);go_simp;(go_at_call 90;refine (entries_any es ks Ae Ak ne nk ce ck _ hne (RdT.more HKc.out.below.size _ (RdT.below HR.out HKc.out.below))).mono ?_)
  rintro e w2 ⟨A2,c2,rfl,ho2,hb2⟩;have HKc:=Lib.hid (HKc.out.later hb2);have HFR:=Lib.hid (HFR.out.later hb2);have HO2:=Lib.hid (RO.of_own ho2);have hbs2:=hb2.size;clear ho2 hb2;clear hHeld;refine Th hK ?_ (fun hHeld=>?_)
  ·exact⟨HKc.out.c2,HKc.out.c3⟩
  clear hK K;refine Tc 3 (fun K hK=>?_);go_simp;(go_at_call 91;refine (HKO.out _ (RdT.more HKc.out.below.size _ (RdT.below HR.out HKc.out.below))).mono ?_);rintro e w3 ⟨base,A3,m3,c3,kr,rfl,hbs1,hbs3,hkr,hb3⟩;have HKc:=Lib.hid (HKc.out.later hb3);have HFR:=Lib.hid (HFR.out.later hb3);have hO3:=HO2.out.keep hb3.size (fun b _ hlt=>hb3.block b hlt);have hsz:W1.drew.heap.size=W1.heap.size:=rfl;have hwW1:w.heap.size≤W1.heap.size:=HKW1.out;have hall:keepK (fun k=>inB [] k==false) ks=ks:=keepK_all ks (fun k=>by rw[inB_nil];rfl);rw[hall]at hkr
  have hm3:m3=nk:=by rw[← hkr.len,HLK.out]
  subst hm3;have HT:=Lib.hid (hkr.tree (ok:=fun b=>w.heap.size≤b∧b≠q) (fun b hb hlt=>⟨by omega,fun e=>by have:=HFQ.out;omega⟩) (es:=es) (se:=⟨A2,ne,c2⟩) HLE.out (hO3.mono (fun b hb _=>⟨by omega,fun e=>by have:=HFQ.out;omega⟩)));obtain⟨t0,t1,t2,t3,-⟩:=HKc.out.cj;have m0:=HFR.out.2 0;have m1:=HFR.out.2 1;clear hkr hb3 hO3 hall;clear hHeld;refine Th hK ?_ (fun hHeld=>?_)
  ·exact⟨t2,t3⟩
  clear hK K;refine Tk 4 7 ?_;refine Tc 5 (fun K hK=>?_);go_simp;refine Th hK ?_ (fun hHeld2=>?_)
  ·(try dsimp only);go_keep
  clear hK K hHeld;have hHeld:=hHeld2;clear hHeld2;refine wpAnyH_done (by kernel_rfl) ?_ _;obtain⟨w4,hw4⟩:∃ W,W=(w3.setCell ⟨q,0,none⟩ (.slice A2 ne c2)).setCell ⟨q,1,none⟩ (.slice A3 m3 c3):=⟨_,rfl⟩
  have hT4:RdO w4 (fun b=>w.heap.size≤b) (.mk es ks) ⟨A2,ne,c2⟩ ⟨A3,m3,c3⟩:=by
   rw[hw4];refine RdO.mono (fun b hb _=>hb.1) _ (RdO.keep (by simp[World.setCell]) (fun b hb hlt=>?_) _ HT.out);exact (Below.heap_setCell _ ⟨q,1,none⟩ _ b (fun e=>hb.2 e)).trans (Below.heap_setCell _ ⟨q,0,none⟩ _ b (fun e=>hb.2 e))
  have hb4:Below w.heap.size w w4:=by rw[hw4];exact (HKc.out.below.setCell (p:=⟨q,0,none⟩) (Nat.le_of_lt hqw) _).setCell (p:=⟨q,1,none⟩) (Nat.le_of_lt hqw) _
  have j0:w4.cell? ⟨q,0,none⟩=some (.slice A2 ne c2):=by rw[hw4];go_simp
  have j1:w4.cell? ⟨q,1,none⟩=some (.slice A3 m3 c3):=by rw[hw4];go_simp
  have HT4:=Lib.hid hT4;have HB4:=Lib.hid hb4;have HW4:=Lib.hid hw4;clear hT4 hb4 hw4 t0 t1 t2 t3 m0 m1 hHeld s0 s1;go_wp2_with fail;rw[← HW4.out];refine bodyPost_ret (v:=.agg #[.slice A2 ne c2,.slice A3 m3 c3]) (by simp[results,Tryz.results60,go_sem,j0,j1]) rfl ⟨A2,c2,A3,c3,rfl,HT4.out,HB4.out⟩
end Tr
end Go.Proofs.YtjpcechcefhcfaaGreat
namespace Go.Proofs.YtjpcechcefhcfaaGreat
open Go.ChangeShapes Go.WideShapes Go.ChangeAt Go.RowKit
namespace Tr
open Sp Rw
theorem KidRow.set7 {w w7:World} {base e n c:Nat} {A:Option Addr} {ks:List (ByteArray×T)} {kr:List (ByteArray×SV×SV)} {r j:Nat} {v:Value} (h:KidRow w base e A n c ks kr) (hr:r<base) (hw:w7=w.setCell ⟨r,j,none⟩ v):KidRow w7 base e A n c ks kr:=by
 subst hw;refine⟨h.len,h.lenr,h.own.set_below (a:=⟨r,j,none⟩) hr v,fun i hi hi'=>⟨(h.kid i hi hi').1,?_⟩⟩;exact RdO.keep (by simp[World.setCell]) (fun b hb _=>Below.heap_setCell _ ⟨r,j,none⟩ _ b (fun e=>by have:b=r:=e;omega)) _ (h.kid i hi hi').2
end Tr
end Go.Proofs.YtjpcechcefhcfaaGreat
namespace Go.Proofs.YtjpcechcefhcfaaGreat
open Go.ChangeShapes Go.WideShapes Go.ChangeAt Go.RowKit
namespace Tr
open Rw Sp
abbrev Lf:=List ByteArray×E
def leafC (x:SV×E):List Value:=[.slice x.1.A x.1.n x.1.c,.int .i64 x.2.a,.int .i64 x.2.n,.string x.2.s,.int .i64 x.2.v]
theorem leafC_len (x:SV×E):(leafC x).length=5:=rfl
theorem leafC_one (x:SV×E):∀ u∈leafC x,u.oneCell'=true:=by
 intro u hu;simp[leafC]at hu
 rcases hu with rfl | rfl | rfl | rfl | rfl <;> rfl
structure RX (w:World) (ok:Nat→Prop) (sz:Nat) (A:Option Addr) (n c:Nat) (xs:List Value):Prop where
 len:xs.length=n*sz
 cap:n≤c
 one:∀ u∈xs,u.oneCell'=true
 at_:0<n→∃ b o,A=some ⟨b,o,none⟩∧ok b∧b<w.heap.size∧∀ j u,xs[j]?=some u→w.cell? ⟨b,o+j,none⟩=some u
namespace RX
variable {w w':World} {ok ok':Nat→Prop} {sz n c:Nat} {A:Option Addr} {xs:List Value}
theorem rd (h:RX w ok sz A n c xs):Rd w w.heap.size sz A n c xs:=⟨h.len,h.cap,h.one,fun hn=>by obtain⟨b,o,e,_,hb,hc⟩:=h.at_ hn;exact⟨b,o,e,hb,hc⟩⟩
theorem of_rd {B:Nat} (h:Rd w B sz A n c xs) (hB:B≤w.heap.size) (hok:∀ b,b<B→ok b):RX w ok sz A n c xs:=⟨h.len,h.cap,h.one,fun hn=>by obtain⟨b,o,e,hb,hc⟩:=h.at_ hn;exact⟨b,o,e,hok b hb,by omega,hc⟩⟩
theorem mono (h:RX w ok sz A n c xs) (ho:∀ b,ok b→b<w.heap.size→ok' b):RX w ok' sz A n c xs:=
 ⟨h.len,h.cap,h.one,fun hn=>by obtain⟨b,o,e,h1,hb,hc⟩:=h.at_ hn;exact⟨b,o,e,ho b h1 hb,hb,hc⟩⟩
theorem keep (h:RX w ok sz A n c xs) (hs:w.heap.size≤w'.heap.size) (hk:∀ b,ok b→b<w.heap.size→w'.heap[b]?=w.heap[b]?):RX w' ok sz A n c xs:=
 ⟨h.len,h.cap,h.one,fun hn=>by
  obtain⟨b,o,e,h1,hb,hc⟩:=h.at_ hn
  exact⟨b,o,e,h1,Nat.lt_of_lt_of_le hb hs,fun j u hu=>(World.cell?_of_block (a:=⟨b,o+j,none⟩) (hk b h1 hb)).trans (hc j u hu)⟩⟩
theorem later (h:RX w ok sz A n c xs) (hb:Below w.heap.size w w'):RX w' ok sz A n c xs:=h.keep hb.size fun b _ hlt=>hb.block b hlt
end RX
def Paths (w:World) (ok:Nat→Prop) (ls:List Lf) (lr:List (SV×E)):Prop:=ls.length=lr.length∧∀ (i:Nat) (h:i<ls.length) (h':i<lr.length),lr[i].2=ls[i].2∧ls[i].1.length=lr[i].1.n∧RX w ok 1 lr[i].1.A lr[i].1.n lr[i].1.c (strs ls[i].1)
namespace Paths
variable {w w':World} {ok ok':Nat→Prop} {ls ls2:List Lf} {lr lr2:List (SV×E)}
theorem nil (w:World) (ok:Nat→Prop):Paths w ok [] []:=⟨rfl,fun i h=>by simp at h⟩
theorem mono (h:Paths w ok ls lr) (ho:∀ b,ok b→b<w.heap.size→ok' b):Paths w ok' ls lr:=⟨h.1,fun i hi hi'=>⟨(h.2 i hi hi').1,(h.2 i hi hi').2.1,(h.2 i hi hi').2.2.mono ho⟩⟩
theorem keep (h:Paths w ok ls lr) (hs:w.heap.size≤w'.heap.size) (hk:∀ b,ok b→b<w.heap.size→w'.heap[b]?=w.heap[b]?):Paths w' ok ls lr:=⟨h.1,fun i hi hi'=>⟨(h.2 i hi hi').1,(h.2 i hi hi').2.1,(h.2 i hi hi').2.2.keep hs hk⟩⟩
theorem later (h:Paths w ok ls lr) (hb:Below w.heap.size w w'):Paths w' ok ls lr:=h.keep hb.size fun b _ hlt=>hb.block b hlt
theorem app (h:Paths w ok ls lr) (h2:Paths w ok ls2 lr2):Paths w ok (ls++ls2) (lr++lr2):=by
 refine⟨by rw[List.length_append,List.length_append,h.1,h2.1],fun i hi hi'=>?_⟩
 by_cases hlt:i<ls.length
 ·have hlt':i<lr.length:=by rw[← h.1];exact hlt
  rw[List.getElem_append_left hlt,List.getElem_append_left hlt'];exact h.2 i hlt hlt'
 ·have e1:=h.1
  have e2:i-ls.length<ls2.length:=by rw[List.length_append]at hi;omega
  have e3:i-lr.length<lr2.length:=by rw[List.length_append]at hi';omega
  rw[List.getElem_append_right (by omega),List.getElem_append_right (by omega)];have:=h2.2 (i-ls.length) e2 (by rw[e1];exact e3)
  simpa [e1] using this
theorem one {p:List ByteArray} {e:E} {s:SV} (hl:p.length=s.n) (h:RX w ok 1 s.A s.n s.c (strs p)):Paths w ok [(p,e)] [(s,e)]:=⟨rfl,fun i hi hi'=>by
 obtain rfl:i=0:=by simp at hi;omega
 exact⟨rfl,hl,h⟩⟩
theorem take (h:Paths w ok ls lr) (k:Nat):Paths w ok (ls.take k) (lr.take k):=⟨by rw[List.length_take,List.length_take,h.1],fun i hi hi'=>by
 rw[List.length_take]at hi hi';rw[List.getElem_take,List.getElem_take]
 exact h.2 i (by omega) (by omega)⟩
end Paths
def LfRd (w:World) (B:Nat) (A:Option Addr) (n c:Nat) (ls:List Lf):Prop:=ls.length=n∧∃ lr:List (SV×E),Rd w B 5 A n c (lr.flatMap leafC)∧Paths w (fun b=>b<B) ls lr
namespace LfRd
variable {w w':World} {B n c:Nat} {A:Option Addr} {ls:List Lf}
theorem below (h:LfRd w B A n c ls) (_hB:B≤w.heap.size) (hb:Below B w w'):LfRd w' B A n c ls:=by
 obtain⟨h1,lr,h2,h3⟩:=h;exact⟨h1,lr,h2.below hb,h3.keep hb.size fun b hlt _=>hb.block b hlt⟩
theorem more {B':Nat} (h:LfRd w B A n c ls) (hB:B≤B'):LfRd w B' A n c ls:=by
 obtain⟨h1,lr,h2,h3⟩:=h;exact⟨h1,lr,h2.more hB,h3.mono fun b hlt _=>Nat.lt_of_lt_of_le hlt hB⟩
theorem later (h:LfRd w w.heap.size A n c ls) (hb:Below w.heap.size w w'):LfRd w' w'.heap.size A n c ls:=(h.below (Nat.le_refl _) hb).more hb.size
theorem at_ (h:LfRd w B A n c ls) (hn:0<n):∃ b o,A=some ⟨b,o,none⟩∧b<B∧∀ (i:Nat) (hi:i<ls.length),∃ s:SV,w.cell? ⟨b,o+i*5,none⟩=some (.slice s.A s.n s.c)∧w.cell? ⟨b,o+i*5+1,none⟩=some (.int .i64 (ls[i]).2.a)∧w.cell? ⟨b,o+i*5+2,none⟩=some (.int .i64 (ls[i]).2.n)∧w.cell? ⟨b,o+i*5+3,none⟩=some (.string (ls[i]).2.s)∧w.cell? ⟨b,o+i*5+4,none⟩=some (.int .i64 (ls[i]).2.v)∧(ls[i]).1.length=s.n∧RX w (fun b=>b<B) 1 s.A s.n s.c (strs (ls[i]).1):=by
 obtain⟨h1,lr,h2,h3⟩:=h;obtain⟨b,o,e,hb,hc⟩:=rd_elem leafC_len h2 hn;refine⟨b,o,e,hb,fun i hi=>?_⟩
 have hi':i<lr.length:=by rw[← h3.1];exact hi
 obtain⟨e1,e2,e3⟩:=h3.2 i hi hi';refine⟨lr[i].1,hc i hi' 0 _ rfl,?_,?_,?_,?_,e2,e3⟩
 ·rw[← e1];exact hc i hi' 1 _ rfl
 ·rw[← e1];exact hc i hi' 2 _ rfl
 ·rw[← e1];exact hc i hi' 3 _ rfl
 ·rw[← e1];exact hc i hi' 4 _ rfl
end LfRd
structure LfRow (w:World) (base e:Nat) (A:Option Addr) (n c:Nat) (ls:List Lf) (lr:List (SV×E)):Prop where
 len:ls.length=n
 own:Own w base e 5 A n c (lr.flatMap leafC)
 paths:Paths w (fun b=>(Value.slice A n c).ownBlock≠some b) ls lr
namespace LfRow
variable {w w':World} {base e n c:Nat} {A:Option Addr} {ls:List Lf} {lr:List (SV×E)}
theorem nil (w:World) (base e:Nat):LfRow w base e none 0 0 [] []:=⟨rfl,⟨World.ownsRow_nil _ _ _ _,by simp⟩,Paths.nil _ _⟩
theorem later (h:LfRow w base e A n c ls lr) (hb:Below w.heap.size w w'):LfRow w' base e A n c ls lr:=⟨h.len,own_later h.own hb,h.paths.later hb⟩
theorem mono {base':Nat} (h:LfRow w base e A n c ls lr) (hb:base'≤base):LfRow w base' e A n c ls lr:=⟨h.len,h.own.mono hb,h.paths⟩
theorem rd (h:LfRow w base e A n c ls lr):LfRd w w.heap.size A n c ls:=⟨h.len,lr,h.own.rd,⟨h.paths.1,fun i hi hi'=>⟨(h.paths.2 i hi hi').1,(h.paths.2 i hi hi').2.1,((h.paths.2 i hi hi').2.2).mono fun _ _ hlt=>hlt⟩⟩⟩
theorem app {t by_:Nat} {z:Value} (ht:Tryz.prog.underlying t=some (.slice e)) (hi:(Tryz.prog.info? e).map (fun i=>(i.zero,i.size,i.bytes))=some (some z,5,by_)) (hzs:z.cells.size=5) (hby:by_≤1000000)
  (h:LfRow w base e A n c ls lr) (hb:base≤w.heap.size) {B:Nat} {A2:Option Addr} {m c2:Nat} {ls2:List Lf} {lr2:List (SV×E)} (hr:Rd w B 5 A2 m c2 (lr2.flatMap leafC)) (hl2:ls2.length=m) (hp:Paths w (fun b=>(Value.slice A n c).ownBlock≠some b) ls2 lr2) (hn:n+m≤900000) :
  ∃ A' c' w',(Builtin.append_ #[t,t] t #[.slice A n c,.slice A2 m c2]).run Tryz.prog w = .ok (.slice A' (n+m) c') w'∧LfRow w' base e A' (n+m) c' (ls++ls2) (lr++lr2)∧Below base w w'∧∀ (P:Nat→Prop) (ls:List Lf) (lr:List (SV×E)),Paths w (fun b=>(Value.slice A n c).ownBlock≠some b∧P b) ls lr→Paths w' (fun b=>(Value.slice A' (n+m) c').ownBlock≠some b∧P b) ls lr:=by
 obtain⟨i0,hi0,hz0,hz1,hz2⟩:=info_of hi;obtain⟨v',w',r1,r2,r3,r4⟩:=run_app (P:=Tryz.prog) w base t t e i0 z 5 by_ ht hi0 hz0 hz1 hz2 hzs (by omega) h.own.row hr (by omega) hby hb
 have e1:(lr++lr2).flatMap leafC=lr.flatMap leafC++lr2.flatMap leafC:=by simp
 rw[← e1]at r2
 obtain⟨A',c',rfl,ho⟩:=Own.of_row r2 (fun u hu=>by
  obtain⟨x,_,hu⟩:=List.mem_flatMap.1 hu
  exact leafC_one x u hu)
 have hk:∀ b,(Value.slice A n c).ownBlock≠some b→b<w.heap.size→w'.heap[b]?=w.heap[b]?:=fun b hb hlt=>r3.block b hlt (fun e=>hb e.symm)
 have hnew:∀ b,(Value.slice A n c).ownBlock≠some b→b<w.heap.size→(Value.slice A' (n+m) c').ownBlock≠some b:=fun b hb hlt he=>by
  rcases r4 with r4 | r4
  ·exact hb (r4.symm.trans he)
  ·have:some b=some w.heap.size:=he.symm.trans r4
   injection this with this;omega
 have hto:∀ {ls:List Lf} {lr:List (SV×E)},Paths w (fun b=>(Value.slice A n c).ownBlock≠some b) ls lr→Paths w' (fun b=>(Value.slice A' (n+m) c').ownBlock≠some b) ls lr:=fun hp=>
  ((hp.mono (ok':=fun b=>(Value.slice A' (n+m) c').ownBlock≠some b∧(Value.slice A n c).ownBlock≠some b) (fun b hb hlt=>⟨hnew b hb hlt,hb⟩)).keep r3.size (fun b hb hlt=>hk b hb.2 hlt)).mono (fun b hb _=>hb.1)
 exact⟨A',c',w',r1,⟨by rw[List.length_append,h.len,hl2],ho,(hto h.paths).app (hto hp)⟩,(Below.refl base w).grown r3 hb (fun k hk=>(h.own.row.lt k hk).1),fun P ls lr hp=>((hp.mono (ok':=fun b=>(Value.slice A' (n+m) c').ownBlock≠some b∧(Value.slice A n c).ownBlock≠some b∧P b) (fun b hb hlt=>⟨hnew b hb.1 hlt,hb⟩)).keep r3.size (fun b hb hlt=>hk b hb.2.1 hlt)).mono (fun b hb _=>⟨hb.1,hb.2.2⟩)⟩
end LfRow
theorem infoL:(Tryz.prog.info? 76).map (fun i=>(i.zero,i.size,i.bytes))=some (some (.agg #[.slice none 0 0,.int .i64 0,.int .i64 0,.string ⟨#[]⟩,.int .i64 0]),5,64):=by kernel_rfl
theorem rd_leaf (w:World) (s:SV) (e:E) (ty:TypeId):Rd (w.alloc (.cells #[.slice s.A s.n s.c,.int .i64 e.a,.int .i64 e.n,.string e.s,.int .i64 e.v] ty)) (w.heap.size+1) 5 (some ⟨w.heap.size,0,none⟩) 1 1 ([(s,e)].flatMap leafC):=
 ⟨rfl,Nat.le_refl _,fun u hu=>leafC_one (s,e) u (by simpa using hu),fun _=>⟨_,_,rfl,by omega,fun j u hu=>by
  rw[Nat.zero_add,cell_of_row _ _ j _ _ (0,0) (heap_alloc_new _ _)]
  simpa [leafC] using hu⟩⟩
theorem LfRow.push {w:World} {base n c:Nat} {A:Option Addr} {ls:List Lf} {lr:List (SV×E)} (h:LfRow w base 76 A n c ls lr) (hb:base≤w.heap.size) {p:List ByteArray} {e:E} {s:SV} (hl:p.length=s.n) (hp:RX w (fun b=>(Value.slice A n c).ownBlock≠some b) 1 s.A s.n s.c (strs p)) (hn:n≤800000) :
  ∃ A' c' w',(Builtin.append_ #[39,39] 39 #[.slice A n c,.slice (some ⟨w.heap.size,0,none⟩) 1 1]).run Tryz.prog (w.alloc (.cells #[.slice s.A s.n s.c,.int .i64 e.a,.int .i64 e.n,.string e.s,.int .i64 e.v] 76)) = .ok (.slice A' (n+1) c') w'∧LfRow w' base 76 A' (n+1) c' (ls++[(p,e)]) (lr++[(s,e)])∧Below base w w'∧∀ (P:Nat→Prop) (ls:List Lf) (lr:List (SV×E)),Paths w (fun b=>(Value.slice A n c).ownBlock≠some b∧P b) ls lr→Paths w' (fun b=>(Value.slice A' (n+1) c').ownBlock≠some b∧P b) ls lr:=by
 have hal:Below w.heap.size w (w.alloc (.cells #[.slice s.A s.n s.c,.int .i64 e.a,.int .i64 e.n,.string e.s,.int .i64 e.v] 76)):=(Below.refl _ _).alloc (Nat.le_refl _) _;obtain⟨A',c',w',r1,r2,r3,r4⟩:=(h.later hal).app Tryz.underlying39 infoL rfl (by omega) (by simp;omega) (rd_leaf w s e _) rfl (Paths.one hl (hp.later hal)) (by omega);exact⟨A',c',w',r1,r2,(hal.mono hb).trans r3,fun P ls lr hp=>r4 P ls lr (hp.later hal)⟩
end Tr
end Go.Proofs.YtjpcechcefhcfaaGreat
set_option maxRecDepth 100000
set_option maxHeartbeats 4000000
namespace Go.Proofs.YtjpcechcefhcfaaGreat
open Go.ChangeShapes Go.WideShapes Go.ChangeAt Go.RowKit
namespace Tr
open Sp Rw
theorem getT_none:∀ p:List ByteArray,getT none_ p=none_
 | []=>rfl
 | k::p=>by
  unfold getT;exact getT_none p
theorem getT_append (t:T):∀ a b:List ByteArray,getT t (a++b)=getT (getT t a) b
 | [],_=>rfl
 | k::a,b=>by
  show getT (kidAt t.ks k) (a++b)=getT (getT (kidAt t.ks k) a) b;exact getT_append _ a b
theorem getT_succ (t:T) {p:List ByteArray} {k:Nat} (h:k<p.length):getT t (p.take (k+1))=kidAt (getT t (p.take k)).ks p[k]:=by
 rw[List.take_succ_eq_append_getElem h,getT_append];rfl
theorem kidAt_at {ks:List (ByteArray×T)} (hs:ks.Pairwise (fun x y=>ltS x.1 y.1)) {i:Nat} (h:i<ks.length):kidAt ks (ks[i]).1=(ks[i]).2:=by
 rcases kidAt_mem (ks:=ks) (key:=(ks[i]).1)with ⟨k,hk,he,e2⟩ | ⟨hn,_⟩
 ·rw[e2]
  obtain⟨j,hj,rfl⟩:=List.getElem_of_mem hk
  have:j=i:=by
   rcases Nat.lt_trichotomy i j with h1 | h1 | h1
   ·have:=List.pairwise_iff_getElem.1 hs i j h hj h1
    rw[he]at this;exact absurd this (tot_str.irr _)
   ·exact h1.symm
   ·have:=List.pairwise_iff_getElem.1 hs j i hj h h1
    rw[he]at this;exact absurd this (tot_str.irr _)
  subst this;rfl
 ·exact absurd rfl (hn _ (List.getElem_mem h))
theorem kidAt_no {ks:List (ByteArray×T)} {x:ByteArray} (h:¬x∈keysOf ks):kidAt ks x=none_:=kidAt_not fun k hk e=>h (List.mem_map.2 ⟨k,hk,e⟩)
theorem getT_cut {t:T} {p:List ByteArray} {k:Nat} (h:getT t (p.take k)=none_):getT t p=none_:=by
 conv=>lhs;rw[← List.take_append_drop k p]
 rw[getT_append,h,getT_none]
theorem nodes_kidAt (ks:List (ByteArray×T)) (es:List E) (key:ByteArray):nodes (kidAt ks key)≤nodes (.mk es ks):=by
 rcases kidAt_mem (ks:=ks) (key:=key)with ⟨k,hk,_,e⟩ | ⟨_,e⟩
 ·rw[e];exact nodes_kid hk
 ·rw[e];unfold none_;rw[nodes_mk];simp
theorem rise_keys {d:Nat} {es:List E} {ks:List (ByteArray×T)} (h:RightT (d+1) (.mk es ks)):(keysOf ks).Pairwise fun a b=>¬ltS b a:=by
 unfold keysOf;rw[List.pairwise_map];exact h.2.2.1.imp fun h=>tot_str.asym h
def TreeIs (u:T) (w:World) (e:Ending) (w':World):Prop:=∃ Ae ne ce Ak nk ck,e = .returned (.agg #[.slice Ae ne ce,.slice Ak nk ck])∧RdO w' (fun b=>w.heap.size≤b) u ⟨Ae,ne,ce⟩ ⟨Ak,nk,ck⟩∧Below w.heap.size w w'
theorem TreeIs.rd {u:T} {Ae Ak:Option Addr} {ne nk ce ck lo:Nat} {w:World} (h:RdO w (fun b=>lo≤b) u ⟨Ae,ne,ce⟩ ⟨Ak,nk,ck⟩):RdT w w.heap.size u ⟨Ae,ne,ce⟩ ⟨Ak,nk,ck⟩:=h.rd
theorem clone_any (t:T) (Ae Ak:Option Addr) (ne nk ce ck:Nat) (w:World) (hl:LenT reachBytes t) (hn:nodes t≤100000) (hr:RdT w w.heap.size t ⟨Ae,ne,ce⟩ ⟨Ak,nk,ck⟩) :
  Calls Tryz.prog 73 #[.agg #[.slice Ae ne ce,.slice Ak nk ck]] w (TreeIs (if rightB 5 t then t else none_) w):=by
 obtain⟨u,hu⟩:∃ u,(if rightB 5 t then t else none_)=u:=⟨_,rfl⟩
 rw[hu];have HRT:∀ W,Below w.heap.size w W→Calls Tryz.prog 36 #[.agg #[.slice Ae ne ce,.slice Ak nk ck]] W fun e w'=>e = .returned (.bool (rightB 5 t))∧Below W.heap.size W w':=fun W hW=>rightT_any t Ae Ak ne nk ce ck W hl (RdT.more hW.size _ (RdT.below hr hW));obtain⟨g,hg⟩:∃ g,g=w.heap.size:=⟨_,rfl⟩;have HK:=Lib.hid (tree_box w Ae Ak ne nk ce ck);rw[← hg]at HK;obtain⟨W0,hW0⟩:∃ W,W=w.alloc (.cells #[.slice Ae ne ce,.slice Ak nk ck] 25):=⟨_,rfl⟩;rw[← hW0]at HK;have HG:=Lib.hid hg;have HW0:=Lib.hid hW0;have k0:=HK.out.c0;have k1:=HK.out.c1;clear hg hW0;obtain⟨q,hq⟩:∃ q,q=W0.heap.size:=⟨_,rfl⟩;obtain⟨W1,hW1⟩:∃ W,W=W0.alloc (.cells #[.slice none 0 0,.slice none 0 0] 25):=⟨_,rfl⟩
 have hb1:Below W0.heap.size W0 W1:=by rw[hW1];exact Dt.box_below _ _ _
 have q0:W1.cell? ⟨q,0,none⟩=some (.slice none 0 0):=by rw[hW1,hq];go_simp
 have q1:W1.cell? ⟨q,1,none⟩=some (.slice none 0 0):=by rw[hW1,hq];go_simp
 have HFQ:Hid (Free q W1):=⟨by rw[hW1,hq];simp,fun j=>by rw[hW1,hq];go_simp⟩;have HFG:Hid (Free g W1):=(show Free g W0 from⟨World.block_lt_of_cell? W0 _ HK.out.c0,fun j=>by rw[HW0.out,HG.out];go_simp⟩).later hb1;have HKB:=Lib.hid (((HK.out.later hb1).cons_of q1).cons_of q0)
 have HQ:Hid (q=g+1):=by unfold Hid;rw[hq,HW0.out,HG.out];simp
 have hgW:g<W0.heap.size:=World.block_lt_of_cell? W0 _ HK.out.c0
 have hgq:g≠q:=by omega
 have hgq2:¬q=g:=by omega
 have hwg:w.heap.size≤g:=by have:=HG.out;omega
 have hwq:w.heap.size≤q:=by omega
 have HW1:=Lib.hid hW1;have HBq:Hid (Below w.heap.size w W1):=HKB.out.below;clear hq hW1 hb1 q0 q1 k0 k1;have k2:=HKB.out.c2;have k3:=HKB.out.c3
 cases hz:rightB 5 t with
 | false=>
  rw[hz,if_neg (by simp)]at hu;subst hu;rw[hz]at HRT;have HRT:=Lib.hid HRT;clear hz hr hl;go_enter Tryz.func73,Tryz.ntmps73;go_wp2_with fail;rw[← HG.out,← HW0.out,← HQ.out,← HW1.out];refine (HRT.out _ HBq.out).mono ?_;rintro e w2 ⟨rfl,hb2⟩;have HKc:=Lib.hid (HKB.out.later hb2);have HFQ:=Lib.hid (HFQ.out.later hb2);have HFG:=Lib.hid (HFG.out.later hb2);clear hb2 k2 k3;obtain⟨k0,k1,k2,k3,-⟩:=HKc.out.cj;have m0:=HFQ.out.2 0;have m1:=HFQ.out.2 1;obtain⟨w9,hw9⟩:∃ W,W=(w2.setCell ⟨q,0,none⟩ (.slice none 0 0)).setCell ⟨q,1,none⟩ (.slice none 0 0):=⟨_,rfl⟩
  have HB9:Hid (Below w.heap.size w w9):=by unfold Hid;rw[hw9];exact (HKc.out.below.setCell (p:=⟨q,0,none⟩) hwq _).setCell (p:=⟨q,1,none⟩) hwq _
  have j0:w9.cell? ⟨q,0,none⟩=some (.slice none 0 0):=by rw[hw9];go_simp
  have j1:w9.cell? ⟨q,1,none⟩=some (.slice none 0 0):=by rw[hw9];go_simp
  have HW9:=Lib.hid hw9;clear hw9;go_wp2_with fail;rw[← HW9.out];refine bodyPost_ret (v:=.agg #[.slice none 0 0,.slice none 0 0]) (by simp[results,Tryz.results73,go_sem,j0,j1]) rfl ⟨none,0,0,none,0,0,rfl,RdO.none _ _ _ _ _ _,HB9.out⟩
 | true=>
  rw[hz,if_pos rfl]at hu;subst hu;rw[hz]at HRT;have HRT:=Lib.hid HRT;have HRI:=Lib.hid (rightB_iff.1 hz);have HR:=Lib.hid hr;have HN:=Lib.hid hn;clear hz hr hl hn;go_enter Tryz.func73,Tryz.ntmps73;go_wp2_with fail;rw[← HG.out,← HW0.out,← HQ.out,← HW1.out];refine (HRT.out _ HBq.out).mono ?_;rintro e w2 ⟨rfl,hb2⟩;have HKc:=Lib.hid (HKB.out.later hb2);have HFQ:=Lib.hid (HFQ.out.later hb2);have HFG:=Lib.hid (HFG.out.later hb2);clear hb2 k2 k3;obtain⟨k0,k1,k2,k3,-⟩:=HKc.out.cj;have m0:=HFQ.out.2 0;have m1:=HFQ.out.2 1;go_wp2_with fail;refine (copied_any t Ae Ak ne nk ce ck w2 HN.out (RdT.more HKc.out.below.size _ (RdT.below HR.out HKc.out.below))).mono ?_;rintro e w3 ⟨Ae9,ce9,Ak9,ck9,rfl,hro,hb3⟩;have HKc:=Lib.hid (HKc.out.later hb3);have HFQ:=Lib.hid (HFQ.out.later hb3);have hqw2:q<w2.heap.size:=World.block_lt_of_cell? w2 _ k0
  have hbs:=HKc.out.below.size
  have hbs2:w.heap.size≤w2.heap.size:=by omega
  have HRO:=Lib.hid (RdO.mono (ok':=fun b=>w.heap.size≤b∧b≠q) (fun b hb _=>⟨by omega,fun e=>by omega⟩) _ hro);clear k0 k1 k2 k3 m0 m1 hro hb3 hbs hbs2;have k0:=HKc.out.c0;have k1:=HKc.out.c1;have m0:=HFQ.out.2 0;have m1:=HFQ.out.2 1;obtain⟨w9,hw9⟩:∃ W,W=(w3.setCell ⟨q,0,none⟩ (.slice Ae9 ne ce9)).setCell ⟨q,1,none⟩ (.slice Ak9 nk ck9):=⟨_,rfl⟩
  have HT9:Hid (RdO w9 (fun b=>w.heap.size≤b) (t) ⟨Ae9,ne,ce9⟩ ⟨Ak9,nk,ck9⟩):=by
   unfold Hid;rw[hw9];refine RdO.mono (fun b hb _=>hb.1) _ (RdO.keep (ok:=fun b=>w.heap.size≤b∧b≠q) (by simp[World.setCell]) (fun b hb hlt=>?_) _ HRO.out);exact (Below.heap_setCell _ ⟨q,1,none⟩ _ b (fun e=>hb.2 e)).trans (Below.heap_setCell _ ⟨q,0,none⟩ _ b (fun e=>hb.2 e))
  have HB9:Hid (Below w.heap.size w w9):=by unfold Hid;rw[hw9];exact (HKc.out.below.setCell (p:=⟨q,0,none⟩) hwq _).setCell (p:=⟨q,1,none⟩) hwq _
  have j0:w9.cell? ⟨q,0,none⟩=some (.slice Ae9 ne ce9):=by rw[hw9];go_simp
  have j1:w9.cell? ⟨q,1,none⟩=some (.slice Ak9 nk ck9):=by rw[hw9];go_simp
  have HW9:=Lib.hid hw9;clear hw9;go_wp2_with fail;rw[← HW9.out];refine bodyPost_ret (v:=.agg #[.slice Ae9 ne ce9,.slice Ak9 nk ck9]) (by simp[results,Tryz.results73,go_sem,j0,j1]) rfl ⟨Ae9,ne,ce9,Ak9,nk,ck9,rfl,HT9.out,HB9.out⟩
theorem get_any (t:T) (Ae Ak:Option Addr) (ne nk ce ck:Nat) (w:World) (l:List ByteArray) (A:Option Addr) (n c:Nat) (hl9:l.length=n) (hn9:n≤100000) (hrl:Rd w w.heap.size 1 A n c (strs l)) (hl:LenT reachBytes t) (hn:nodes t≤100000) (hr:RdT w w.heap.size t ⟨Ae,ne,ce⟩ ⟨Ak,nk,ck⟩) :
  Calls Tryz.prog 30 #[.agg #[.slice Ae ne ce,.slice Ak nk ck],.slice A n c] w (TreeIs (if rightB 5 t then getT t l else none_) w):=by
 obtain⟨u,hu⟩:∃ u,(if rightB 5 t then getT t l else none_)=u:=⟨_,rfl⟩
 rw[hu];have HL9:=Lib.hid hl9;have HRL:=Lib.hid hrl;clear hl9 hrl;have HRT:∀ W,Below w.heap.size w W→Calls Tryz.prog 36 #[.agg #[.slice Ae ne ce,.slice Ak nk ck]] W fun e w'=>e = .returned (.bool (rightB 5 t))∧Below W.heap.size W w':=fun W hW=>rightT_any t Ae Ak ne nk ce ck W hl (RdT.more hW.size _ (RdT.below hr hW));obtain⟨g,hg⟩:∃ g,g=w.heap.size:=⟨_,rfl⟩;have HK:=Lib.hid (tree_box w Ae Ak ne nk ce ck);rw[← hg]at HK;obtain⟨W0,hW0⟩:∃ W,W=w.alloc (.cells #[.slice Ae ne ce,.slice Ak nk ck] 25):=⟨_,rfl⟩;rw[← hW0]at HK;have HG:=Lib.hid hg;have HW0:=Lib.hid hW0;have k0:=HK.out.c0;have k1:=HK.out.c1;clear hg hW0;obtain⟨q,hq⟩:∃ q,q=W0.heap.size:=⟨_,rfl⟩;obtain⟨W1,hW1⟩:∃ W,W=W0.alloc (.cells #[.slice none 0 0,.slice none 0 0] 25):=⟨_,rfl⟩
 have hb1:Below W0.heap.size W0 W1:=by rw[hW1];exact Dt.box_below _ _ _
 have q0:W1.cell? ⟨q,0,none⟩=some (.slice none 0 0):=by rw[hW1,hq];go_simp
 have q1:W1.cell? ⟨q,1,none⟩=some (.slice none 0 0):=by rw[hW1,hq];go_simp
 have HFQ:Hid (Free q W1):=⟨by rw[hW1,hq];simp,fun j=>by rw[hW1,hq];go_simp⟩;have HFG:Hid (Free g W1):=(show Free g W0 from⟨World.block_lt_of_cell? W0 _ HK.out.c0,fun j=>by rw[HW0.out,HG.out];go_simp⟩).later hb1;have HKB:=Lib.hid (((HK.out.later hb1).cons_of q1).cons_of q0)
 have HQ:Hid (q=g+1):=by unfold Hid;rw[hq,HW0.out,HG.out];simp
 have hgW:g<W0.heap.size:=World.block_lt_of_cell? W0 _ HK.out.c0
 have hgq:g≠q:=by omega
 have hgq2:¬q=g:=by omega
 have hwg:w.heap.size≤g:=by have:=HG.out;omega
 have hwq:w.heap.size≤q:=by omega
 have HW1:=Lib.hid hW1;have HBq:Hid (Below w.heap.size w W1):=HKB.out.below;clear hq hW1 hb1 q0 q1 k0 k1;have k2:=HKB.out.c2;have k3:=HKB.out.c3
 cases hz:rightB 5 t with
 | false=>
  rw[hz,if_neg (by simp)]at hu;subst hu;rw[hz]at HRT;have HRT:=Lib.hid HRT;clear hz hr hl;go_enter Tryz.func30,Tryz.ntmps30;go_wp2_with fail;rw[← HG.out,← HW0.out,← HQ.out,← HW1.out];refine (HRT.out _ HBq.out).mono ?_;rintro e w2 ⟨rfl,hb2⟩;have HKc:=Lib.hid (HKB.out.later hb2);have HFQ:=Lib.hid (HFQ.out.later hb2);have HFG:=Lib.hid (HFG.out.later hb2);clear hb2 k2 k3;obtain⟨k0,k1,k2,k3,-⟩:=HKc.out.cj;have m0:=HFQ.out.2 0;have m1:=HFQ.out.2 1;obtain⟨w9,hw9⟩:∃ W,W=(w2.setCell ⟨q,0,none⟩ (.slice none 0 0)).setCell ⟨q,1,none⟩ (.slice none 0 0):=⟨_,rfl⟩
  have HB9:Hid (Below w.heap.size w w9):=by unfold Hid;rw[hw9];exact (HKc.out.below.setCell (p:=⟨q,0,none⟩) hwq _).setCell (p:=⟨q,1,none⟩) hwq _
  have j0:w9.cell? ⟨q,0,none⟩=some (.slice none 0 0):=by rw[hw9];go_simp
  have j1:w9.cell? ⟨q,1,none⟩=some (.slice none 0 0):=by rw[hw9];go_simp
  have HW9:=Lib.hid hw9;clear hw9;go_wp2_with fail;rw[← HW9.out];refine bodyPost_ret (v:=.agg #[.slice none 0 0,.slice none 0 0]) (by simp[results,Tryz.results30,go_sem,j0,j1]) rfl ⟨none,0,0,none,0,0,rfl,RdO.none _ _ _ _ _ _,HB9.out⟩
 | true=>
  rw[hz,if_pos rfl]at hu;subst hu;rw[hz]at HRT;have HRT:=Lib.hid HRT;have HRI:=Lib.hid (rightB_iff.1 hz);have HR:=Lib.hid hr;have HN:=Lib.hid hn;clear hz hr hl hn;go_enter Tryz.func30,Tryz.ntmps30;go_wp2_with fail;rw[← HG.out,← HW0.out,← HQ.out,← HW1.out];refine (HRT.out _ HBq.out).mono ?_;rintro e w2 ⟨rfl,hb2⟩;have HKc:=Lib.hid (HKB.out.later hb2);have HFQ:=Lib.hid (HFQ.out.later hb2);have HFG:=Lib.hid (HFG.out.later hb2);clear hb2 k2 k3;obtain⟨k0,k1,k2,k3,-⟩:=HKc.out.cj;have m0:=HFQ.out.2 0;have m1:=HFQ.out.2 1;go_wp2_with fail
  go_loopw [15] (fun i wr=>∃ (k:Nat) (u:T) (Ae5 Ak5:Option Addr) (ne5 nk5 ce5 ck5:Nat),k≤n∧i = .int .i64 k∧Hid (u=getT t (l.take k))∧Hid (RightT 5 u)∧Hid (nodes u≤100000)∧Hid (RdT w w.heap.size u ⟨Ae5,ne5,ce5⟩ ⟨Ak5,nk5,ck5⟩)∧Hid (Kept [(⟨g,0,none⟩,.slice Ae5 ne5 ce5),(⟨g,1,none⟩,.slice Ak5 nk5 ck5),(⟨q,0,none⟩,.slice none 0 0),(⟨q,1,none⟩,.slice none 0 0)] w wr)∧Hid (Free g wr)∧Hid (Free q wr)) (fun i _=>n-(intOf i).toNat)
  case atStart=>
   exact⟨0,t,Ae,Ak,ne,nk,ce,ck,by omega,rfl,rfl,HRI.out,HN.out,HR.out,((((Kept.nil_of HKc.out.below).cons_of k1).cons_of k0).cons_of k3).cons_of k2,HFG.out,HFQ.out⟩
  case round=>
   obtain⟨k,u,Ae5,Ak5,ne5,nk5,ce5,ck5,hk,rfl,HU,HRU,HNU,HR5,HKW,HFGW,HFQW⟩:=hrel;clear k0 k1 k2 k3 m0 m1;obtain⟨k0,k1,k2,k3,-⟩:=HKW.out.cj;have m0:=HFQW.out.2 0;have m1:=HFQW.out.2 1
   by_cases hlt:k<n
   ·have hkl:k<l.length:=by rw[HL9.out];exact hlt
    obtain⟨b,o,rfl,hb,hc⟩:=HRL.out.at_ (by omega);obtain⟨x,hx⟩:∃ x,x=l[k]:=⟨_,rfl⟩;have cx:=(HKW.out.below.cell (p:=⟨b,o+k,none⟩) hb).trans (hc k (.string x) (by rw[hx];simp[strs,hkl]));have HSU:=Lib.hid (getT_succ t hkl);have HX:=Lib.hid hx;clear hc hx;obtain⟨es,ks,rfl⟩:∃ es ks,u = .mk es ks:=⟨u.es,u.ks,(T.eta u).symm⟩;have hlens:=rd_lens HR5.out
    have hnk5:nk5≤100000:=by have:=nodes_es es ks;have:=HNU.out;omega
    have HSE:=Lib.hid (searchK_any es ks Ae5 Ak5 ne5 nk5 ce5 ck5 x wr (by omega) (RdT.more HKW.out.below.size _ (RdT.below HR5.out HKW.out.below)) (rise_keys HRU.out));have HLK5:=Lib.hid hlens.2;clear hlens;go_wp2_with fail;refine HSE.out.mono ?_;rintro e w3 ⟨i3,z,rfl,⟨hz1,hz2⟩,hb3⟩;have HKW:=Lib.hid (HKW.out.later hb3);have HFGW:=Lib.hid (HFGW.out.later hb3);have HFQW:=Lib.hid (HFQW.out.later hb3);clear k0 k1 k2 k3 m0 m1 hb3 cx;obtain⟨k0,k1,k2,k3,-⟩:=HKW.out.cj;have m0:=HFQW.out.2 0;have m1:=HFQW.out.2 1
    cases z with
    | false=>
     have hno:=kidAt_no (hz2 rfl)
     have hnone:getT t l=none_:=by
      refine getT_cut (k:=k+1) ?_;rw[HSU.out,← HU.out,← HX.out];exact hno
     have HNONE:=Lib.hid hnone;clear hz1 hz2 hno hnone;obtain⟨w9,hw9⟩:∃ W,W=(w3.setCell ⟨q,0,none⟩ (.slice none 0 0)).setCell ⟨q,1,none⟩ (.slice none 0 0):=⟨_,rfl⟩
     have HB9:Hid (Below w.heap.size w w9):=by unfold Hid;rw[hw9];exact (HKW.out.below.setCell (p:=⟨q,0,none⟩) hwq _).setCell (p:=⟨q,1,none⟩) hwq _
     have j0:w9.cell? ⟨q,0,none⟩=some (.slice none 0 0):=by rw[hw9];go_simp
     have j1:w9.cell? ⟨q,1,none⟩=some (.slice none 0 0):=by rw[hw9];go_simp
     have HW9:=Lib.hid hw9;clear hw9;go_wp2_with fail;rw[← HW9.out];rw[HNONE.out];refine bodyPost_ret (v:=.agg #[.slice none 0 0,.slice none 0 0]) (by simp[results,Tryz.results30,go_sem,j0,j1]) rfl ⟨none,0,0,none,0,0,rfl,RdO.none _ _ _ _ _ _,HB9.out⟩
    | true=>
     obtain⟨h31,h32⟩:=hz1 rfl
     have hik:i3<ks.length:=by rw[HLK5.out];exact h31
     obtain⟨b2,o2,rfl,hb2,hc2⟩:=rd_kid HR5.out (by omega);obtain⟨⟨Ae6,ne6,ce6⟩,⟨Ak6,nk6,ck6⟩,_,c1,c2,hkid⟩:=hc2 i3 hik;dsimp only at c1 c2;have c1:=(HKW.out.below.cell (p:=⟨b2,o2+i3*3+1,none⟩) hb2).trans c1;have c2:=(HKW.out.below.cell (p:=⟨b2,o2+i3*3+2,none⟩) hb2).trans c2
     have hu2:(ks[i3]).2=getT t (l.take (k+1)):=by
      rw[HSU.out,← HU.out,← HX.out,← h32 hik];exact (kidAt_at HRU.out.2.2.1 hik).symm
     have HU2:=Lib.hid hu2;have HRU2:Hid (RightT 5 (ks[i3]).2):=(HRU.out.2.2.2 _ (List.getElem_mem hik)).2.2.more;have HNU2:Hid (nodes (ks[i3]).2≤100000):=Nat.le_trans (nodes_kid (List.getElem_mem hik)) HNU.out;have HKID:=Lib.hid hkid;have m2:=HFGW.out.2 0;have m3:=HFGW.out.2 1;obtain⟨w4,hw4⟩:∃ W,W=(w3.setCell ⟨g,0,none⟩ (.slice Ae6 ne6 ce6)).setCell ⟨g,1,none⟩ (.slice Ak6 nk6 ck6):=⟨_,rfl⟩
     have j0:w4.cell? ⟨g,0,none⟩=some (.slice Ae6 ne6 ce6):=by rw[hw4];go_simp
     have j1:w4.cell? ⟨g,1,none⟩=some (.slice Ak6 nk6 ck6):=by rw[hw4];go_simp
     have HB4:Hid (Below w.heap.size w w4):=by unfold Hid;rw[hw4];exact (HKW.out.below.setCell (p:=⟨g,0,none⟩) hwg _).setCell (p:=⟨g,1,none⟩) hwg _
     have j2:w4.cell? ⟨q,0,none⟩=some (.slice none 0 0):=by rw[hw4];go_simp
     have j3:w4.cell? ⟨q,1,none⟩=some (.slice none 0 0):=by rw[hw4];go_simp
     have HK4:=Lib.hid (((((Kept.nil_of HB4.out).cons_of j3).cons_of j2).cons_of j1).cons_of j0)
     have HFG4:Hid (Free g w4):=by unfold Hid;rw[hw4];exact (HFGW.out.set _ _).set _ _
     have HFQ4:Hid (Free q w4):=by unfold Hid;rw[hw4];exact (HFQW.out.set _ _).set _ _
     have HW4:=Lib.hid hw4
     have h31i:(i3:Int)<nk5:=by omega
     clear hz1 hz2 hc2 hkid hu2 h32 hw4 j0 j1 j2 j3;go_wp2_with fail;rw[← HW4.out];go_roundw
     case rel=>exact⟨k+1,_,Ae6,Ak6,ne6,nk6,ce6,ck6,by omega,by go_num,HU2.out,HRU2.out,HNU2.out,HKID.out,HK4.out,HFG4.out,HFQ4.out⟩
     case measure=>simp[intOf];omega
   ·obtain rfl:k=n:=by omega
    have hall:l.take k=l:=List.take_of_length_le (by rw[HL9.out];omega)
    have HUA:Hid (u=getT t l):=by have:=HU.out;rwa [hall]at this
    clear hall;go_wp2_with fail;refine (copied_any u Ae5 Ak5 ne5 nk5 ce5 ck5 wr HNU.out (RdT.more HKW.out.below.size _ (RdT.below HR5.out HKW.out.below))).mono ?_;rintro e w3 ⟨Ae9,ce9,Ak9,ck9,rfl,hro,hb3⟩;have hqw2:q<wr.heap.size:=World.block_lt_of_cell? wr _ k2
    have hww:w.heap.size≤wr.heap.size:=by omega
    have HKW:=Lib.hid (HKW.out.later hb3);have HFQW:=Lib.hid (HFQW.out.later hb3);have HRO:=Lib.hid (RdO.mono (ok':=fun b=>w.heap.size≤b∧b≠q) (fun b hb _=>⟨by omega,fun e=>by omega⟩) _ hro);clear k0 k1 k2 k3 m0 m1 hro hb3;have k2:=HKW.out.c2;have k3:=HKW.out.c3;have m0:=HFQW.out.2 0;have m1:=HFQW.out.2 1;obtain⟨w9,hw9⟩:∃ W,W=(w3.setCell ⟨q,0,none⟩ (.slice Ae9 ne5 ce9)).setCell ⟨q,1,none⟩ (.slice Ak9 nk5 ck9):=⟨_,rfl⟩
    have HT9:Hid (RdO w9 (fun b=>w.heap.size≤b) (u) ⟨Ae9,ne5,ce9⟩ ⟨Ak9,nk5,ck9⟩):=by
     unfold Hid;rw[hw9];refine RdO.mono (fun b hb _=>hb.1) _ (RdO.keep (ok:=fun b=>w.heap.size≤b∧b≠q) (by simp[World.setCell]) (fun b hb hlt=>?_) _ HRO.out);exact (Below.heap_setCell _ ⟨q,1,none⟩ _ b (fun e=>hb.2 e)).trans (Below.heap_setCell _ ⟨q,0,none⟩ _ b (fun e=>hb.2 e))
    have HB9:Hid (Below w.heap.size w w9):=by unfold Hid;rw[hw9];exact (HKW.out.below.setCell (p:=⟨q,0,none⟩) hwq _).setCell (p:=⟨q,1,none⟩) hwq _
    have j0:w9.cell? ⟨q,0,none⟩=some (.slice Ae9 ne5 ce9):=by rw[hw9];go_simp
    have j1:w9.cell? ⟨q,1,none⟩=some (.slice Ak9 nk5 ck9):=by rw[hw9];go_simp
    have HW9:=Lib.hid hw9;clear hw9;go_wp2_with fail;rw[← HW9.out];refine bodyPost_ret (v:=.agg #[.slice Ae9 ne5 ce9,.slice Ak9 nk5 ck9]) (by simp[results,Tryz.results30,go_sem,j0,j1]) rfl ⟨Ae9,ne5,ce9,Ak9,nk5,ck9,rfl,by have h9:=HT9.out;rw[HUA.out]at h9;exact h9,HB9.out⟩
end Tr
end Go.Proofs.YtjpcechcefhcfaaGreat
namespace Go.Proofs.YtjpcechcefhcfaaGreat
open Go.RowKit Go.Shelf
namespace Tr
open Sp Rw
attribute [local go_sem] Oper.semAt_some
def KpB (n₀ Bs:Nat) (W W':World):Prop:=Below n₀ W W'∧W'.cell? ⟨Bs,0,none⟩=W.cell? ⟨Bs,0,none⟩
theorem kpB_t {n₀ Bs:Nat} {A B C:World} (h:KpB n₀ Bs A B) (k:KpB n₀ Bs B C):KpB n₀ Bs A C:=⟨h.1.trans k.1,k.2.trans h.2⟩
theorem kpB_b {n₀ Bs:Nat} {w:World} (hn:n₀≤w.heap.size) (hb:Bs<w.heap.size) (W:World) (l:Nat) (o o':Obj) (hl:w.heap.size≤l) (h:W.heap[l]?=some o) (hc:o.isCells=false) (hw:o.isWalk=false):KpB n₀ Bs W (W.putObj l o'):=
 ⟨belowK_b hn W l o o' hl h hc hw,World.cell?_of_block (a:=⟨Bs,0,none⟩) (World.putObj_heap_other (show Bs≠l by omega))⟩
def backOf (f:Nat→ByteArray) (len:Nat) (j:Nat):Nat×ByteArray:=(len-1-j,f (len-1-j))
set_option maxRecDepth 100000 in
set_option maxHeartbeats 2000000 in
theorem backward1_in (F:Fence) (n:Nat) (h7:F.fn 100) (hro:F.round=none) (hn:1≤n) (l Bs n₀ len cap:Nat) (A:Option Addr) (f:Nat→ByteArray) (hreach:len≤1000000) (J Jx:List (Nat×ByteArray)→World→Prop)
  (hY:∀ pre x W,J pre W→pre.length<len→YieldAt F (n-1) Tryz.prog l #[.int .i64 (x.1:Int),.string x.2] W fun e W'=>
   (e = .returned (.bool true)∧J (pre++[x]) W'∧KpB n₀ Bs W W')∨(e = .returned (.bool false)∧Jx (pre++[x]) W'))
  (W:World) (hBs:W.cell? ⟨Bs,0,none⟩=some (.slice A len cap)) (hc:TextsAt n₀ W A len f) (h0:J [] W) :
  CallsIn F n Tryz.prog 100 #[.func (.yield l) #[] #[],.pointer (some ⟨Bs,0,none⟩)] W fun e W'=>(∃ v,e = .returned v) ∧
   ((∃ ys,ys=upto (backOf f len) len∧J ys W')∨(∃ pre,(∃ k,k≤len∧pre=upto (backOf f len) k)∧Jx pre W')):=by
 have HC:=Lib.hid hc
 have hw0:IntKind.i64.wrap ((len:Int)-1)=(len:Int)-1:=by rw[IntKind.wrap_i64];omega
 have hcell:=hBs;clear hc;refine callsIn_of_wp Tryz.func100 rfl h7 ?_ hro;simp only[Tryz.ntmps100,List.size_toArray,List.length_cons,List.length_nil,Nat.reduceAdd,Nat.reduceSub,Array.replicate_succ,Array.replicate_zero,List.push_toArray,List.append_toArray,List.nil_append,List.cons_append]
 gi_wp2
 gi_loopw [3] (fun i wr=>∃ k:Nat,k≤len∧i = .int .i64 ((len:Int)-1-k)∧J (upto (backOf f len) k) wr∧KpB n₀ Bs W wr)
  (fun i _=>(intOf i+1).toNat)
 case atStart=>exact⟨0,Nat.zero_le _,by simp,h0,Below.refl _ _,rfl⟩
 case round=>
  obtain⟨k,hk,rfl,hJs,hnx⟩:=hrel
  by_cases hlt:k<len
  ·obtain⟨m,hm⟩:∃ m:Nat,m+k+1=len:=⟨len-1-k,by omega⟩
   have hmi:(len:Int)-1-k=(m:Int):=by omega
   have hmn:len-1-k=m:=by omega
   obtain⟨b,o,rfl,hb,hcx⟩:=(HC.out.below hnx.1) m (by omega);have hbx:=hnx.2.trans hcell;rw[hmi];have f1:decide ((0:Int)≤(m:Int))=true:=decide_eq_true (by omega)
   have hml:(m:Int)<(len:Int):=by omega
   have hwm:IntKind.i64.wrap ((m:Int)-1)=(m:Int)-1:=by rw[IntKind.wrap_i64];omega
   have HMM:=Lib.hid hmi;obtain⟨fn,tmps,assign,body,hy,hR⟩:=hY _ (m,f m) wr hJs (by rw[upto_length];exact hlt);dsimp only at hy
   have hup:upto (backOf f len) (k+1)=upto (backOf f len) k++[(m,f m)]:=by rw[upto_succ];unfold backOf;rw[hmn]
   have HUP:=Lib.hid hup;clear hup hmi hmn hm
   gi_wp2
   refine hR.mono ?_;rintro e W3 (⟨rfl,hJ3,hk3⟩ | ⟨rfl,hJx3⟩)
   ·have hk4:=kpB_t hnx hk3
    gi_wp2
    go_roundw
    case rel=>exact⟨k+1,by omega,by have:=HMM.out;first | rfl | (refine congrArg _ ?_;omega) | (simp;omega),by rw[HUP.out];exact hJ3,hk4⟩
    case measure=>simp[intOf]
   ·gi_wp2
    refine bodyPost_ret (results_none rfl _ _ _) rfl ?_;exact⟨⟨_,rfl⟩,.inr ⟨_,⟨k+1,by omega,HUP.out.symm⟩,hJx3⟩⟩
  ·obtain rfl:k=len:=by omega
   have hmi:(k:Int)-1-k = -1:=by omega
   rw[hmi]
   gi_wp2
   go_end0
   exact⟨⟨_,rfl⟩,.inl ⟨_,rfl,hJs⟩⟩
theorem backward_stops (F:Fence) (n:Nat) (h7:F.fn 100) (hro:F.round=none) (hn:1≤n) (Bs n₀ len cap:Nat) (A:Option Addr) (f:Nat→ByteArray) (hreach:len≤1000000) (w:World) (hBs:Bs<w.heap.size) (hn₀:n₀≤w.heap.size)
  (hc:w.cell? ⟨Bs,0,none⟩=some (.slice A len cap)) (hI:TextsAt n₀ w A len f) :
  SeqStopsK F n Tryz.prog 100 #[.pointer (some ⟨Bs,0,none⟩)] (fun x:Nat×ByteArray=>#[Value.int .i64 (x.1:Int),Value.string x.2]) (KpB n₀ Bs) (fun ys=>ys=upto (backOf f len) len) (fun pre=>∃ k,k≤len∧pre=upto (backOf f len) k) len w:=fun l J Jx W hW _ _ hY h0=>
 backward1_in F n h7 hro hn l Bs n₀ len cap A f hreach J Jx hY W ((hW.cell (p:=⟨Bs,0,none⟩) hBs).trans hc) (hI.below (hW.mono hn₀)) h0
theorem backward_any (A:Option Addr) (n c:Nat) (w:World):Calls Tryz.prog 72 #[.slice A n c] w fun e w'=>e = .returned (.func (.func 100) #[] #[.pointer (some ⟨w.heap.size,0,none⟩)])∧w'=w.alloc (.cells #[.slice A n c] 44):=by
 go_enter Tryz.func72,Tryz.ntmps72;go_wp2;go_ret;exact⟨rfl,rfl⟩
theorem back_all (l:List ByteArray) {n:Nat} (h:l.length=n):((upto (backOf (fun j=>l[j]?.getD ByteArray.empty) n) n).map fun x=>x.2).reverse=l:=by
 subst h
 apply List.ext_getElem
 ·simp[upto]
 ·intro i h1 h2
  have e:l.length-1-(l.length-1-i)=i:=by omega
  simp[upto,backOf,List.getElem_reverse,e,h2]
theorem RO.kept {w w':World} {ok:Nat→Prop} {sz n c:Nat} {A:Option Addr} {xs:List Value} {row:Option Nat} (hsz:0<sz) (h:RO w ok sz A n c xs) (hg:w.grownBy w' row) (hr:∀ r,row=some r→∃ o:Obj,w.heap[r]?=some o∧o.isCells=false):RO w' ok sz A n c xs:=
 ⟨h.len,h.cap,h.one,fun hn=>by
  obtain⟨b,o,e,h1,hb,h2,hc⟩:=h.at_ hn
  have hpos:0<xs.length:=by rw[h.len];exact Nat.mul_pos hn hsz
  have h0:=hc 0 _ (List.getElem?_eq_getElem hpos)
  have hne:some b≠row:=fun e2=>by
   obtain⟨ob,ho,hcl⟩:=hr b e2.symm;unfold World.cell? at h0;rw[ho]at h0
   cases ob <;> first | (cases hcl;done) | (cases h0;done)
  have hk:=hg.block b hb hne
  exact⟨b,o,e,h1,Nat.lt_of_lt_of_le hb hg.size,fun j=>(World.frozen?_of_block (a:=⟨b,j,none⟩) hk).trans (h2 j),fun j u hu=>(World.cell?_of_block (a:=⟨b,o+j,none⟩) hk).trans (hc j u hu)⟩⟩
theorem RdO.kept {w w':World} {ok:Nat→Prop} {row:Option Nat} (hg:w.grownBy w' row) (hr:∀ r,row=some r→∃ o:Obj,w.heap[r]?=some o∧o.isCells=false):∀ (t:T) {se sk:SV},RdO w ok t se sk→RdO w' ok t se sk:=by
 intro t
 induction t using T.ind with
 | h es ks ih=>
  intro se sk h;rw[rdO_mk]at h ⊢;obtain⟨h1,h2,h3,xs,h4,h5⟩:=h;refine⟨h1,h2.kept (by omega) hg hr,h3,xs,h4.kept (by omega) hg hr,fun i hi=>?_⟩;obtain⟨se',sk',e1,e2,e3,e4⟩:=h5 i hi;exact⟨se',sk',e1,e2,e3,ih _ (List.getElem_mem hi) e4⟩
theorem RdO.one {w:World} {ok:Nat→Prop} {t:T} {A B:Option Addr} {n c m d:Nat} (h:RdO w ok t ⟨A,n,c⟩ ⟨B,m,d⟩) (hok:ok w.heap.size) (k:ByteArray) (ty:TypeId) :
  RdO (w.alloc (.cells #[.string k,.slice A n c,.slice B m d] ty)) ok (.mk [] [(k,t)]) ⟨Option.none,0,0⟩ ⟨some ⟨w.heap.size,0,Option.none⟩,1,1⟩:=by
 rw[rdO_mk];refine⟨rfl,RO.nil _ _ _ _ _,rfl,[.string k,.slice A n c,.slice B m d],⟨rfl,Nat.le_refl _,fun u hu=>?_,fun _=>⟨w.heap.size,0,rfl,hok,by simp,fun j=>by go_simp,fun j u hu=>?_⟩⟩,fun i hi=>?_⟩
 ·simp at hu
  rcases hu with rfl | rfl | rfl <;> rfl
 ·rw[Nat.zero_add,cell_of_row _ _ j _ _ (0,0) (heap_alloc_new _ _)]
  simpa using hu
 ·have:i=0:=by simp at hi;omega
  subst this;exact⟨⟨A,n,c⟩,⟨B,m,d⟩,rfl,rfl,rfl,RdO.later h ((Below.refl _ _).alloc (Nat.le_refl _) _)⟩
def badB (l:List ByteArray):Bool:=l.any fun k=>!keyB k
theorem badB_iff {l:List ByteArray} : badB l=false↔∀ k∈l,KeyOk k:=by
 unfold badB;rw[List.any_eq_false];simp only[Bool.not_eq_true',Bool.not_eq_false];exact⟨fun h k hk=>keyB_iff.1 (h k hk),fun h k hk=>keyB_iff.2 (h k hk)⟩
theorem wrapkey_any (k:ByteArray) (w:World):Calls Tryz.prog 68 #[.string k] w fun e w'=>e = .returned (.bool (!keyB k))∧w'=w:=by
 have H:=fun W=>Lib.hid (rightKey_any k W);obtain⟨z,hz⟩:∃ z,z=keyB k:=⟨_,rfl⟩;rw[← hz]at H ⊢;clear hz;go_enter Tryz.func68,Tryz.ntmps68;go_wp2_with (go_at_call 69;refine (H _).out.mono ?_;rintro e w' ⟨rfl,rfl⟩);go_ret;exact⟨rfl,rfl⟩
set_option maxHeartbeats 1000000 in
theorem indexf_any (l:List ByteArray) (n:Nat) (A:Option Addr) (c:Nat) (w:World) (hl:l.length=n) (hn:n≤1000000) (hr:Rd w w.heap.size 1 A n c (strs l)) :
  Calls Tryz.prog 99 #[.slice A n c,.func (.func 68) #[] #[]] w fun e w'=>∃ r:Int,e = .returned (.int .i64 r)∧(decide (0≤r)=badB l)∧w'=w:=by
 have HL:=Lib.hid hl;have HR:=Lib.hid hr;obtain⟨bz,hbz⟩:∃ z,badB l=z:=⟨_,rfl⟩;rw[hbz];have HBZ:=Lib.hid hbz;clear hl hr hbz;go_enter Tryz.func99,Tryz.ntmps99;go_wp2_with fail
 go_loopw [8] (fun i wr=>∃ k:Nat,k≤n∧i = .int .i64 k∧Hid (∀ x∈l.take k,keyB x=true)∧wr=w) (fun i _=>n-(intOf i).toNat)
 case atStart=>exact⟨0,by omega,rfl,fun x hx=>by simp at hx,rfl⟩
 case round=>
  obtain⟨k,hk,rfl,HA,rfl⟩:=hrel
  by_cases hlt:k<n
  ·have hkl:k<l.length:=by rw[HL.out];exact hlt
   obtain⟨b,o,rfl,hb,hc⟩:=HR.out.at_ (by omega);obtain⟨x,hx⟩:∃ x,x=l[k]:=⟨_,rfl⟩;have cx:=hc k (.string x) (by rw[hx];simp[strs,hkl])
   have htk:l.take (k+1)=l.take k++[x]:=by rw[hx];exact List.take_succ_eq_append_getElem hkl
   have hmem:x∈l:=by rw[hx];exact List.getElem_mem hkl
   have HW:=fun W=>Lib.hid (wrapkey_any x W)
   cases hz:keyB x with
   | true=>
    rw[hz]at HW
    have HA2:Hid (∀ x∈l.take (k+1),keyB x=true):=fun y hy=>by
     rw[htk]at hy
     rcases List.mem_append.1 hy with hy | hy
     ·exact HA.out y hy
     ·rw[List.mem_singleton.1 hy];exact hz
    clear hc hx htk hmem hz;go_wp2_with (go_at_call 68;refine (HW _).out.mono ?_;rintro e w' ⟨rfl,rfl⟩);go_roundw
    case rel=>exact⟨k+1,by omega,by go_num,HA2.out,by first | rfl | trivial⟩
    case measure=>simp[intOf];omega
   | false=>
    rw[hz]at HW
    have hbad:badB l=true:=by
     cases hb2:badB l with
     | true=>rfl
     | false=>exact absurd (keyB_iff.2 (badB_iff.1 hb2 x hmem)) (by rw[hz];simp)
    have HBAD:=Lib.hid hbad;clear hc hx htk hmem hz hbad;go_wp2_with (go_at_call 68;refine (HW _).out.mono ?_;rintro e w' ⟨rfl,rfl⟩);go_ret;exact⟨k,rfl,by rw[← HBZ.out,HBAD.out];exact decide_eq_true (by omega),rfl⟩
  ·obtain rfl:k=n:=by omega
   have hbad:badB l=false:=by
    rw[badB_iff];intro x hx;refine keyB_iff.1 (HA.out x ?_);rw[List.take_of_length_le (by rw[HL.out];omega)];exact hx
   have HBAD:=Lib.hid hbad;clear hbad;go_wp2_with fail;go_ret;exact⟨-1,rfl,by rw[← HBZ.out,HBAD.out];rfl,rfl⟩
theorem containsf_any (l:List ByteArray) (n:Nat) (A:Option Addr) (c:Nat) (w:World) (hl:l.length=n) (hn:n≤1000000) (hr:Rd w w.heap.size 1 A n c (strs l)) (z:Bool) (hz:badB l=z) :
  Calls Tryz.prog 67 #[.slice A n c,.func (.func 68) #[] #[]] w fun e w'=>e = .returned (.bool z)∧w'=w:=by
 have H:=Lib.hid (indexf_any l n A c w hl hn hr);rw[hz]at H;clear hl hr hz;go_enter Tryz.func67,Tryz.ntmps67;go_wp2_with fail;refine H.out.mono ?_;rintro e w' ⟨r,rfl,hr,rfl⟩;go_wp2_with fail;go_ret;exact⟨Dt.ret_bool (by first | exact hr | rfl),rfl⟩
end Tr
end Go.Proofs.YtjpcechcefhcfaaGreat
namespace Go.Proofs.YtjpcechcefhcfaaGreat
open Go.ChangeShapes Go.WideShapes Go.ChangeAt Go.RowKit Go.Shelf
namespace Tr
open Sp Rw
attribute [local go_sem] Oper.semAt_some
open Classical in
noncomputable def wrapE (t:T) (p:List ByteArray):Int:=if (!rightB 5 t||badB p)=true then 1 else if 5<p.length then 10 else if t.es=[]∧t.ks=[]then 0 else if 5<levels t+p.length then 10 else 0
open Classical in
noncomputable def wrapR (t:T) (p:List ByteArray):T:=if wrapE t p=0∧¬(t.es=[]∧t.ks=[])then wrapT t p else none_
def TreeErr (u:T) (x:Int) (w:World) (e:Ending) (w':World):Prop:=∃ Ae ne ce Ak nk ck,e = .returned (.tuple #[.agg #[.slice Ae ne ce,.slice Ak nk ck],.int .i64 x])∧RdO w' (fun b=>w.heap.size≤b) u ⟨Ae,ne,ce⟩ ⟨Ak,nk,ck⟩∧Below w.heap.size w w'
set_option maxRecDepth 100000 in
set_option maxHeartbeats 4000000 in
theorem wrap_any (t:T) (Ae Ak:Option Addr) (ne nk ce ck:Nat) (l:List ByteArray) (A:Option Addr) (n c:Nat) (w:World) (hl9:l.length=n) (hn9:n≤100000) (hrl:Rd w w.heap.size 1 A n c (strs l)) (hl:LenT reachBytes t) (hn:nodes t≤100000) (hr:RdT w w.heap.size t ⟨Ae,ne,ce⟩ ⟨Ak,nk,ck⟩) :
    Calls Tryz.prog 38 #[.agg #[.slice Ae ne ce,.slice Ak nk ck],.slice A n c] w (TreeErr (wrapR t l) (wrapE t l) w):=by
  have hempty:(t.es=[]∧t.ks=[])↔(ne=0∧nk=0):=by
    have:=hr;rw[← T.eta t]at this;have:=rd_lens this;rw[← this.1,← this.2,List.length_eq_zero_iff,List.length_eq_zero_iff]
  obtain⟨u,hu⟩:∃ u,wrapR t l=u:=⟨_,rfl⟩;obtain⟨x,hx⟩:∃ x,wrapE t l=x:=⟨_,rfl⟩;rw[hu,hx];unfold wrapR at hu;rw[hx]at hu;unfold wrapE at hx;rw[hl9]at hx;have HRT:∀ W,Below w.heap.size w W→Hid (Calls Tryz.prog 36 #[.agg #[.slice Ae ne ce,.slice Ak nk ck]] W fun e w'=>e = .returned (.bool (rightB 5 t))∧Below W.heap.size W w'):=fun W hW=>rightT_any t Ae Ak ne nk ce ck W hl (RdT.more hW.size _ (RdT.below hr hW));have HCF:∀ W,Below w.heap.size w W→Hid (Calls Tryz.prog 67 #[.slice A n c,.func (.func 68) #[] #[]] W fun e w'=>e = .returned (.bool (badB l))∧w'=W):=fun W hW=>containsf_any l n A c W hl9 (by omega) ((hrl.below hW).more hW.size) _ rfl;have HEM:∀ W,Hid (Calls Tryz.prog 70 #[.agg #[.slice Ae ne ce,.slice Ak nk ck]] W fun e w'=>e = .returned (.bool (decide (ne=0∧nk=0)))∧Below W.heap.size W w'):=fun W=>empty_any Ae Ak ne nk ce ck W
  have HLV:∀ W,Below w.heap.size w W→Hid (Calls Tryz.prog 71 #[.agg #[.slice Ae ne ce,.slice Ak nk ck]] W fun e w'=>e = .returned (.int .i64 (levels t))∧Below W.heap.size W w'):=fun W hW=>levels_any t Ae Ak ne nk ce ck W (by omega) (RdT.more hW.size _ (RdT.below hr hW));have HCO:∀ W,Below w.heap.size w W→Hid (Calls Tryz.prog 60 #[.agg #[.slice Ae ne ce,.slice Ak nk ck]] W (CopyIs t ne nk W)):=fun W hW=>copied_any t Ae Ak ne nk ce ck W hn (RdT.more hW.size _ (RdT.below hr hW));obtain⟨g,hg⟩:∃ g,g=w.heap.size:=⟨_,rfl⟩;have HK:=Lib.hid (tree_box w Ae Ak ne nk ce ck);rw[← hg]at HK;obtain⟨W0,hW0⟩:∃ W,W=w.alloc (.cells #[.slice Ae ne ce,.slice Ak nk ck] 25):=⟨_,rfl⟩;rw[← hW0]at HK;have HG:=Lib.hid hg;have HW0:=Lib.hid hW0;have k0:=HK.out.c0;have k1:=HK.out.c1;clear hg hW0
  obtain⟨q,hq⟩:∃ q,q=W0.heap.size:=⟨_,rfl⟩;obtain⟨W1,hW1⟩:∃ W,W=W0.alloc (.cells #[.slice none 0 0,.slice none 0 0] 25):=⟨_,rfl⟩
  have hb1:Below W0.heap.size W0 W1:=by rw[hW1];exact Dt.box_below _ _ _
  have q0:W1.cell? ⟨q,0,none⟩=some (.slice none 0 0):=by rw[hW1,hq];go_simp
  have q1:W1.cell? ⟨q,1,none⟩=some (.slice none 0 0):=by rw[hW1,hq];go_simp
  have HFQ:Hid (Free q W1):=⟨by rw[hW1,hq];simp,fun j=>by rw[hW1,hq];go_simp⟩;have HFG:Hid (Free g W1):=(show Free g W0 from⟨World.block_lt_of_cell? W0 _ HK.out.c0,fun j=>by rw[HW0.out,HG.out];go_simp⟩).later hb1;have HKB:=Lib.hid (((HK.out.later hb1).cons_of q1).cons_of q0)
  have HQ:Hid (q=g+1):=by unfold Hid;rw[hq,HW0.out,HG.out];simp
  have hgW:g<W0.heap.size:=World.block_lt_of_cell? W0 _ HK.out.c0
  have hgq:g≠q:=by omega
  have hgq2:¬q=g:=by omega
  have hwg:w.heap.size≤g:=by have:=HG.out;omega
  have hwq:w.heap.size≤q:=by omega
  have HW1:=Lib.hid hW1;have HBq:Hid (Below w.heap.size w W1):=HKB.out.below;clear hq hW1 hb1 q0 q1 k0 k1;have HKc:=HKB;obtain⟨k0,k1,k2,k3,-⟩:=HKc.out.cj;have m0:=HFQ.out.2 0;have m1:=HFQ.out.2 1
  cases hz:rightB 5 t with
  | false=>
    rw[hz,Bool.not_false,Bool.true_or,if_pos rfl]at hx;subst hx;rw[if_neg (by simp)]at hu;subst hu;rw[hz]at HRT;clear HCF HEM HLV HCO hempty hz hr hl hrl hl9;go_enter Tryz.func38,Tryz.ntmps38;go_wp2_with fail;rw[← HG.out,← HW0.out,← HQ.out,← HW1.out];refine (HRT _ HKc.out.below).out.mono ?_;rintro e w2 ⟨rfl,hb⟩;have HKc:=Lib.hid (HKc.out.later hb);have HFQ:=Lib.hid (HFQ.out.later hb);clear hb;clear k0 k1 k2 k3 m0 m1;obtain⟨k0,k1,k2,k3,-⟩:=HKc.out.cj;have m0:=HFQ.out.2 0;have m1:=HFQ.out.2 1;obtain⟨w9,hw9⟩:∃ W,W=(w2.setCell ⟨q,0,none⟩ (.slice none 0 0)).setCell ⟨q,1,none⟩ (.slice none 0 0):=⟨_,rfl⟩
    have HB9:Hid (Below w.heap.size w w9):=by unfold Hid;rw[hw9];exact (HKc.out.below.setCell (p:=⟨q,0,none⟩) hwq _).setCell (p:=⟨q,1,none⟩) hwq _
    have j0:w9.cell? ⟨q,0,none⟩=some (.slice none 0 0):=by rw[hw9];go_simp
    have j1:w9.cell? ⟨q,1,none⟩=some (.slice none 0 0):=by rw[hw9];go_simp
    have HW9:=Lib.hid hw9;clear hw9;go_wp2_with fail;rw[← HW9.out];refine bodyPost_ret (v:=.tuple #[.agg #[.slice none 0 0,.slice none 0 0],.int .i64 1]) (by simp[results,Tryz.results38,go_sem,j0,j1]) rfl ⟨none,0,0,none,0,0,rfl,RdO.none _ _ _ _ _ _,HB9.out⟩
  | true=>
  cases hbd:badB l with
  | true=>
    rw[hz,hbd,Bool.or_true,if_pos rfl]at hx;subst hx;rw[if_neg (by simp)]at hu;subst hu;rw[hz]at HRT;rw[hbd]at HCF;clear HEM HLV HCO hempty hz hbd hr hl hrl hl9;go_enter Tryz.func38,Tryz.ntmps38;go_wp2_with fail;rw[← HG.out,← HW0.out,← HQ.out,← HW1.out];refine (HRT _ HKc.out.below).out.mono ?_;rintro e w2 ⟨rfl,hb⟩;have HKc:=Lib.hid (HKc.out.later hb);have HFQ:=Lib.hid (HFQ.out.later hb);clear hb;clear k0 k1 k2 k3 m0 m1;obtain⟨k0,k1,k2,k3,-⟩:=HKc.out.cj;have m0:=HFQ.out.2 0;have m1:=HFQ.out.2 1;go_wp2_with fail;refine (HCF _ HKc.out.below).out.mono ?_;rintro e w3 ⟨rfl,rfl⟩;obtain⟨w9,hw9⟩:∃ W,W=(w3.setCell ⟨q,0,none⟩ (.slice none 0 0)).setCell ⟨q,1,none⟩ (.slice none 0 0):=⟨_,rfl⟩
    have HB9:Hid (Below w.heap.size w w9):=by unfold Hid;rw[hw9];exact (HKc.out.below.setCell (p:=⟨q,0,none⟩) hwq _).setCell (p:=⟨q,1,none⟩) hwq _
    have j0:w9.cell? ⟨q,0,none⟩=some (.slice none 0 0):=by rw[hw9];go_simp
    have j1:w9.cell? ⟨q,1,none⟩=some (.slice none 0 0):=by rw[hw9];go_simp
    have HW9:=Lib.hid hw9;clear hw9;go_wp2_with fail;rw[← HW9.out];refine bodyPost_ret (v:=.tuple #[.agg #[.slice none 0 0,.slice none 0 0],.int .i64 1]) (by simp[results,Tryz.results38,go_sem,j0,j1]) rfl ⟨none,0,0,none,0,0,rfl,RdO.none _ _ _ _ _ _,HB9.out⟩
  | false=>
  rw[hz,hbd,if_neg (by simp)]at hx
  by_cases h5:5<n
  · rw[if_pos h5]at hx
    subst hx;rw[if_neg (by simp)]at hu;subst hu;rw[hz]at HRT;rw[hbd]at HCF;have f5:decide ((5:Int)<(n:Int))=true:=decide_eq_true (by omega);clear HEM HLV HCO hempty hz hbd hr hl hrl hl9;go_enter Tryz.func38,Tryz.ntmps38;go_wp2_with fail;rw[← HG.out,← HW0.out,← HQ.out,← HW1.out];refine (HRT _ HKc.out.below).out.mono ?_;rintro e w2 ⟨rfl,hb⟩;have HKc:=Lib.hid (HKc.out.later hb);have HFQ:=Lib.hid (HFQ.out.later hb);clear hb;clear k0 k1 k2 k3 m0 m1;obtain⟨k0,k1,k2,k3,-⟩:=HKc.out.cj;have m0:=HFQ.out.2 0;have m1:=HFQ.out.2 1;go_wp2_with fail;refine (HCF _ HKc.out.below).out.mono ?_;rintro e w3 ⟨rfl,rfl⟩;obtain⟨w9,hw9⟩:∃ W,W=(w3.setCell ⟨q,0,none⟩ (.slice none 0 0)).setCell ⟨q,1,none⟩ (.slice none 0 0):=⟨_,rfl⟩
    have HB9:Hid (Below w.heap.size w w9):=by unfold Hid;rw[hw9];exact (HKc.out.below.setCell (p:=⟨q,0,none⟩) hwq _).setCell (p:=⟨q,1,none⟩) hwq _
    have j0:w9.cell? ⟨q,0,none⟩=some (.slice none 0 0):=by rw[hw9];go_simp
    have j1:w9.cell? ⟨q,1,none⟩=some (.slice none 0 0):=by rw[hw9];go_simp
    have HW9:=Lib.hid hw9;clear hw9;go_wp2_with fail;rw[← HW9.out];refine bodyPost_ret (v:=.tuple #[.agg #[.slice none 0 0,.slice none 0 0],.int .i64 10]) (by simp[results,Tryz.results38,go_sem,j0,j1]) rfl ⟨none,0,0,none,0,0,rfl,RdO.none _ _ _ _ _ _,HB9.out⟩
  rw[if_neg h5]at hx;have f5:decide ((5:Int)<(n:Int))=false:=decide_eq_false (by omega)
  by_cases he:t.es=[]∧t.ks=[]
  · rw[if_pos he]at hx
    subst hx;rw[if_neg (by intro h;exact h.2 he)]at hu;subst hu;rw[hz]at HRT;rw[hbd]at HCF;rw[decide_eq_true (hempty.1 he)]at HEM;clear HLV HCO hempty hz hbd hr hl hrl hl9 he h5;go_enter Tryz.func38,Tryz.ntmps38;go_wp2_with fail;rw[← HG.out,← HW0.out,← HQ.out,← HW1.out];refine (HRT _ HKc.out.below).out.mono ?_;rintro e w2 ⟨rfl,hb⟩;have HKc:=Lib.hid (HKc.out.later hb);have HFQ:=Lib.hid (HFQ.out.later hb);clear hb;clear k0 k1 k2 k3 m0 m1;obtain⟨k0,k1,k2,k3,-⟩:=HKc.out.cj;have m0:=HFQ.out.2 0;have m1:=HFQ.out.2 1;go_wp2_with fail;refine (HCF _ HKc.out.below).out.mono ?_;rintro e w3 ⟨rfl,rfl⟩;go_wp2_with fail;refine (HEM _).out.mono ?_;rintro e w4 ⟨rfl,hb⟩;have HKc:=Lib.hid (HKc.out.later hb);have HFQ:=Lib.hid (HFQ.out.later hb);clear hb;clear k0 k1 k2 k3 m0 m1;obtain⟨k0,k1,k2,k3,-⟩:=HKc.out.cj
    have m0:=HFQ.out.2 0;have m1:=HFQ.out.2 1;obtain⟨w9,hw9⟩:∃ W,W=(w4.setCell ⟨q,0,none⟩ (.slice none 0 0)).setCell ⟨q,1,none⟩ (.slice none 0 0):=⟨_,rfl⟩
    have HB9:Hid (Below w.heap.size w w9):=by unfold Hid;rw[hw9];exact (HKc.out.below.setCell (p:=⟨q,0,none⟩) hwq _).setCell (p:=⟨q,1,none⟩) hwq _
    have j0:w9.cell? ⟨q,0,none⟩=some (.slice none 0 0):=by rw[hw9];go_simp
    have j1:w9.cell? ⟨q,1,none⟩=some (.slice none 0 0):=by rw[hw9];go_simp
    have HW9:=Lib.hid hw9;clear hw9;go_wp2_with fail;rw[← HW9.out];refine bodyPost_ret (v:=.tuple #[.agg #[.slice none 0 0,.slice none 0 0],.int .i64 0]) (by simp[results,Tryz.results38,go_sem,j0,j1]) rfl ⟨none,0,0,none,0,0,rfl,RdO.none _ _ _ _ _ _,HB9.out⟩
  rw[if_neg he]at hx;rw[decide_eq_false (fun h=>he (hempty.2 h))]at HEM;have hlv:=levels_le (rightB_iff.1 hz);obtain⟨lv,hlve⟩:∃ z,levels t=z:=⟨_,rfl⟩;rw[hlve]at hx HLV hlv
  have hsum:IntKind.i64.wrap ((lv:Int)+(n:Int))=(lv:Int)+n:=by rw[IntKind.wrap_i64];omega
  by_cases h6:5<lv+n
  · rw[if_pos h6]at hx
    subst hx;rw[if_neg (by simp)]at hu;subst hu;rw[hz]at HRT;rw[hbd]at HCF;have f6:decide ((5:Int)<(lv:Int)+(n:Int))=true:=decide_eq_true (by omega);clear HCO hempty hz hbd hr hl hrl hl9 he h5 hlv hlve h6;go_enter Tryz.func38,Tryz.ntmps38;go_wp2_with fail;rw[← HG.out,← HW0.out,← HQ.out,← HW1.out];refine (HRT _ HKc.out.below).out.mono ?_;rintro e w2 ⟨rfl,hb⟩;have HKc:=Lib.hid (HKc.out.later hb);have HFQ:=Lib.hid (HFQ.out.later hb);clear hb;clear k0 k1 k2 k3 m0 m1;obtain⟨k0,k1,k2,k3,-⟩:=HKc.out.cj;have m0:=HFQ.out.2 0;have m1:=HFQ.out.2 1;go_wp2_with fail;refine (HCF _ HKc.out.below).out.mono ?_;rintro e w3 ⟨rfl,rfl⟩;go_wp2_with fail;refine (HEM _).out.mono ?_;rintro e w4 ⟨rfl,hb⟩;have HKc:=Lib.hid (HKc.out.later hb);have HFQ:=Lib.hid (HFQ.out.later hb);clear hb;clear k0 k1 k2 k3 m0 m1
    obtain⟨k0,k1,k2,k3,-⟩:=HKc.out.cj;have m0:=HFQ.out.2 0;have m1:=HFQ.out.2 1;go_wp2_with fail;refine (HLV _ HKc.out.below).out.mono ?_;rintro e w5 ⟨rfl,hb⟩;have HKc:=Lib.hid (HKc.out.later hb);have HFQ:=Lib.hid (HFQ.out.later hb);clear hb;clear k0 k1 k2 k3 m0 m1;obtain⟨k0,k1,k2,k3,-⟩:=HKc.out.cj;have m0:=HFQ.out.2 0;have m1:=HFQ.out.2 1;obtain⟨w9,hw9⟩:∃ W,W=(w5.setCell ⟨q,0,none⟩ (.slice none 0 0)).setCell ⟨q,1,none⟩ (.slice none 0 0):=⟨_,rfl⟩
    have HB9:Hid (Below w.heap.size w w9):=by unfold Hid;rw[hw9];exact (HKc.out.below.setCell (p:=⟨q,0,none⟩) hwq _).setCell (p:=⟨q,1,none⟩) hwq _
    have j0:w9.cell? ⟨q,0,none⟩=some (.slice none 0 0):=by rw[hw9];go_simp
    have j1:w9.cell? ⟨q,1,none⟩=some (.slice none 0 0):=by rw[hw9];go_simp
    have HW9:=Lib.hid hw9;clear hw9;go_wp2_with fail;rw[← HW9.out];refine bodyPost_ret (v:=.tuple #[.agg #[.slice none 0 0,.slice none 0 0],.int .i64 10]) (by simp[results,Tryz.results38,go_sem,j0,j1]) rfl ⟨none,0,0,none,0,0,rfl,RdO.none _ _ _ _ _ _,HB9.out⟩
  rw[if_neg h6]at hx;subst hx;rw[if_pos ⟨rfl,he⟩]at hu;rw[hz]at HRT;rw[hbd]at HCF;have f6:decide ((5:Int)<(lv:Int)+(n:Int))=false:=decide_eq_false (by omega);have HU:=Lib.hid hu;have HL9:=Lib.hid hl9;have HRL:=Lib.hid hrl;clear hempty hz hbd hr hl hrl hl9 he h5 hlv hlve h6 hu;refine (callsIn_wide (n:=6)).1 ?_;refine callsIn_of_wp_marks Tryz.func38 rfl trivial ?_ rfl;simp only[Tryz.ntmps38,List.size_toArray,List.length_cons,List.length_nil,Nat.reduceAdd,Nat.reduceSub,Array.replicate_succ,Array.replicate_zero,List.push_toArray,List.append_toArray,List.nil_append,List.cons_append];have h15:Fence.wide.fn 36:=trivial;have h49:Fence.wide.fn 67:=trivial;have h13:Fence.wide.fn 70:=trivial;have h52:Fence.wide.fn 71:=trivial
  have h46:Fence.wide.fn 60:=trivial;have h53:Fence.wide.fn 72:=trivial
  gi_wp2_with (first
    | (gi_at_call 36
       rw[← HG.out,← HW0.out,← HQ.out,← HW1.out];refine (callsIn_wide.2 (HRT _ HKc.out.below).out).mono ?_;rintro e w2 ⟨rfl,hb⟩;have HKc:=Lib.hid (HKc.out.later hb);have HFQ:=Lib.hid (HFQ.out.later hb);clear hb k0 k1 k2 k3 m0 m1;have k2:=HKc.out.c2
       have k3:=HKc.out.c3)
    | (gi_at_call 67
       refine (callsIn_wide.2 (HCF _ HKc.out.below).out).mono ?_
       rintro e w3 ⟨rfl,rfl⟩)
    | (gi_at_call 70
       refine (callsIn_wide.2 (HEM _).out).mono ?_;rintro e w4 ⟨rfl,hb⟩;have HKc:=Lib.hid (HKc.out.later hb);have HFQ:=Lib.hid (HFQ.out.later hb);clear hb k2 k3;have k2:=HKc.out.c2
       have k3:=HKc.out.c3)
    | (gi_at_call 71
       refine (callsIn_wide.2 (HLV _ HKc.out.below).out).mono ?_;rintro e w5 ⟨rfl,hb⟩;have HKc:=Lib.hid (HKc.out.later hb);have HFQ:=Lib.hid (HFQ.out.later hb);clear hb k2 k3;have k2:=HKc.out.c2
       have k3:=HKc.out.c3)
    | (gi_at_call 60
       refine (callsIn_wide.2 (HCO _ HKc.out.below).out).mono ?_;rintro e w6 ⟨Ae6,ce6,Ak6,ck6,rfl,hro,hb⟩;have HRO:=Lib.hid hro;have HB5:=HKc;have HKc:=Lib.hid (HKc.out.later hb);have HFQ:=Lib.hid (HFQ.out.later hb);have hb6s:=hb.size
       clear hb k2 k3 hro)
    | (gi_at_call 72
       refine (callsIn_wide.2 (backward_any A n c _)).mono ?_
       rintro e w7 ⟨rfl,rfl⟩))
  clear HRT HCF HEM HLV HCO f5 f6 hsum h15 h49 h13 h52 h46 h53;have hqw5:q<_:=World.block_lt_of_cell? _ _ HB5.out.c0;have hw5:=HB5.out.below.size;have hbs6:_≤w6.heap.size:=hb6s;obtain⟨B6,hB6⟩:∃ B,B=w6.heap.size:=⟨_,rfl⟩;obtain⟨W8,hW8⟩:∃ W,W=(w6.alloc (.cells #[.slice Ae6 ne ce6,.slice Ak6 nk ck6] 25)).alloc (.cells #[.slice A n c] 44):=⟨_,rfl⟩
  have hb8:Below w6.heap.size w6 W8:=by rw[hW8];exact ((Below.refl _ w6).alloc (Nat.le_refl _) _).alloc (by simp) _
  have hs8:W8.heap.size=B6+2:=by rw[hW8,hB6];simp
  have i0:W8.cell? ⟨B6,0,none⟩=some (.slice Ae6 ne ce6):=by rw[hW8,hB6];go_simp
  have i1:W8.cell? ⟨B6,1,none⟩=some (.slice Ak6 nk ck6):=by rw[hW8,hB6];go_simp
  have i2:W8.cell? ⟨B6+1,0,none⟩=some (.slice A n c):=by rw[hW8,hB6];go_simp
  have m60:W8.frozen? ⟨B6,0,none⟩=false:=by rw[hW8,hB6];go_simp
  have m61:W8.frozen? ⟨B6,1,none⟩=false:=by rw[hW8,hB6];go_simp
  have HK8:=HKc.out.later hb8;have HF8:=HFQ.out.later hb8;have hT8:RdO W8 (fun b=>w.heap.size≤b∧b≠q∧b≠B6) t ⟨Ae6,ne,ce6⟩ ⟨Ak6,nk,ck6⟩:=RdO.later (RdO.mono (fun b hb hlt=>⟨by omega,by omega,by omega⟩) _ HRO.out) hb8
  have hwB6:w.heap.size≤B6:=by omega
  have hqB6:q≠B6:=by omega
  have hqB6':¬B6=q:=by omega
  have hTX:TextsAt w.heap.size W8 A n (fun j=>l[j]?.getD ByteArray.empty):=(TextsAt.of_rd HRL.out).below HK8.below;rw[← hB6,← hW8]
  have I0:(∃ (Ax:Option Addr) (nx cx:Nat) (Bx:Option Addr) (mx dx:Nat),W8.cell? ⟨B6,0,none⟩=some (.slice Ax nx cx)∧W8.cell? ⟨B6,1,none⟩=some (.slice Bx mx dx)∧W8.frozen? ⟨B6,0,none⟩=false∧W8.frozen? ⟨B6,1,none⟩=false∧RdO W8 (fun b=>w.heap.size≤b∧b≠q∧b≠B6) (wrapT t (([]:List (Nat×ByteArray)).map fun x=>x.2).reverse) ⟨Ax,nx,cx⟩ ⟨Bx,mx,dx⟩)∧W8.cell? ⟨B6+1,0,none⟩=some (.slice A n c)∧W8.cell? ⟨q,0,none⟩=some (.slice none 0 0)∧W8.cell? ⟨q,1,none⟩=some (.slice none 0 0)∧W8.frozen? ⟨q,0,none⟩=false∧W8.frozen? ⟨q,1,none⟩=false:=
    ⟨⟨Ae6,ne,ce6,Ak6,nk,ck6,i0,i1,m60,m61,hT8⟩,i2,HK8.c0,HK8.c1,HF8.2 0,HF8.2 1⟩
  have hHU:=HU.out;clear HU;clear hW8 hB6 HRO hqw5 hw5 hbs6 hb6s
  refine' wpIn_rangeFunc_ownG (F:=Fence.wide) (n:=6) rfl (by omega) (gf:=100) (lb:=#[.pointer (some ⟨B6+1,0,none⟩)]) rfl trivial (enters_of Tryz.func100 (by kernel_rfl) rfl)
    (backward_stops Fence.wide 5 trivial rfl (by omega) (B6+1) w.heap.size n c A _ (by omega) W8 (by omega) (by omega) i2 hTX) kpB_t (kpB_b (by omega) (by omega)) (Below.refl _ _) (fun _=>rfl)
    (fun pre W=>((∃ (Ax:Option Addr) (nx cx:Nat) (Bx:Option Addr) (mx dx:Nat),W.cell? ⟨B6,0,none⟩=some (.slice Ax nx cx)∧W.cell? ⟨B6,1,none⟩=some (.slice Bx mx dx)∧W.frozen? ⟨B6,0,none⟩=false∧W.frozen? ⟨B6,1,none⟩=false∧RdO W (fun b=>w.heap.size≤b∧b≠q∧b≠B6) (wrapT t ((pre:List (Nat×ByteArray)).map fun x=>x.2).reverse) ⟨Ax,nx,cx⟩ ⟨Bx,mx,dx⟩)∧W.cell? ⟨B6+1,0,none⟩=some (.slice A n c)∧W.cell? ⟨q,0,none⟩=some (.slice none 0 0)∧W.cell? ⟨q,1,none⟩=some (.slice none 0 0)∧W.frozen? ⟨q,0,none⟩=false∧W.frozen? ⟨q,1,none⟩=false)∧Below w.heap.size w W)
    (fun _ _ _=>False)
    (OwnFrom.and (Own.from (fun s A' B' row hs hg hr=>by
      obtain⟨⟨Ax,nx,cx,Bx,mx,dx,h1,h2,h3,h4,h5⟩,h6,h7,h8,h9,h10⟩:=hs
      exact⟨⟨Ax,nx,cx,Bx,mx,dx,cell_kept h1 hg hr,cell_kept h2 hg hr,(frozen_kept h1 hg hr).trans h3,(frozen_kept h2 hg hr).trans h4,RdO.kept hg hr _ h5⟩,cell_kept h6 hg hr,cell_kept h7 hg hr,cell_kept h8 hg hr,(frozen_kept h7 hg hr).trans h9,(frozen_kept h8 hg hr).trans h10⟩) _) (ownFrom_below (Nat.le_refl _) (by omega)))
    (fun _ _ _ _ _ hs _ _=>hs)
    ⟨I0,HK8.below⟩ _ ?assign ?body ?done ?stop
  case assign=>
    intro l' x W K hK
    gi_wp2
    exact hK
  case body=>
    rintro l' pre x W ⟨⟨⟨Ax,nx,cx,Bx,mx,dx,h1,h2,h3,h4,h5⟩,h6,h7,h8,h9,h10⟩,hB⟩ hlt;have hb6:B6<W.heap.size:=World.block_lt_of_cell? W _ h1;have hb7:B6+1<W.heap.size:=World.block_lt_of_cell? W _ h6;have hq7:q<W.heap.size:=World.block_lt_of_cell? W _ h7;obtain⟨W2,hW2⟩:∃ W2,W2=((W.alloc (.cells #[.string x.2,.slice Ax nx cx,.slice Bx mx dx] 73)).setCell ⟨B6,0,none⟩ (.slice none 0 0)).setCell ⟨B6,1,none⟩ (.slice (some ⟨W.heap.size,0,none⟩) 1 1):=⟨_,rfl⟩
    have hko:KeepsOthers W W2:=by rw[hW2];exact ((KeepsOthers.alloc _ _).trans (KeepsOthers.setCell _ _ _)).trans (KeepsOthers.setCell _ _ _)
    have hbl:Below w.heap.size W W2:=by rw[hW2];exact (((Below.refl w.heap.size W).alloc hB.size _).setCell (p:=⟨B6,0,none⟩) hwB6 _).setCell (p:=⟨B6,1,none⟩) hwB6 _
    have e6:W2.cell? ⟨B6+1,0,none⟩=some (.slice A n c):=by rw[hW2];go_simp
    have e1:W2.cell? ⟨B6,0,none⟩=some (.slice none 0 0):=by rw[hW2];go_simp
    have e2:W2.cell? ⟨B6,1,none⟩=some (.slice (some ⟨W.heap.size,0,none⟩) 1 1):=by rw[hW2];go_simp
    have e3:W2.frozen? ⟨B6,0,none⟩=false:=by rw[hW2];go_simp
    have e4:W2.frozen? ⟨B6,1,none⟩=false:=by rw[hW2];go_simp
    have e7:W2.cell? ⟨q,0,none⟩=some (.slice none 0 0):=by rw[hW2];go_simp
    have e8:W2.cell? ⟨q,1,none⟩=some (.slice none 0 0):=by rw[hW2];go_simp
    have e9:W2.frozen? ⟨q,0,none⟩=false:=by rw[hW2];go_simp
    have e10:W2.frozen? ⟨q,1,none⟩=false:=by rw[hW2];go_simp
    have e5:RdO W2 (fun b=>w.heap.size≤b∧b≠q∧b≠B6) (wrapT t ((pre++[x]).map fun x=>x.2).reverse) ⟨none,0,0⟩ ⟨some ⟨W.heap.size,0,none⟩,1,1⟩:=by
      have h:=RdO.one h5 (show w.heap.size≤W.heap.size∧W.heap.size≠q∧W.heap.size≠B6 from⟨hB.size,by omega,by omega⟩) x.2 73
      have e:((pre++[x]).map fun x=>x.2).reverse=x.2::(pre.map fun x=>x.2).reverse:=by simp
      rw[e,hW2];exact RdO.keep (by simp[World.setCell]) (fun b hb _=>(Below.heap_setCell _ ⟨B6,1,none⟩ _ b (fun e=>hb.2.2 e)).trans (Below.heap_setCell _ ⟨B6,0,none⟩ _ b (fun e=>hb.2.2 e))) _ h
    have HE:=Lib.hid (show _∧_ from⟨And.intro hko hbl,(⟨⟨none,0,0,some ⟨W.heap.size,0,none⟩,1,1,e1,e2,e3,e4,e5⟩,e6,e7,e8,e9,e10⟩:(∃ (Ax:Option Addr) (nx cx:Nat) (Bx:Option Addr) (mx dx:Nat),W2.cell? ⟨B6,0,none⟩=some (.slice Ax nx cx)∧W2.cell? ⟨B6,1,none⟩=some (.slice Bx mx dx)∧W2.frozen? ⟨B6,0,none⟩=false∧W2.frozen? ⟨B6,1,none⟩=false∧RdO W2 (fun b=>w.heap.size≤b∧b≠q∧b≠B6) (wrapT t ((pre++[x]).map fun x=>x.2).reverse) ⟨Ax,nx,cx⟩ ⟨Bx,mx,dx⟩)∧W2.cell? ⟨B6+1,0,none⟩=some (.slice A n c)∧W2.cell? ⟨q,0,none⟩=some (.slice none 0 0)∧W2.cell? ⟨q,1,none⟩=some (.slice none 0 0)∧W2.frozen? ⟨q,0,none⟩=false∧W2.frozen? ⟨q,1,none⟩=false)⟩);have HKP2:Hid (W2.cell? ⟨B6+1,0,none⟩=W.cell? ⟨B6+1,0,none⟩):=e6.trans h6.symm;have HB2:=Lib.hid (hB.trans hbl)
    have hW2':W2=((W.setCell ⟨B6,0,none⟩ (.slice none 0 0)).setCell ⟨B6,1,none⟩ (.slice (some ⟨W.heap.size,0,none⟩) 1 1)).alloc (.cells #[.string x.2,.slice Ax nx cx,.slice Bx mx dx] 73):=by rw[hW2];go_simp
    have HW2:=Lib.hid hW2';clear hW2';clear e1 e2 e3 e4 e5 e6 e7 e8 e9 e10 hko hbl hW2 I0 i0 i1 i2 m60 m61 hT8 hHU hTX
    gi_wp2
    rw[← HW2.out];exact⟨HE.out.1.1.from _,⟨HE.out.1.2,HKP2.out⟩,HE.out.2,HB2.out⟩
  case done=>
    rintro D ys W hD rfl ⟨⟨⟨Ax,nx,cx,Bx,mx,dx,h1,h2,h3,h4,h5⟩,h6,h7,h8,h9,h10⟩,hB⟩ hK;rw[back_all l HL9.out,hHU]at h5;have hb6:B6<W.heap.size:=World.block_lt_of_cell? W _ h1;obtain⟨W9,hW9⟩:∃ W9,W9=(W.setCell ⟨q,0,none⟩ (.slice Ax nx cx)).setCell ⟨q,1,none⟩ (.slice Bx mx dx):=⟨_,rfl⟩
    have hK9:W9.heap[D]?=some (.deferred (some [])):=by rw[hW9];exact ((KeepsOthers.setCell W ⟨q,0,none⟩ (.slice Ax nx cx)).trans (KeepsOthers.setCell _ ⟨q,1,none⟩ (.slice Bx mx dx))).same D _ hK rfl
    have j0:W9.cell? ⟨q,0,none⟩=some (.slice Ax nx cx):=by rw[hW9];go_simp
    have j1:W9.cell? ⟨q,1,none⟩=some (.slice Bx mx dx):=by rw[hW9];go_simp
    have h59:RdO W9 (fun b=>w.heap.size≤b∧b≠q∧b≠B6) u ⟨Ax,nx,cx⟩ ⟨Bx,mx,dx⟩:=by
      rw[hW9];exact RdO.keep (by simp[World.setCell]) (fun b hb _=>(Below.heap_setCell _ ⟨q,1,none⟩ _ b (fun e=>hb.2.1 e)).trans (Below.heap_setCell _ ⟨q,0,none⟩ _ b (fun e=>hb.2.1 e))) _ h5
    have hB9:Below w.heap.size w W9:=by rw[hW9];exact (hB.setCell (p:=⟨q,0,none⟩) hwq _).setCell (p:=⟨q,1,none⟩) hwq _
    have hD2:w.heap.size≤D:=by omega
    have H5:=Lib.hid h59;have HB9:=Lib.hid hB9;have HW9:=Lib.hid hW9;have HK9:=Lib.hid hK9;have HJ0:=Lib.hid j0;have HJ1:=Lib.hid j1;clear h5 h59 hB hB9 hW9 hK9 j0 j1 I0 i0 i1 i2 m60 m61 hT8 hHU hTX
    gi_wp2
    rw[← HW9.out];refine⟨by simp,.inl ⟨_,_,rfl,run_takeDeferred HK9.out,?_⟩⟩;have hg:=grownBy_putObj' W9 D (.deferred none)
    have hr:∀ r,some D=some r→∃ o:Obj,W9.heap[r]?=some o∧o.isCells=false:=fun r e=>by cases e;exact⟨_,HK9.out,rfl⟩
    have hc0:=cell_kept HJ0.out hg hr;have hc1:=cell_kept HJ1.out hg hr;refine⟨.tuple #[.agg #[.slice Ax nx cx,.slice Bx mx dx],.int .i64 0],by simp[results,Tryz.f38,go_sem,hc0,hc1],Ax,nx,cx,Bx,mx,dx,rfl,RdO.mono (fun b hb _=>hb.1) _ (RdO.kept hg hr _ H5.out),HB9.out.trans (belowK_b (w:=w) (Nat.le_refl _) W9 D _ _ hD2 HK9.out rfl rfl)⟩
  case stop=>
    rintro D c' pre W _ _ h _;exact h.elim
end Tr
end Go.Proofs.YtjpcechcefhcfaaGreat
namespace Go.Proofs.YtjpcechcefhcfaaGreat
namespace Cs
open Tr Cx Sp Classical
theorem AllJ.snoc {l:List K} {x y k:K} (h:AllJ l x) (hk:RK k) (hj:IsJ x k y):AllJ (l++[k]) y:=h.app (AllJ.one hk) hj
end Cs
end Go.Proofs.YtjpcechcefhcfaaGreat
namespace Go.Proofs.YtjpcechcefhcfaaGreat
open Go.ChangeShapes Go.WideShapes Go.ChangeAt Go.RowKit
namespace Tr
open Rw Sp
structure Row2 (w:World) (base:Nat) (A:Option Addr) (n c:Nat) (ls:List Lf) (lr:List (SV×E)):Prop where
 len:ls.length=n
 own:Own w base 76 5 A n c (lr.flatMap leafC)
 paths:Paths w (fun b=>b<base) ls lr
namespace Row2
variable {w w':World} {base n c m d:Nat} {A B:Option Addr} {ls ls2:List Lf} {lr lr2:List (SV×E)}
theorem nil (w:World) (base:Nat):Row2 w base none 0 0 [] []:=⟨rfl,⟨World.ownsRow_nil _ _ _ _,by simp⟩,Paths.nil _ _⟩
theorem rd (h:Row2 w base A n c ls lr) (hb:base≤w.heap.size):LfRd w w.heap.size A n c ls:=⟨h.len,lr,h.own.rd,h.paths.mono fun _ hlt _=>Nat.lt_of_lt_of_le hlt hb⟩
theorem later (h:Row2 w base A n c ls lr) (_:base≤w.heap.size) (hbw:Below w.heap.size w w'):Row2 w' base A n c ls lr:=⟨h.len,own_later h.own hbw,h.paths.later hbw⟩
theorem hold (h:Row2 w base A n c ls lr) (hk:∀ b,(Value.slice A n c).ownBlock=some b→w'.heap[b]?=w.heap[b]?) (hb:Below base w w'):Row2 w' base A n c ls lr:=by
 refine⟨h.len,⟨?_,h.own.one⟩,h.paths.keep hb.size fun b hlt _=>hb.block b hlt⟩;obtain⟨h1,h2⟩:=h.own.row;refine⟨h1,?_⟩
 rcases h2 with h2 | ⟨g,cap,cur,e,h3,h4,h5⟩
 ·exact .inl h2
 ·refine .inr ⟨g,cap,cur,e,h3,?_,h5⟩
  rw[hk g (by rw[e];rfl)];exact h4
def Apart (u v:Value):Prop:=∀ b,u.ownBlock=some b→v.ownBlock≠some b
theorem push (h:Row2 w base A n c ls lr) (h2:Row2 w base B m d ls2 lr2) (hap:Apart (.slice A n c) (.slice B m d)) (hb:base≤w.heap.size) {p:List ByteArray} {e:E} {s:SV} (hl:p.length=s.n) (hp:RX w (fun b=>b<base) 1 s.A s.n s.c (strs p)) (hn:n≤800000) :
  ∃ A' c' w',(Builtin.append_ #[39,39] 39 #[.slice A n c,.slice (some ⟨w.heap.size,0,none⟩) 1 1]).run Tryz.prog (w.alloc (.cells #[.slice s.A s.n s.c,.int .i64 e.a,.int .i64 e.n,.string e.s,.int .i64 e.v] 76)) = .ok (.slice A' (n+1) c') w' ∧
   Row2 w' base A' (n+1) c' (ls++[(p,e)]) (lr++[(s,e)])∧Row2 w' base B m d ls2 lr2∧Apart (.slice A' (n+1) c') (.slice B m d)∧Apart (.slice B m d) (.slice A' (n+1) c')∧Below base w w':=by
 obtain⟨i0,hi0,hz0,hz1,hz2⟩:=info_of infoL;have hal:Below w.heap.size w (w.alloc (.cells #[.slice s.A s.n s.c,.int .i64 e.a,.int .i64 e.n,.string e.s,.int .i64 e.v] 76)):=(Below.refl _ _).alloc (Nat.le_refl _) _
 have hsz:(w.alloc (.cells #[.slice s.A s.n s.c,.int .i64 e.a,.int .i64 e.n,.string e.s,.int .i64 e.v] 76)).heap.size=w.heap.size+1:=by simp
 obtain⟨v',w',r1,r2,r3,r4⟩:=run_app (P:=Tryz.prog) (w.alloc (.cells #[.slice s.A s.n s.c,.int .i64 e.a,.int .i64 e.n,.string e.s,.int .i64 e.v] 76)) base 39 39 76 i0 _ 5 64 Tryz.underlying39 hi0 hz0 hz1 hz2 rfl (by omega) (own_later h.own hal).row (rd_leaf w s e _) (by omega) (by omega) (by omega)
 have e1:(lr++[(s,e)]).flatMap leafC=lr.flatMap leafC++[(s,e)].flatMap leafC:=by simp
 rw[← e1]at r2
 obtain⟨A',c',rfl,ho⟩:=Own.of_row r2 (fun u hu=>by
  obtain⟨x,_,hu⟩:=List.mem_flatMap.1 hu
  exact leafC_one x u hu)
 have hbw:Below base w w':=(hal.mono hb).trans ((Below.refl base _).grown r3 (by omega) (fun k hk=>(h.own.row.lt k hk).1));have hpp:Paths w' (fun b=>b<base) (ls++[(p,e)]) (lr++[(s,e)]):=Paths.keep (Paths.app h.paths (Paths.one hl hp)) hbw.size fun b hlt _=>hbw.block b hlt;have hB:∀ b,(Value.slice B m d).ownBlock=some b→(Value.slice A n c).ownBlock≠some b∧b<w.heap.size:=fun b hb2=>⟨fun hA=>hap b hA hb2,(h2.own.row.lt b hb2).2⟩
 have hkB:∀ b,(Value.slice B m d).ownBlock=some b→w'.heap[b]?=w.heap[b]?:=fun b hb2=>by
  obtain⟨x1,x2⟩:=hB b hb2;rw[r3.block b (by omega) (fun e=>x1 e.symm)];exact hal.block b x2
 have hnB:∀ b,(Value.slice B m d).ownBlock=some b→(Value.slice A' (n+1) c').ownBlock≠some b:=fun b hb2 he=>by
  obtain⟨x1,x2⟩:=hB b hb2
  rcases r4 with r4 | r4
  ·exact x1 (r4.symm.trans he)
  ·have h3:some b=some _:=he.symm.trans r4
   injection h3 with h3;omega
 exact⟨A',c',w',r1,⟨by rw[List.length_append,h.len];rfl,ho,hpp⟩,h2.hold hkB hbw,fun b h3 h4=>hnB b h4 h3,fun b h3 h4=>hnB b h3 h4,hbw⟩
end Row2
end Tr
end Go.Proofs.YtjpcechcefhcfaaGreat
