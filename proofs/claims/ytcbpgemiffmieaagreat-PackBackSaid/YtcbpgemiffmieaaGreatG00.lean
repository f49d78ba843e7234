/- Texts of the lower layers, and of layer 9, put together. -/
import Derived.Test.YtcbpgemiffmieaaGreatRows
import Derived.WalkKit
import Derived.WalkSpells
import Derived.WalkLawsBesides
import Derived.Deep.AppendLies
import Derived.Deep.Draws
import Derived.Deep.RegionHeld3
import Derived.Deep.QuietTactic
import Derived.BigQuiet
import Derived.Maps.AppendAt
import Derived.Lib.Hide
import Derived.Lib.AppendZeros
import Derived.ProofKit
import Derived.OpenShut
import Derived.Deep.Slices
import Derived.Deep.RegionHeld
import Derived.Lib.AppendStr
import Derived.Lib.SlBytesRow
import Derived.Laws.BitsAllLaws
import Derived.IntWalk
import Derived.StillTailTactics
import Derived.Deep.RegionLaw
import Derived.Deep.DeepCutAuto
import Derived.Lib.Strings
import Derived.Lib.Slices
import Derived.Lib.Walk
import Derived.Lib.Bytealg
import Derived.Shelf.SlGeneric
import Derived.Shelf.SortG.Plain
import Derived.Shelf.SortG.SortNone
import Derived.Ground.SlgnProg
import Derived.BigRegion
namespace Go.Proofs.YtcbpgemiffmieaaGreat
open Go.RowKit

structure Rd (w:World) (B sz:Nat) (A:Option Addr) (n c:Nat) (xs:List Value):Prop where
 len:xs.length=n*sz
 cap:n≤c
 one:∀ u∈xs,u.oneCell'=true
 at_:0<n→∃ b o,A=some ⟨b,o,none⟩∧b<B∧∀ j u,xs[j]?=some u→w.cell? ⟨b,o+j,none⟩=some u

section
variable {w w':World} {B B' sz n c:Nat} {A:Option Addr} {xs:List Value}
theorem Rd.nil (c:Nat):Rd w B sz A 0 c []:=⟨by simp,Nat.zero_le _,by simp,fun h=>absurd h (by omega)⟩
theorem Rd.keep (h:Rd w B sz A n c xs) (hk:∀ p:Addr,p.block<B→w'.cell? p=w.cell? p):Rd w' B sz A n c xs:=
 ⟨h.len,h.cap,h.one,fun hn=>by
  obtain⟨b,o,e,hb,hc⟩:=h.at_ hn
  exact⟨b,o,e,hb,fun j u hu=>(hk ⟨b,o+j,none⟩ hb).trans (hc j u hu)⟩⟩
theorem Rd.more (h:Rd w B sz A n c xs) (hB:B≤B'):Rd w B' sz A n c xs:=
 ⟨h.len,h.cap,h.one,fun hn=>by
  obtain⟨b,o,e,hb,hc⟩:=h.at_ hn
  exact⟨b,o,e,by omega,hc⟩⟩
theorem Rd.below (h:Rd w B sz A n c xs) (hb:Below B w w'):Rd w' B sz A n c xs:=h.keep fun _ hp=>hb.cell hp
theorem Rd.later (h:Rd w w.heap.size sz A n c xs) (hb:Below w.heap.size w w'):Rd w' w'.heap.size sz A n c xs:=(h.below hb).more hb.size
theorem Rd.drewN (h:Rd w B sz A n c xs) (k:Nat):Rd (w.drewN k) B sz A n c xs:=h.keep fun _ _=>rfl
theorem Rd.drew (h:Rd w B sz A n c xs):Rd w.drew B sz A n c xs:=h.keep fun _ _=>rfl
theorem Rd.alloc (h:Rd w B sz A n c xs) (hB:B≤w.heap.size) (o:Obj):Rd (w.alloc o) B sz A n c xs:=h.keep fun p hp=>World.cell?_alloc_lt w o p (by omega)
theorem Rd.setCell (h:Rd w B sz A n c xs) {p:Addr} (hB:B≤p.block) (u:Value):Rd (w.setCell p u) B sz A n c xs:=
 h.keep fun q hq=>World.cell?_setCell_other w p q u (fun e=>by subst e;omega)
theorem Rd.cut (h:Rd w B sz A n c xs) {i j:Nat} (hi:i≤j) (hj:j≤n) :
  Rd w B sz (if c=i then A else A.map (·.add (i*sz))) (j-i) (c-i) ((xs.drop (i*sz)).take ((j-i)*sz)):=by
 have hc:=h.cap
 have hln:(j-i)*sz≤xs.length-i*sz:=by rw[h.len,← Nat.sub_mul];exact Nat.mul_le_mul_right _ (by omega)
 refine⟨?_,by omega,fun u hu=>h.one u (List.mem_of_mem_drop (List.mem_of_mem_take hu)),fun hn=>?_⟩
 ·rw[List.length_take,List.length_drop];omega
 obtain⟨b,o,rfl,hb,hcell⟩:=h.at_ (by omega);rw[if_neg (by omega)];refine⟨b,o+i*sz,?_,hb,fun k u hu=>?_⟩
 ·show some (Addr.add ⟨b,o,none⟩ (i*sz))=_
  unfold Addr.add
  split
  ·rename_i h0;rw[h0];rfl
  ·rfl
 ·rw[List.getElem?_take]at hu
  split at hu
  ·rw[List.getElem?_drop]at hu
   have:=hcell _ u hu
   rwa [← Nat.add_assoc]at this
  ·cases hu
theorem Rd.to_ (h:Rd w B sz A n c xs) {j:Nat} (hj:j≤n):Rd w B sz A j c (xs.take (j*sz)):=by
 have hc:=h.cap
 have hln:j*sz≤xs.length:=by rw[h.len];exact Nat.mul_le_mul_right _ hj
 refine⟨by rw[List.length_take];omega,by omega,fun u hu=>h.one u (List.mem_of_mem_take hu),fun hn=>?_⟩;obtain⟨b,o,e,hb,hcell⟩:=h.at_ (by omega);refine⟨b,o,e,hb,fun k u hu=>?_⟩;rw[List.getElem?_take]at hu
 split at hu
 ·exact hcell _ u hu
 ·cases hu
theorem Rd.from_ (h:Rd w B sz A n c xs) {i:Nat} (hi:i≤n) :
  Rd w B sz (if c=i then A else A.map (·.add (i*sz))) (n-i) (c-i) (xs.drop (i*sz)):=by
 have h1:=h.cut hi (Nat.le_refl n)
 rwa [List.take_of_length_le (by rw[List.length_drop,h.len,← Nat.sub_mul];exact Nat.le_refl _)]at h1
theorem Rd.of_own {base:Nat} {e:TypeId} {v:Value} (h:w.ownsRow base e sz v n xs) (h1:∀ u∈xs,u.oneCell'=true):∃ A c,v = .slice A n c∧Rd w w.heap.size sz A n c xs:=by
 rcases h.2 with ⟨rfl,rfl⟩ | ⟨g,cap,cur,rfl,_,hg,hnc,_,_,_⟩
 ·exact⟨none,0,rfl,⟨h.1,Nat.le_refl _,h1,fun hn=>absurd hn (by omega)⟩⟩
 ·refine⟨_,cap,rfl,⟨h.1,hnc,h1,fun hn=>⟨g,0,rfl,(Array.getElem?_eq_some_iff.1 hg).1,fun j u hu=>?_⟩⟩⟩
  have:=h.cells (g:=g) rfl j u hu;rw[Nat.zero_add];unfold Addr.add at this
  split at this
  ·rename_i h0;rw[h0];exact this
  ·simpa using this
end

structure Own (w:World) (base:Nat) (e:TypeId) (sz:Nat) (A:Option Addr) (n c:Nat) (xs:List Value):Prop where
 row:w.ownsRow base e sz (.slice A n c) n xs
 one:∀ u∈xs,u.oneCell'=true
theorem Own.rd {w:World} {base:Nat} {e:TypeId} {sz n c:Nat} {A:Option Addr} {xs:List Value} (h:Own w base e sz A n c xs):Rd w w.heap.size sz A n c xs:=by
 obtain⟨A',c',hv,hr⟩:=Rd.of_own h.row h.one;injection hv with h1 h2 h3;subst h1;subst h3;exact hr
theorem Own.set_below {w:World} {base:Nat} {e:TypeId} {sz n c:Nat} {A:Option Addr} {xs:List Value} (h:Own w base e sz A n c xs) {a:Addr} (ha:a.block<base) (u:Value):Own (w.setCell a u) base e sz A n c xs:=
 ⟨ownsRow_setCell_below h.row ha u,h.one⟩
theorem Own.mono {w:World} {base base':Nat} {e:TypeId} {sz n c:Nat} {A:Option Addr} {xs:List Value} (h:Own w base e sz A n c xs) (hb:base'≤base):Own w base' e sz A n c xs:=by
 refine⟨⟨h.row.1,?_⟩,h.one⟩
 rcases h.row.2 with h1 | ⟨g,cap,cur,h1,h2,h3⟩
 ·exact .inl h1
 ·exact .inr ⟨g,cap,cur,h1,by omega,h3⟩
theorem Own.of_row {w:World} {base:Nat} {e:TypeId} {sz n:Nat} {v:Value} {xs:List Value} (h:w.ownsRow base e sz v n xs) (h1:∀ u∈xs,u.oneCell'=true):∃ A c,v = .slice A n c∧Own w base e sz A n c xs:=by
 rcases h.2 with ⟨rfl,rfl⟩ | ⟨g,cap,cur,rfl,_⟩
 ·exact⟨none,0,rfl,h,h1⟩
 ·exact⟨_,cap,rfl,h,h1⟩
def NewRow (ty sz:Nat) (xs:List Value) (n:Nat) (w:World) (e:Ending) (w':World):Prop:=
 ∃ A c,e = .returned (.slice A n c)∧Own w' w.heap.size ty sz A n c xs∧Below w.heap.size w w'

theorem run_app {P:Program} (w:World) (base:Nat) (t ty e:TypeId) (i:TypeInfo) (z:Value) (sz bytes:Nat) (ht:P.underlying t=some (.slice e)) (hi:P.info? e=some i) (hz:i.zero=some z)
  (hsize:i.size=sz) (hby:i.bytes=bytes) (hzs:z.cells.size=sz) (hsz:0<sz)
  {v:Value} {n:Nat} {xs:List Value} (hown:w.ownsRow base e sz v n xs)
  {B:Nat} {A:Option Addr} {m c:Nat} {news:List Value} (hr:Rd w B sz A m c news)
  (h63:n+m≤1000000) (hbytes:bytes≤1000000) (hbase:base≤w.heap.size) :
  ∃ v' w',(Builtin.append_ #[t,t] ty #[v,.slice A m c]).run P w = .ok v' w'∧w'.ownsRow base e sz v' (n+m) (xs++news)∧w.grownBy w' v.ownBlock ∧
   (v'.ownBlock=v.ownBlock∨v'.ownBlock=some w.heap.size):=by
 rcases Nat.eq_zero_or_pos m with rfl | hm
 ·have hn:news=[]:=List.eq_nil_of_length_eq_zero (by simpa using hr.len)
  subst hn;refine⟨v,w,?_,by simpa using hown,⟨rfl,rfl,rfl,Nat.le_refl _,fun _ _ _=>rfl⟩,.inl rfl⟩
  have hf:∀ (A:Option Addr),(Builtin.firstCells i.size 0 (.slice A 0 c)).run P w = .ok #[] w:=by
   intro A
   cases A with
   | none=>simp[Builtin.firstCells]
   | some a=>exact run_firstCells_some w i.size 0 a 0 c [] (by simp) (by simp)
  rcases hown.2 with ⟨rfl,rfl⟩ | ⟨g,cap,cur,rfl,_,_,hnc,_⟩
  ·simp[Builtin.append_,run_underlying ht,sizeOf,typeInfo,hi,Builtin.lenOf,hf]
  ·simp[Builtin.append_,run_underlying ht,sizeOf,typeInfo,hi,Builtin.lenOf,hf,hnc,storeCells]
 ·obtain⟨b,o,rfl,_,hc⟩:=hr.at_ hm
  have hb2:(n+m)*bytes≤140737488355328:=Nat.le_trans (Nat.mul_le_mul h63 hbytes) (by omega)
  obtain⟨v',w',h1,h2,h3,_,h5⟩:=run_append_own_at (P:=P) w base t ty e i z sz bytes ht hi hz hsize hby hzs hsz v n xs hown ⟨b,o,none⟩ m c news hr.len
   (fun j u hu=>by
    have:=hc j u hu;unfold Addr.add
    split
    ·rename_i h0;subst h0;simpa using this
    ·exact this) hr.one (by simp only[maxLen];omega) hb2 hbase
  exact⟨v',w',h1,h2,h3,h5⟩

theorem run_cut_from {P:Program} (t e:TypeId) (sz:Nat) (ht:P.underlying t=some (.slice e)) {i:TypeInfo} (hi:P.info? e=some i) (hsz:i.size=sz) (A:Option Addr) (n c k:Nat) (hk:k≤n) (w:World) :
  (Instr.slice t (.slice A n c) (some (.int .i64 (k:Nat))) none none).run P w = .ok (.slice (if c=k then A else A.map (·.add (k*sz))) (n-k) (c-k)) w:=by
 subst hsz;simp[Instr.slice,Instr.sliceBounds,Instr.sliceBound,asIntOf,run_underlying ht,sizeOf,typeInfo,hi,hk]
theorem run_cut_to {P:Program} (t e:TypeId) (sz:Nat) (ht:P.underlying t=some (.slice e)) {i:TypeInfo} (hi:P.info? e=some i) (_hsz:i.size=sz) (A:Option Addr) (n c k:Nat) (hk:k≤c) (w:World) :
  (Instr.slice t (.slice A n c) none (some (.int .i64 (k:Nat))) none).run P w = .ok (.slice A k c) w:=by
 subst _hsz
 have h0:(fun x:Addr=>x.add 0)=id:=by funext x;simp[Addr.add]
 simp[Instr.slice,Instr.sliceBounds,Instr.sliceBound,asIntOf,run_underlying ht,sizeOf,typeInfo,hi,hk,h0]

structure Part where
 A:Option Addr
 n:Nat
 c:Nat
 xs:List Value
def Part.val (p:Part):Value:=.slice p.A p.n p.c
theorem gb_later {w wr w2:World} {row:Option Nat} (h:w.grownBy wr row) (hb:Below wr.heap.size wr w2):w.grownBy w2 row:=
 ⟨hb.os.trans h.os,hb.tape.trans h.tape,hb.output.trans h.output,Nat.le_trans h.size hb.size,fun k hk hne=>(hb.block k (Nat.lt_of_lt_of_le hk h.size)).trans (h.block k hk hne)⟩
theorem gb_set {w wr:World} {g:Nat} (h:w.grownBy wr (some g)) (j:Nat) (u:Value):w.grownBy (wr.setCell ⟨g,j,none⟩ u) (some g):=
 ⟨h.os,h.tape,h.output,by simpa [World.setCell] using h.size,fun i hi hne=>(Below.heap_setCell wr ⟨g,j,none⟩ u i (fun e=>hne (by rw[e]))).trans (h.block i hi hne)⟩
theorem bel_drewN {B:Nat} {a w:World} (h:Below B a w) (n:Nat):Below B a (w.drewN n):=⟨h.os,h.tape,h.output,h.size,h.block⟩
theorem gb_refl (w:World) (row:Option Nat):w.grownBy w row:=⟨rfl,rfl,rfl,Nat.le_refl _,fun _ _ _=>rfl⟩

structure Rb (w:World) (lo sz:Nat) (A:Option Addr) (n c:Nat) (xs:List Value):Prop where
 len:xs.length=n*sz
 cap:n≤c
 one:∀ u∈xs,u.oneCell'=true
 at_:0<n→∃ b o,A=some ⟨b,o,none⟩∧lo≤b∧b<w.heap.size∧∀ j u,xs[j]?=some u→w.cell? ⟨b,o+j,none⟩=some u
section
variable {w w':World} {lo sz n c:Nat} {A:Option Addr} {xs:List Value}
theorem Rb.rd (h:Rb w lo sz A n c xs):Rd w w.heap.size sz A n c xs:=
 ⟨h.len,h.cap,h.one,fun hn=>by obtain⟨b,o,e,_,hb,hc⟩:=h.at_ hn;exact⟨b,o,e,hb,hc⟩⟩
theorem Rb.mono {lo':Nat} (h:Rb w lo sz A n c xs) (hl:lo'≤lo):Rb w lo' sz A n c xs:=
 ⟨h.len,h.cap,h.one,fun hn=>by obtain⟨b,o,e,h1,hb,hc⟩:=h.at_ hn;exact⟨b,o,e,by omega,hb,hc⟩⟩
theorem Rb.gb {s:Nat} (h:Rb w lo sz A n c xs) (hg:w.grownBy w' (some s)) (hs:s<lo):Rb w' lo sz A n c xs:=
 ⟨h.len,h.cap,h.one,fun hn=>by
  obtain⟨b,o,e,h1,hb,hc⟩:=h.at_ hn
  exact⟨b,o,e,h1,Nat.lt_of_lt_of_le hb hg.size,fun j u hu=>(World.cell?_of_block (hg.block b hb (fun e=>by injection e with e;omega))).trans (hc j u hu)⟩⟩
theorem Rb.later (h:Rb w lo sz A n c xs) (hb:Below w.heap.size w w'):Rb w' lo sz A n c xs:=
 ⟨h.len,h.cap,h.one,fun hn=>by
  obtain⟨b,o,e,h1,hbb,hc⟩:=h.at_ hn
  exact⟨b,o,e,h1,Nat.lt_of_lt_of_le hbb hb.size,fun j u hu=>(hb.cell (p:=⟨b,o+j,none⟩) hbb).trans (hc j u hu)⟩⟩
theorem Own.rb {base:Nat} {e:TypeId} (h:Own w base e sz A n c xs):Rb w base sz A n c xs:=by
 have h1:=h.rd;refine⟨h1.len,h1.cap,h1.one,fun hn=>?_⟩;obtain⟨b,o,e1,hb,hc⟩:=h1.at_ hn;refine⟨b,o,e1,?_,hb,hc⟩
 rcases h.row.2 with ⟨_,h0⟩ | ⟨g,_,_,hv,hg,_⟩
 ·omega
 ·injection hv with hv;rw[e1]at hv;injection hv with hv;injection hv with hv;omega
end

class Las (v v':World) (p:Prop) (q:outParam Prop):Prop where
 go:p→Below v.heap.size v v'→q
instance {sz n c:Nat} {A:Option Addr} {xs:List Value} {v v':World} : Las v v' (Rd v v.heap.size sz A n c xs) (Rd v' v'.heap.size sz A n c xs):=⟨fun h hb=>h.later hb⟩
instance {w0:World} {v v':World} : Las v v' (Below w0.heap.size w0 v) (Below w0.heap.size w0 v'):=⟨fun h hb=>h.trans (hb.mono h.size)⟩
section
variable {v v':World} {p1 p2 p3 p4 p5 p6 p7 p8 q1 q2 q3 q4 q5 q6 q7 q8:Prop}
theorem cq3 [Las v v' p1 q1] [Las v v' p2 q2] [Las v v' p3 q3] (hb:Below v.heap.size v v') (h1:Hid p1) (h2:Hid p2) (h3:Hid p3):Hid q1∧Hid q2∧Hid q3:=⟨Las.go (v:=v) (v':=v') h1.out hb,Las.go (v:=v) (v':=v') h2.out hb,Las.go (v:=v) (v':=v') h3.out hb⟩
end
end Go.Proofs.YtcbpgemiffmieaaGreat
namespace Go.Proofs.YtcbpgemiffmieaaGreat
open Go.ChangeShapes Go.WideShapes Go.ChangeAt Go.RowKit
theorem own:ownKnob Tryz.prog.godebug=none:=by kernel_rfl
theorem laidOut:laidOutB Tryz.prog=true:=by kernel_rfl

theorem trodAll_later {H:Type} {enc:TypeId×Value→H} {P:Program} (hl:laidOutB P=true) {W W':World} (hb:Below W.heap.size W W') :
  ∀ {ts:List TypeId} {vs:List Value} {ds:List (DataW H)} {ps:List MemPlace},ts.all (fun t=>P.readableRec t&&decide (t<P.types.size))=true →
   DataW.TrodAll enc P W 0 (fun _=>true) true ts vs ds ps→(∀ x∈ps,x.block<W.heap.size)→DataW.TrodAll enc P W' 0 (fun b=>decide (b<W.heap.size)) true ts vs ds ps
 | [],_,_,_,_,h,_=>by
  obtain⟨rfl,rfl,rfl⟩:=trodAll_nil h;exact trodAll_mk0
 | t::ts,_,_,_,ha,h,hlt=>by
  obtain⟨v,vs',d,ds',p,q,rfl,rfl,rfl,h0,hr⟩:=trodAll_cons h;simp only[List.all_cons,Bool.and_eq_true,decide_eq_true_eq]at ha;exact trodAll_cons_mk (Below.trod hl ha.1.1 ha.1.2 h0 hb (fun x hx=>hlt x (List.mem_append_left _ hx))) (trodAll_later hl hb (by simpa using ha.2) hr (fun x hx=>hlt x (List.mem_append_right _ hx)))

theorem law_post {H:Type} {enc:TypeId×Value→H} {f:Func} {s:ChangeSpec} {W W':World} {args:Array Value} {ds gs:List (DataW H)} {before:List MemPlace}
  (hW:DataW.Whole enc Tryz.prog f.params.toList s.vars false W args.toList ds gs before) (hall:f.params.toList.all (fun t=>Tryz.prog.readableRec t&&decide (t < Tryz.prog.types.size))=true)
  (hvars:s.vars=[]) (hrt:f.resultTypes=#[4]) (hfn:s.fn H ds = { results:=[.lit (.bool true)],args:=ds }) (hb:Below W.heap.size W W') :
  s.post enc Tryz.prog f false true false false W args (.bool true) W':=by
 have hW0:=hW;obtain⟨p,q,hA,hV,rfl,hfz,hnd⟩:=hW;rw[hvars]at hV;obtain⟨rfl,rfl⟩:=trodVars_none hV
 have hlt:∀ x∈p,x.block<W.heap.size:=fun x hx=>by simpa using hW0.lt x (by simpa using hx)
 refine⟨ds,[],p++[],[],p,[],hW0,?_,?_,?_,?_,fun h=>by cases h⟩
 ·rw[List.append_nil,hfn,hrt]
  exact trodAll_mk1 (shut_bool Tryz.underlying4 true)
 ·rw[List.append_nil,hfn]
  exact trodAll_later laidOut hb hall hA hlt
 ·rw[hvars,List.append_nil,hfn]
  rfl
 ·exact hb.frame _

theorem rd_of_cells {w:World} {a:Addr} {sz n c:Nat} {xs:List Value} (hl:xs.length=n*sz) (hc:n≤c) (h1:∀ u∈xs,u.oneCell'=true) (hsz:0<sz) (h:∀ j u,xs[j]?=some u→w.cell? (a.add j)=some u):Rd w w.heap.size sz (some a) n c xs:=by
 refine⟨hl,hc,h1,fun hn=>?_⟩
 have hpos:0<xs.length:=by rw[hl];exact Nat.mul_pos hn hsz
 have h0:=h 0 _ (List.getElem?_eq_getElem hpos)
 have hs:a.spot=none:=by
  cases he:a.spot with
  | none=>rfl
  | some q=>
   simp only[Addr.add,if_true]at h0;unfold World.cell? at h0
   split at h0
   ·rw[he]at h0;simp at h0
   ·cases h0
 obtain⟨b,o,sp⟩:=a;dsimp only at hs;subst hs
 have hb:b<w.heap.size:=by
  simp only[Addr.add,if_true]at h0;exact World.block_lt_of_cell? w _ h0
 refine⟨b,o,rfl,hb,fun j u hu=>?_⟩;have:=h j u hu;unfold Addr.add at this
 split at this
 ·rename_i hj;subst hj;exact this
 ·exact this
theorem add_add' (a:Addr) (i j:Nat):(a.add i).add j=a.add (i+j):=by
 unfold Addr.add
 by_cases hi:i=0 <;> by_cases hj:j=0 <;> simp[hi,hj,Nat.add_assoc]
theorem flatMap_len {α:Type} {f:α→List Value} {sz:Nat} (hf:∀ a,(f a).length=sz):∀ l:List α,(l.flatMap f).length=l.length*sz
 | []=>by simp
 | c::l=>by rw[List.flatMap_cons,List.length_append,hf,flatMap_len hf l,List.length_cons,Nat.succ_mul,Nat.add_comm]
theorem rd_of_trod {H:Type} {enc:TypeId×Value→H} {P:Program} {W:World} {t e:TypeId} {sz:Nat} {α:Type} (f:α→List Value) (hf:∀ a,(f a).length=sz) (h1:∀ a,∀ u∈f a,u.oneCell'=true) (hsz:0<sz)
  (ht:P.underlying t=some (.slice e)) (hce:P.cellsOf e=sz) (dec:∀ n cs y,DataW.trod enc P W 0 (fun _=>true) true n e cs=some y→∃ a,cs=f a)
  {A:Option Addr} {len cap:Nat} {fuel:Nat} {x:DataW H×List MemPlace} (h:DataW.trod enc P W 0 (fun _=>true) true fuel t (Value.slice A len cap).cells.toList=some x) :
  ∃ l:List α,l.length=len∧Rd W W.heap.size sz A len cap (l.flatMap f)∧len≤maxLen:=by
 rcases Deep.open_slice ht h with ⟨hcs,_⟩ | ⟨a,len',cap',m,n,D,Pl,hcs,_,hl,hm,hmm,_,hel⟩
 ·simp only[Value.cells]at hcs
  injection hcs with hcs;injection hcs with e1 e2 e3;subst e1;subst e2;subst e3;exact⟨[],rfl,Rd.nil _,by simp[maxLen]⟩
 ·simp only[Value.cells]at hcs
  injection hcs with hcs;injection hcs with e1 e2 e3;subst e1;subst e2;subst e3
  have hmm':m=cap:=by simpa using hmm
  clear hmm;subst hmm'
  have key:∀ q,q≤len→∃ l:List α,l.length=q∧∀ k u,(l.flatMap f)[k]?=some u→W.cell? (a.add k)=some u:=by
   intro q
   induction q with
   | zero=>intro _;exact⟨[],rfl,by simp⟩
   | succ q ih=>
    intro hq;obtain⟨l,hlq,hcell⟩:=ih (by omega);obtain⟨cs',hc,htr⟩:=hel q (by omega);obtain⟨b,rfl⟩:=dec _ _ _ htr;obtain⟨_,hlen,hat⟩:=World.cells?_some hc;refine⟨l++[b],by simp[hlq],fun k u hu=>?_⟩
    have hfl:(l.flatMap f).length=q*sz:=by
     rw[flatMap_len hf,hlq]
    rw[List.flatMap_append]at hu
    rcases Nat.lt_or_ge k (q*sz)with h5 | h5
    ·rw[List.getElem?_append_left (by omega)]at hu
     exact hcell k u hu
    ·rw[List.getElem?_append_right (by omega),hfl]at hu
     simp only[List.flatMap_cons,List.flatMap_nil,List.append_nil]at hu
     have hk:k-q*sz<sz:=by
      have:=(List.getElem?_eq_some_iff.1 hu).1;rw[hf]at this;exact this
     have:=hat (k-q*sz) (by rw[hce];exact hk);rw[add_add',hce]at this
     have e2:q*sz+(k-q*sz)=k:=by omega
     rw[e2,hu]at this;exact this
  obtain⟨l,hll,hcell⟩:=key len (Nat.le_refl _);refine⟨l,hll,rd_of_cells ?_ hl ?_ hsz hcell,Nat.le_trans hl hm⟩
  ·rw[flatMap_len hf,hll]
  ·intro u hu
   obtain⟨b,_,hu⟩:=List.mem_flatMap.1 hu;exact h1 b u hu
end Go.Proofs.YtcbpgemiffmieaaGreat
namespace Go.Proofs.YtcbpgemiffmieaaGreat
open Go.RowKit
def Kept (l:List (Addr×Value)) (w0 w:World):Prop:=Below w0.heap.size w0 w∧∀ x∈l,x.1.block<w.heap.size∧w.cell? x.1=some x.2
namespace Kept
variable {l:List (Addr×Value)} {w0 w w':World} {p:Addr} {v:Value}
theorem below (h:Kept l w0 w):Below w0.heap.size w0 w:=h.1
theorem nil (w:World):Kept [] w w:=⟨Below.refl _ _,by simp⟩
theorem nil_of (h:Below w0.heap.size w0 w):Kept [] w0 w:=⟨h,by simp⟩
theorem cons (h:Kept l w0 w) (hp:p.block<w.heap.size) (hv:w.cell? p=some v):Kept ((p,v)::l) w0 w:=
 ⟨h.1,fun x hx=>by
  rcases List.mem_cons.1 hx with rfl | hx
  ·exact⟨hp,hv⟩
  ·exact h.2 x hx⟩
theorem cons_of (h:Kept l w0 w) (hv:w.cell? p=some v):Kept ((p,v)::l) w0 w:=h.cons (by obtain⟨b,o,s⟩:=p;exact World.block_lt_of_cell? w _ hv) hv
theorem later (h:Kept l w0 w) (hb:Below w.heap.size w w'):Kept l w0 w':=
 ⟨h.1.trans (hb.mono h.1.size),fun x hx=>⟨Nat.lt_of_lt_of_le (h.2 x hx).1 hb.size,(hb.cell (p:=x.1) (h.2 x hx).1).trans (h.2 x hx).2⟩⟩
theorem alloc (h:Kept l w0 w) (o:Obj):Kept l w0 (w.alloc o):=h.later ((Below.refl _ _).alloc (Nat.le_refl _) _)
theorem drew (h:Kept l w0 w):Kept l w0 w.drew:=h.later ((bel_drewN (Below.refl _ _) 1))
theorem drewN (h:Kept l w0 w) (n:Nat):Kept l w0 (w.drewN n):=h.later ((bel_drewN (Below.refl _ _) n))
theorem set (h:Kept l w0 w) {a:Addr} (ha:w0.heap.size≤a.block) (hl:∀ x∈l,x.1.block≠a.block) (u:Value):Kept l w0 (w.setCell a u):=
 ⟨h.1.setCell ha _,fun x hx=>⟨by simpa [World.setCell] using (h.2 x hx).1,(World.cell?_setCell_other w a x.1 u (fun e=>hl x hx (by rw[e]))).trans (h.2 x hx).2⟩⟩
theorem tail {x:Addr×Value} (h:Kept (x::l) w0 w):Kept l w0 w:=⟨h.1,fun y hy=>h.2 y (List.mem_cons_of_mem _ hy)⟩
theorem head {x:Addr×Value} (h:Kept (x::l) w0 w):w.cell? x.1=some x.2:=(h.2 x (List.mem_cons_self)).2
theorem c0 (h:Kept ((p,v)::l) w0 w):w.cell? p=some v:=h.head
theorem c1 {x0:Addr×Value} (h:Kept (x0::(p,v)::l) w0 w):w.cell? p=some v:=h.tail.head
theorem c2 {x0 x1:Addr×Value} (h:Kept (x0::x1::(p,v)::l) w0 w):w.cell? p=some v:=h.tail.tail.head
theorem c3 {x0 x1 x2:Addr×Value} (h:Kept (x0::x1::x2::(p,v)::l) w0 w):w.cell? p=some v:=h.tail.tail.tail.head
theorem c4 {x0 x1 x2 x3:Addr×Value} (h:Kept (x0::x1::x2::x3::(p,v)::l) w0 w):w.cell? p=some v:=h.tail.tail.tail.tail.head
theorem c5 {x0 x1 x2 x3 x4:Addr×Value} (h:Kept (x0::x1::x2::x3::x4::(p,v)::l) w0 w):w.cell? p=some v:=h.tail.tail.tail.tail.tail.head
theorem c6 {x0 x1 x2 x3 x4 x5:Addr×Value} (h:Kept (x0::x1::x2::x3::x4::x5::(p,v)::l) w0 w):w.cell? p=some v:=h.tail.tail.tail.tail.tail.tail.head
theorem t8 {x0 x1 x2 x3 x4 x5 x6 x7:Addr×Value} (h:Kept (x0::x1::x2::x3::x4::x5::x6::x7::l) w0 w):Kept l w0 w:=h.tail.tail.tail.tail.tail.tail.tail.tail
theorem c7 {x0 x1 x2 x3 x4 x5 x6:Addr×Value} (h:Kept (x0::x1::x2::x3::x4::x5::x6::(p,v)::l) w0 w):w.cell? p=some v:=h.tail.tail.tail.tail.tail.tail.tail.head
theorem st3 (h:Kept l w0 w) {g:Nat} (ha:w0.heap.size≤g) (hl:∀ x∈l,x.1.block≠g) (a b c:Value):Kept l w0 (((w.setCell ⟨g,0,none⟩ a).setCell ⟨g,1,none⟩ b).setCell ⟨g,2,none⟩ c):=((h.set (a:=⟨g,0,none⟩) ha hl a).set (a:=⟨g,1,none⟩) ha hl b).set (a:=⟨g,2,none⟩) ha hl c
end Kept
def Conj:List (Addr×Value)→World→Prop
 | [],_=>True
 | (a,v)::l,w=>w.cell? a=some v∧Conj l w
theorem Kept.cj {w0 w:World} : ∀ {l:List (Addr×Value)},Kept l w0 w→Conj l w
 | [],_=>trivial
 | (_,_)::_,h=>⟨h.head,Kept.cj h.tail⟩
def Free (g:Nat) (w:World):Prop:=g<w.heap.size∧∀ j,w.frozen? ⟨g,j,none⟩=false
namespace Free
variable {g:Nat} {w w':World}
theorem later (h:Free g w) (hb:Below w.heap.size w w'):Free g w':=⟨Nat.lt_of_lt_of_le h.1 hb.size,fun j=>(hb.frozen (p:=⟨g,j,none⟩) h.1).trans (h.2 j)⟩
theorem alloc (h:Free g w) (o:Obj):Free g (w.alloc o):=h.later ((Below.refl _ _).alloc (Nat.le_refl _) _)
theorem drewN (h:Free g w) (n:Nat):Free g (w.drewN n):=h.later ((bel_drewN (Below.refl _ _) n))
theorem drew (h:Free g w):Free g w.drew:=h.later ((bel_drewN (Below.refl _ _) 1))
theorem set (h:Free g w) (a:Addr) (u:Value):Free g (w.setCell a u):=⟨by simpa [World.setCell] using h.1,fun j=>by rw[World.frozen?_setCell];exact h.2 j⟩
end Free
instance {l:List (Addr×Value)} {w0:World} {v v':World} : Las v v' (Kept l w0 v) (Kept l w0 v'):=⟨fun h hb=>h.later hb⟩
instance {g:Nat} {v v':World} : Las v v' (Free g v) (Free g v'):=⟨fun h hb=>h.later hb⟩
theorem drq (v:World):∃ v':World,v'=v.drew∧Below v.heap.size v v':=⟨_,rfl,bel_drewN (Below.refl _ _) 1⟩
section
variable {w w' v W:World} {g r p o:Nat} {o':Obj} {u a b c a' b' c':Value}
end
end Go.Proofs.YtcbpgemiffmieaaGreat
namespace Go.Proofs.YtcbpgemiffmieaaGreat
structure Is {α:Type} (x y:α):Prop where
 out:x=y
theorem Is.rfl {α:Type} {x:α} : Is x x:=⟨Eq.refl x⟩
section
variable {P:Program} {md:Region.Mode} {ops:Array Oper} {Q:Exit→Act→World→Prop} {S:World→Prop} {fuel:Nat} {listed l2:Array Bool} {a a2:Act} {w:World}
theorem Tk (i d:Nat) {oi:Oper} {v:Value} (h:wpAnyH P md ops Q S fuel l2 a2 w) (hi:ops[i]?=some oi:=by rfl) (hd:oi.dst=some d:=by rfl) (hs:Region.noSelect ops=true:=by kernel_rfl) (hf:Region.free md ops listed i=true:=by kernel_rfl) (hr:(Region.ready md ops listed).contains i=true:=by kernel_rfl)
  (hw:Region.wanted oi (yielded ops a.tmps)=true:=by kernel_rfl)
  (hy:∀ wz,S wz→(execOp a.eval oi).run P wz = .ok (.value v) wz:=by (intro wz hSw;(try dsimp only at hSw);(try simp only[Conj]at hSw);go_simp;try with_reducible rfl))
  (hQ:∀ c a w,Q (.panic c) (a.put oi.dst v) w→Q (.panic c) a w:=by exact fun _ _ _ h=>h) (hS:S w:=by assumption)
  (ha:Is (a.put (some d) v) a2:=by first | (simp only[Act.put,List.setIfInBounds_toArray,List.set_cons_zero,List.set_cons_succ];exact Is.rfl) | exact Is.rfl) (hl:Is (listed.setIfInBounds i true) l2:=by first | (simp only[List.setIfInBounds_toArray,List.set_cons_zero,List.set_cons_succ];exact Is.rfl) | exact Is.rfl):wpAnyH P md ops Q S (fuel+1) listed a w:=
 wpAnyH_take hi hs hf hr hQ (Or.inl ⟨hw,hy⟩) hS (by rw[hd,ha.out,hl.out];exact h)
theorem Tn (i d:Nat) {oi:Oper} (h:wpAnyH P md ops Q S fuel l2 a2 w) (hi:ops[i]?=some oi:=by rfl) (hd:oi.dst=some d:=by rfl) (hs:Region.noSelect ops=true:=by kernel_rfl) (hf:Region.free md ops listed i=true:=by kernel_rfl) (hr:(Region.ready md ops listed).contains i=true:=by kernel_rfl)
  (hw:Region.wanted oi (yielded ops a.tmps)=false:=by kernel_rfl)
  (hQ:∀ c a w,Q (.panic c) (a.put oi.dst undef) w→Q (.panic c) a w:=by exact fun _ _ _ h=>h) (hS:S w:=by assumption)
  (ha:Is (a.put (some d) undef) a2:=by first | (simp only[Act.put,List.setIfInBounds_toArray,List.set_cons_zero,List.set_cons_succ];exact Is.rfl) | exact Is.rfl) (hl:Is (listed.setIfInBounds i true) l2:=by first | (simp only[List.setIfInBounds_toArray,List.set_cons_zero,List.set_cons_succ];exact Is.rfl) | exact Is.rfl):wpAnyH P md ops Q S (fuel+1) listed a w:=
 wpAnyH_take hi hs hf hr hQ (Or.inr ⟨hw,rfl⟩) hS (by rw[hd,ha.out,hl.out];exact h)
theorem Tc (i:Nat) {oi:Oper} (h:∀ K':Act→World→Prop,Shut (∀ a w,S w→(S w→wpAnyH P md ops Q S fuel (listed.setIfInBounds i true) a w)→K' a w)→if Region.wanted oi (yielded ops a.tmps)=true then Oper.wp P oi a w K' Q else K' (a.put oi.dst undef) w)
  (hi:ops[i]?=some oi:=by rfl) (hr:Region.ready md ops listed=[i]:=by kernel_rfl):wpAnyH P md ops Q S (fuel+1) listed a w:=
 wpAnyH_ready hr (by simp) (AllReadyH.cons hi h AllReadyH.nil)
theorem Th {K':Act→World→Prop} (hK:Shut (∀ a w,S w→(S w→wpAnyH P md ops Q S fuel listed a w)→K' a w)) (hS:S w) (h:S w→wpAnyH P md ops Q S fuel l2 a2 w)
  (ha:Is a a2:=by first | (simp only[Act.put,List.setIfInBounds_toArray,List.set_cons_zero,List.set_cons_succ];exact Is.rfl) | exact Is.rfl) (hl:Is listed l2:=by first | (simp only[List.setIfInBounds_toArray,List.set_cons_zero,List.set_cons_succ];exact Is.rfl) | exact Is.rfl):K' a w:=
 hK.out _ _ hS fun hs=>by rw[ha.out,hl.out];exact h hs
end
end Go.Proofs.YtcbpgemiffmieaaGreat
namespace Go.Proofs.YtcbpgemiffmieaaGreat
open Go.RowKit

def u8s (bs:List UInt8):List Value:=bs.map fun b=>Value.int .u8 b.toNat
theorem u8s_length (bs:List UInt8):(u8s bs).length=bs.length:=by simp[u8s]
theorem u8s_one (bs:List UInt8):∀ u∈u8s bs,u.oneCell'=true:=by
 intro u hu;simp only[u8s,List.mem_map]at hu;obtain⟨b,_,rfl⟩:=hu;rfl
theorem u8s_append (a b:List UInt8):u8s (a++b)=u8s a++u8s b:=by simp[u8s]
theorem u8s_take (a:List UInt8) (n:Nat):u8s (a.take n)=(u8s a).take n:=by simp[u8s,List.map_take]
theorem u8s_drop (a:List UInt8) (n:Nat):u8s (a.drop n)=(u8s a).drop n:=by simp[u8s,List.map_drop]
theorem u8s_get (bs:List UInt8) (k:Nat) (h:k<bs.length):(u8s bs)[k]?=some (.int .u8 bs[k].toNat):=by simp[u8s,h]
def strOf (bs:List UInt8):ByteArray:=⟨bs.toArray⟩
theorem strOf_size (bs:List UInt8):(strOf bs).size=bs.length:=rfl
theorem strOf_list (bs:List UInt8):(strOf bs).data.toList=bs:=by simp[strOf]
def sev (u:Nat):List UInt8:=if u<128 then [UInt8.ofNat u]else UInt8.ofNat (u % 128+128)::sev (u / 128)
termination_by u
decreasing_by omega
theorem sev_lt {u:Nat} (h:u<128):sev u=[UInt8.ofNat u]:=by rw[sev,if_pos h]
theorem sev_ge {u:Nat} (h:128≤u):sev u=UInt8.ofNat (u % 128+128)::sev (u / 128):=by rw[sev,if_neg (by omega)]
theorem sev_pos (u:Nat):1≤(sev u).length:=by
 rcases Nat.lt_or_ge u 128 with h | h
 ·rw[sev_lt h];simp
 ·rw[sev_ge h];simp
theorem sev_len:∀ (k u:Nat),u<128 ^ (k+1)→(sev u).length≤k+1
 | 0,u,h=>by rw[sev_lt (by simpa using h)];simp
 | k+1,u,h=>by
  rcases Nat.lt_or_ge u 128 with h1 | h1
  ·rw[sev_lt h1];simp
  ·rw[sev_ge h1,List.length_cons]
   have:=sev_len k (u / 128) (by rw[Nat.div_lt_iff_lt_mul (by omega)];rw[Nat.pow_succ]at h;exact h);omega
theorem sev_ten {u:Nat} (h:u<18446744073709551616):(sev u).length≤10:=sev_len 9 u (Nat.lt_of_lt_of_le h (by decide))

def foldN (v:Int):Nat:=if v<0 then (2*(-(v+1))+1).toNat else (2*v).toNat
def unfoldN (u:Nat):Int:=if u % 2=1 then -((u / 2:Nat):Int)-1 else ((u / 2:Nat):Int)
theorem unfold_fold (v:Int):unfoldN (foldN v)=v:=by
 unfold unfoldN foldN
 split <;> split <;> omega
theorem fold_unfold (u:Nat):foldN (unfoldN u)=u:=by
 unfold unfoldN foldN
 split <;> split <;> omega
theorem fold_lt {v:Int} (h1 : -9223372036854775808≤v) (h2:v≤9223372036854775807):foldN v<18446744073709551616:=by
 unfold foldN;split <;> omega
theorem unfold_in {u:Nat} (h:u<18446744073709551616) : -9223372036854775808≤unfoldN u∧unfoldN u≤9223372036854775807:=by
 unfold unfoldN;split <;> omega
def numB (v:Int):List UInt8:=sev (foldN v)
theorem numB_pos (v:Int):1≤(numB v).length:=sev_pos _
theorem numB_ten {v:Int} (h1 : -9223372036854775808≤v) (h2:v≤9223372036854775807):(numB v).length≤10:=sev_ten (fold_lt h1 h2)

theorem sev_prefix:∀ (a b:Nat) (x y:List UInt8),sev a++x=sev b++y→a=b∧x=y:=by
 intro a
 induction a using Nat.strongRecOn with
 | ind a ih=>
  intro b x y h
  rcases Nat.lt_or_ge a 128 with ha | ha <;> rcases Nat.lt_or_ge b 128 with hb | hb
  ·rw[sev_lt ha,sev_lt hb]at h
   simp only[List.cons_append,List.nil_append,List.cons.injEq]at h;have h1:=congrArg UInt8.toNat h.1;simp only[UInt8.toNat_ofNat']at h1;exact⟨by omega,h.2⟩
  ·rw[sev_lt ha,sev_ge hb]at h
   simp only[List.cons_append,List.nil_append,List.cons.injEq]at h;have h1:=congrArg UInt8.toNat h.1;simp only[UInt8.toNat_ofNat']at h1;omega
  ·rw[sev_ge ha,sev_lt hb]at h
   simp only[List.cons_append,List.nil_append,List.cons.injEq]at h;have h1:=congrArg UInt8.toNat h.1;simp only[UInt8.toNat_ofNat']at h1;omega
  ·rw[sev_ge ha,sev_ge hb]at h
   simp only[List.cons_append,List.cons.injEq]at h;have h1:=congrArg UInt8.toNat h.1;simp only[UInt8.toNat_ofNat']at h1;obtain⟨h2,h3⟩:=ih (a / 128) (by omega) _ _ _ h.2;exact⟨by omega,h3⟩
theorem numB_prefix {a b:Int} {x y:List UInt8} (h:numB a++x=numB b++y):a=b∧x=y:=by
 obtain⟨h1,h2⟩:=sev_prefix _ _ _ _ h;exact⟨by rw[← unfold_fold a,h1,unfold_fold],h2⟩

def Begins (bs:List UInt8) (u n:Nat):Prop:=u<18446744073709551616∧n≤bs.length∧bs.take n=sev u
theorem Begins.split {bs:List UInt8} {u n:Nat} (h:Begins bs u n):bs=sev u++bs.drop n:=by
 rw[← h.2.2,List.take_append_drop]
theorem Begins.len {bs:List UInt8} {u n:Nat} (h:Begins bs u n):n=(sev u).length:=by
 rw[← h.2.2,List.length_take];have:=h.2.1;omega
theorem Begins.uniq {bs:List UInt8} {u n u' n':Nat} (h:Begins bs u n) (h':Begins bs u' n'):u=u'∧n=n':=by
 have h1:=h.split.symm.trans h'.split;obtain⟨rfl,_⟩:=sev_prefix _ _ _ _ h1;exact⟨rfl,by rw[h.len,h'.len]⟩
theorem begins_of {u:Nat} (h:u<18446744073709551616) (x:List UInt8):Begins (sev u++x) u (sev u).length:=⟨h,by simp,by simp⟩

section
variable {P:Program}
theorem run_str (w:World) (src dst e:TypeId) (hs:P.underlying src=some (.slice e)) (he:P.underlying e=some (.int .u8)) (hd:P.underlying dst=some .string)
  {B:Nat} {A:Option Addr} {n c:Nat} {bs:List UInt8} (hr:Rd w B 1 A n c (u8s bs)) :
  (convert src dst (.slice A n c)).run P w = .ok (.string (strOf bs)) w:=by
 have hl:bs.length=n:=by have:=hr.len;rw[u8s_length]at this;omega
 rcases Nat.eq_zero_or_pos n with h0 | h0
 ·subst h0
  have hb:bs=[]:=List.eq_nil_of_length_eq_zero hl;subst hb;rw[run_convert_bytes_string w src dst e A 0 c hs he hd]
  cases A with
  | none=>simp[Conv.bytesToString,strOf,Sem.run_pure];try rfl
  | some a=>
   rw[run_bytesToString w a 0 c [] (by simp[loadCells,loadCellsFrom,Sem.run_pure])];rfl
 ·obtain⟨b,o,rfl,_,hc⟩:=hr.at_ h0
  have h:=Lib.run_convert_whole (P:=P) w src e dst hs he hd b o (strOf bs) (fun i hi=>by
   have hi':i<bs.length:=hi;rw[hc i _ (u8s_get bs i hi')]
   rfl) c
  rw[strOf_size,hl]at h;exact h

theorem run_app_str (w:World) (t u ty e:TypeId) (i:TypeInfo) (ht:P.underlying t=some (.slice e)) (hu:P.underlying u=some .string) (hi:P.info? e=some i) (hz:i.zero=some (.int .u8 0))
  (hsize:i.size=1) (hby:i.bytes=1) {v:Value} {n base:Nat} {xs:List Value} (hown:w.ownsRow base e 1 v n xs) (s:ByteArray) (h63:n+s.size≤1000000) (hbase:base≤w.heap.size) :
  ∃ v' w',(Builtin.append_ #[t,u] ty #[v,.string s]).run P w = .ok v' w'∧w'.ownsRow base e 1 v' (n+s.size) (xs++u8s s.data.toList)∧w.grownBy w' v.ownBlock ∧
   (v'.ownBlock=v.ownBlock∨v'.ownBlock=some w.heap.size):=by
 obtain⟨v',w',hr,h1,h2,h3⟩:=Lib.run_append_own_string w base t u ty e i ht hu hi hz hsize hby v n xs hown s (by simp only[maxLen];omega) (by omega) hbase;refine⟨v',w',hr,h1,h2,?_⟩
 have hxl:xs.length=n:=by simpa using hown.1
 rcases hown.2 with ⟨rfl,rfl⟩ | ⟨g,cap,cur,rfl,hbg,hg,hnc,hcm,hcs,htake⟩
 ·by_cases hm:s.size=0
  ·exact .inl (by rw[h3.2 ⟨rfl,hm⟩])
  ·have hr2:=run_append_nil_string (P:=P) w t u ty e i (.int .u8 0) ht hu hi hz s (by omega) (by omega) (by rw[hby];omega)
   rw[hr]at hr2;injection hr2 with e1 e2;exact .inr (by rw[e1];rfl)
 ·by_cases hroom:n+s.size≤cap
  ·have hr2:=Lib.run_append_room_string (P:=P) w t u ty e i ht hu hi hsize g n cap cur hg s hroom (by omega)
   rw[hr]at hr2;injection hr2 with e1 e2;exact .inl (by rw[e1];rfl)
  ·have holds:∀ j u,xs[j]?=some u→w.cell? ((⟨g,0,none⟩:Addr).add j)=some u:=hown.cells (g:=g) rfl
   have hr2:=Lib.run_append_grow_string (P:=P) w t u ty e i (.int .u8 0) ht hu hi hz ⟨g,0,none⟩ n cap xs (by rw[hsize];simpa using hxl) holds s (by omega) (by omega) (by rw[hby];exact growslice_fits (by omega) (by omega));rw[hr]at hr2;injection hr2 with e1 e2;exact .inr (by rw[e1];rfl)
end

structure Two (a:Nat) (g:Option Nat) (w w':World):Prop where
 os:w'.os=w.os
 tape:w'.tape=w.tape
 output:w'.output=w.output
 size:w.heap.size≤w'.heap.size
 block:∀ k,k<w.heap.size→k≠a→some k≠g→w'.heap[k]?=w.heap[k]?
def Fresh (g g':Option Nat) (w:World):Prop:=g'=none∨g'=g∨∃ k,g'=some k∧w.heap.size≤k
section
variable {a:Nat} {g g' g2:Option Nat} {w w' w2:World}
theorem Two.refl (a:Nat) (g:Option Nat) (w:World):Two a g w w:=⟨rfl,rfl,rfl,Nat.le_refl _,fun _ _ _ _=>rfl⟩
theorem Fresh.refl (g:Option Nat) (w:World):Fresh g g w:=.inr (.inl rfl)
theorem Two.of_below (h:Below w.heap.size w w'):Two a g w w':=⟨h.os,h.tape,h.output,h.size,fun k hk _ _=>h.block k hk⟩
theorem Two.of_grown (h:w.grownBy w' g):Two a g w w':=⟨h.os,h.tape,h.output,h.size,fun k hk _ h2=>h.block k hk h2⟩
theorem Two.trans (h:Two a g w w') (hf:Fresh g g' w) (h2:Two a g' w' w2):Two a g w w2:=
 ⟨h2.os.trans h.os,h2.tape.trans h.tape,h2.output.trans h.output,Nat.le_trans h.size h2.size,fun k hk ha hg=>
  (h2.block k (Nat.lt_of_lt_of_le hk h.size) ha (by
   rcases hf with rfl | rfl | ⟨q,rfl,hq⟩
   ·intro e;cases e
   ·exact hg
   ·intro e;injection e with e;omega)).trans (h.block k hk ha hg)⟩
theorem Fresh.trans (hf:Fresh g g' w) (hs:w.heap.size≤w'.heap.size) (h2:Fresh g' g2 w'):Fresh g g2 w:=by
 rcases h2 with rfl | rfl | ⟨k,rfl,hk⟩
 ·exact .inl rfl
 ·exact hf
 ·exact .inr (.inr ⟨k,rfl,by omega⟩)
theorem Two.setCell (h:Two a g w w') (o:Nat) (u:Value):Two a g w (w'.setCell ⟨a,o,none⟩ u):=
 ⟨h.os,h.tape,h.output,by simpa [World.setCell] using h.size,fun k hk ha hg=>(Below.heap_setCell w' ⟨a,o,none⟩ u k ha).trans (h.block k hk ha hg)⟩
theorem Two.cell (h:Two a g w w') {p:Addr} (hp:p.block<w.heap.size) (ha:p.block≠a) (hg:some p.block≠g):w'.cell? p=w.cell? p:=World.cell?_of_block (h.block p.block hp ha hg)
theorem Two.frozen (h:Two a g w w') {p:Addr} (hp:p.block<w.heap.size) (ha:p.block≠a) (hg:some p.block≠g):w'.frozen? p=w.frozen? p:=World.frozen?_of_block (h.block p.block hp ha hg)
theorem Rd.two {B sz n c:Nat} {A:Option Addr} {xs:List Value} (hr:Rd w B sz A n c xs) (h:Two a g w w') (hB:B≤w.heap.size) (hA:∀ b o,A=some ⟨b,o,none⟩→b≠a∧some b≠g):Rd w' B sz A n c xs:=
 ⟨hr.len,hr.cap,hr.one,fun hn=>by
  obtain⟨b,o,e,hb,hc⟩:=hr.at_ hn;obtain⟨h1,h2⟩:=hA b o e
  exact⟨b,o,e,hb,fun j u hu=>(h.cell (p:=⟨b,o+j,none⟩) (show b<_ by omega) h1 h2).trans (hc j u hu)⟩⟩
theorem Two.below (h:Two a g w w') {B:Nat} (ha:B≤a) (hg:∀ k,g=some k→B≤k) (hB:B≤w.heap.size):Below B w w':=
 ⟨h.os,h.tape,h.output,h.size,fun k hk=>h.block k (by omega) (by omega) (fun e=>by have:=hg k e.symm;omega)⟩
theorem ownsRow_two {base e sz n:Nat} {v:Value} {xs:List Value} (hr:w.ownsRow base e sz v n xs) (h:Two a g w w') (hv:∀ b,v.ownBlock=some b→b≠a∧some b≠g):w'.ownsRow base e sz v n xs:=by
 refine⟨hr.1,?_⟩
 rcases hr.2 with h1 | ⟨b,cap,cur,rfl,h2,h3,h4⟩
 ·exact .inl h1
 ·obtain⟨h5,h6⟩:=hv b rfl
  exact .inr ⟨b,cap,cur,rfl,h2,(h.block b (Array.getElem?_eq_some_iff.1 h3).1 h5 h6).trans h3,h4⟩
theorem ownsRow_later {base e sz n:Nat} {v:Value} {xs:List Value} (hr:w.ownsRow base e sz v n xs) (h:Below w.heap.size w w'):w'.ownsRow base e sz v n xs:=by
 refine⟨hr.1,?_⟩
 rcases hr.2 with h1 | ⟨b,cap,cur,rfl,h2,h3,h4⟩
 ·exact .inl h1
 ·exact .inr ⟨b,cap,cur,rfl,h2,(h.block b (Array.getElem?_eq_some_iff.1 h3).1).trans h3,h4⟩
theorem ownBlock_lt {base e sz n:Nat} {v:Value} {xs:List Value} (hr:w.ownsRow base e sz v n xs) {b:Nat} (h:v.ownBlock=some b):base≤b∧b<w.heap.size:=by
 rcases hr.2 with ⟨rfl,_⟩ | ⟨b',cap,cur,rfl,h2,h3,h4⟩
 ·cases h
 ·injection h with h
  have h':b'=b:=h;subst h';exact⟨h2,(Array.getElem?_eq_some_iff.1 h3).1⟩
end
end Go.Proofs.YtcbpgemiffmieaaGreat
namespace Go.Proofs.YtcbpgemiffmieaaGreat
def val:List UInt8→Nat
 | []=>0
 | b::l=>b.toNat % 128+128*val l
theorem val_append (l m:List UInt8):val (l++m)=val l+128 ^ l.length*val m:=by
 induction l with
 | nil=>simp[val]
 | cons b l ih=>
  simp only[List.cons_append,val,ih,List.length_cons,Nat.pow_succ];rw[Nat.mul_add,Nat.mul_comm (128 ^ l.length) 128,Nat.mul_assoc];omega
theorem val_lt (l:List UInt8):val l<128 ^ l.length:=by
 induction l with
 | nil=>simp[val]
 | cons b l ih=>
  simp only[val,List.length_cons,Nat.pow_succ];omega
theorem val_one (x:UInt8):val [x]=x.toNat % 128:=by simp[val]
theorem val_take_succ (bs:List UInt8) (i:Nat) (h:i<bs.length):val (bs.take (i+1))=val (bs.take i)+128 ^ i*(bs[i].toNat % 128):=by
 rw[List.take_succ_eq_append_getElem h,val_append,val_one,List.length_take,Nat.min_eq_left (by omega)]
theorem val_sev:∀ u:Nat,val (sev u)=u:=by
 intro u
 induction u using Nat.strongRecOn with
 | ind u ih=>
  rcases Nat.lt_or_ge u 128 with h | h
  ·rw[sev_lt h,val_one,UInt8.toNat_ofNat'];omega
  ·rw[sev_ge h]
   simp only[val];rw[ih (u / 128) (by omega),UInt8.toNat_ofNat'];omega
theorem sev_shape:∀ u:Nat,∃ pre x,sev u=pre++[x]∧(∀ b∈pre,128≤b.toNat)∧x.toNat<128∧(pre≠[]→x.toNat≠0):=by
 intro u
 induction u using Nat.strongRecOn with
 | ind u ih=>
  rcases Nat.lt_or_ge u 128 with h | h
  ·exact⟨[],UInt8.ofNat u,by rw[sev_lt h];rfl,by simp,by rw[UInt8.toNat_ofNat'];omega,fun h=>absurd rfl h⟩
  ·obtain⟨pre,x,e,h1,h2,h3⟩:=ih (u / 128) (by omega)
   refine⟨UInt8.ofNat (u % 128+128)::pre,x,by rw[sev_ge h,e];rfl,?_,h2,fun _=>?_⟩
   ·intro b hb
    rcases List.mem_cons.1 hb with rfl | hb
    ·rw[UInt8.toNat_ofNat'];omega
    ·exact h1 b hb
   ·by_cases hp:pre=[]
    ·subst hp
     have hv:=val_sev (u / 128);rw[e]at hv;simp only[List.nil_append,val_one]at hv;omega
    ·exact h3 hp
theorem sev_val:∀ (pre:List UInt8) (x:UInt8),(∀ b∈pre,128≤b.toNat)→x.toNat<128→(pre≠[]→x.toNat≠0)→sev (val (pre++[x]))=pre++[x]
 | [],x,_,h2,_=>by
  simp only[List.nil_append,val_one];rw[sev_lt (by omega),Nat.mod_eq_of_lt h2];simp
 | b::pre,x,h1,h2,h3=>by
  have hb:=h1 b (by simp);have hx:=h3 (by simp);have ih:=sev_val pre x (fun c hc=>h1 c (List.mem_cons_of_mem _ hc)) h2 (fun _=>hx)
  have hpos:1≤val (pre++[x]):=by
   rw[val_append,val_one,Nat.mod_eq_of_lt h2];have:0<128 ^ pre.length:=Nat.pow_pos (by decide);have:=Nat.mul_pos this (Nat.pos_of_ne_zero hx);omega
  have hlt:=b.toNat_lt;simp only[List.cons_append,val];rw[sev_ge (by omega)]
  have e1:(b.toNat % 128+128*val (pre++[x])) / 128=val (pre++[x]):=by omega
  have e2:(b.toNat % 128+128*val (pre++[x])) % 128+128=b.toNat:=by omega
  rw[e1,e2,ih];simp
def On (bs:List UInt8) (i:Nat):Prop:=∀ j (h:j<bs.length),j<i→128≤bs[j].toNat
theorem On.zero (bs:List UInt8):On bs 0:=fun _ _ h=>by omega
theorem On.step {bs:List UInt8} {i:Nat} (h:On bs i) (hi:i<bs.length) (hx:128≤bs[i].toNat):On bs (i+1):=fun j hj hji=>by
 rcases Nat.lt_or_ge j i with h1 | h1
 ·exact h j hj h1
 ·obtain rfl:j=i:=by omega
  exact hx
theorem On.take {bs:List UInt8} {i:Nat} (h:On bs i):∀ b∈bs.take i,128≤b.toNat:=by
 intro b hb;obtain⟨j,hj,rfl⟩:=List.getElem_of_mem hb;rw[List.length_take]at hj;rw[List.getElem_take];exact h j (by omega) (by omega)
theorem Begins.ends {bs:List UInt8} {u n:Nat} (h:Begins bs u n):∃ q,n=q+1∧On bs q∧∃ hq:q<bs.length,bs[q].toNat<128∧(0<q→bs[q].toNat≠0)∧u=val (bs.take (q+1)):=by
 obtain⟨pre,x,e,h1,h2,h3⟩:=sev_shape u;have hn:=h.len;have hs:=h.split;rw[e]at hn hs;rw[List.length_append,List.length_singleton]at hn;have hl:=h.2.1
 have hq:pre.length<bs.length:=by omega
 have hx:bs[pre.length]=x:=by
  have:bs[pre.length]?=some x:=by rw[hs];simp
  rw[List.getElem?_eq_getElem hq]at this;injection this
 refine⟨pre.length,hn,?_,hq,by rw[hx];exact h2,fun h0=>by rw[hx];exact h3 (by intro e;rw[e]at h0;simp at h0),?_⟩
 ·intro j hj hjp
  have hj2:bs[j]?=some pre[j]:=by rw[hs,List.append_assoc,List.getElem?_append_left hjp,List.getElem?_eq_getElem hjp]
  rw[List.getElem?_eq_getElem hj]at hj2;injection hj2 with hj2;rw[hj2];exact h1 _ (List.getElem_mem hjp)
 ·rw[← hn,h.2.2,val_sev]
theorem Begins.at_ {bs:List UInt8} {u n i:Nat} (h:Begins bs u n) (ho:On bs i) (hi:i<bs.length) (hx:bs[i].toNat<128):n=i+1∧u=val (bs.take (i+1))∧(0<i→bs[i].toNat≠0):=by
 obtain⟨q,rfl,hoq,hq,h1,h2,h3⟩:=h.ends
 have:q=i:=by
  rcases Nat.lt_trichotomy q i with h4 | h4 | h4
  ·have:=ho q hq h4;omega
  ·exact h4
  ·have:=hoq i hi h4;omega
 subst this;exact⟨rfl,h3,h2⟩
theorem no_begins_end {bs:List UInt8} (ho:On bs bs.length) (u n:Nat):¬Begins bs u n:=fun h=>by
 obtain⟨q,rfl,hoq,hq,h1,_⟩:=h.ends;have:=ho q hq hq;omega
theorem no_begins_ten {bs:List UInt8} (ho:On bs 9) (h9:9<bs.length) (hx:1<bs[9].toNat) (u n:Nat):¬Begins bs u n:=fun h=>by
 obtain⟨q,rfl,hoq,hq,h1,_,h3⟩:=h.ends;have h10:=sev_ten h.1;have hl:=h.len
 have hq9:9≤q:=by
  rcases Nat.lt_or_ge q 9 with h4 | h4
  ·have:=ho q hq h4;omega
  ·exact h4
 obtain rfl:q=9:=by omega
 rw[val_take_succ _ _ hq]at h3;have h5:bs[9].toNat % 128=bs[9].toNat:=Nat.mod_eq_of_lt h1;rw[h5]at h3;have h6:=h.1;omega
theorem no_begins_zero {bs:List UInt8} {i:Nat} (ho:On bs i) (hi:i<bs.length) (hx:bs[i].toNat=0) (h0:0<i) (u n:Nat):¬Begins bs u n:=fun h=>by
 exact (h.at_ ho hi (by omega)).2.2 h0 hx
theorem begins_at {bs:List UInt8} {i:Nat} (ho:On bs i) (hi:i<bs.length) (h9:i≤9) (hx9:i=9→bs[i].toNat≤1) (hx:bs[i].toNat<128) (h0:0<i→bs[i].toNat≠0):Begins bs (val (bs.take (i+1))) (i+1):=by
 have e:bs.take (i+1)=bs.take i++[bs[i]]:=List.take_succ_eq_append_getElem hi;refine⟨?_,by omega,?_⟩
 ·rw[val_take_succ _ _ hi]
  have h1:=val_lt (bs.take i);rw[List.length_take,Nat.min_eq_left (by omega)]at h1
  rcases Nat.lt_or_ge i 9 with h2 | h2
  ·have h3:128 ^ (i+1)≤128 ^ 9:=Nat.pow_le_pow_right (by decide) (by omega)
   have h4:val (bs.take i)+128 ^ i*(bs[i].toNat % 128)<128 ^ (i+1):=by
    have:=val_lt (bs.take (i+1));rw[val_take_succ _ _ hi,List.length_take,Nat.min_eq_left (by omega)]at this;exact this
   omega
  ·obtain rfl:i=9:=by omega
   have:=hx9 rfl;have h5:bs[9].toNat % 128=bs[9].toNat:=Nat.mod_eq_of_lt hx;rw[h5];omega
 ·rw[e]
  refine (sev_val _ _ ho.take hx fun hp=>h0 ?_).symm
  rcases Nat.eq_zero_or_pos i with rfl | h
  ·simp at hp
  ·exact h
theorem begins_numB {v:Int} {bs:List UInt8} {k:Nat} (h1 : -9223372036854775808≤v) (h2:v≤9223372036854775807) (hk:k≤bs.length) (h:numB v=bs.take k):Begins bs (foldN v) k:=
 ⟨fold_lt h1 h2,hk,h.symm⟩
theorem or_step {a x i:Nat} (ha:a<128 ^ i) (hx:x<256) (hi:i<9∨(i=9∧x≤1)) :
  bits .or .u64 (a:Int) (IntKind.u64.wrap (IntKind.u64.wrap (bits .and .u8 (x:Int) 127)*2 ^ (7*i)))=((a+128 ^ i*(x % 128):Nat):Int):=by
 have e1:bits .and .u8 (x:Int) 127=((x % 128:Nat):Int):=by
  rw[show (127:Int)=((127:Nat):Int) from rfl,u8_and_nat x 127 hx (by decide),nat_mask7]
 have ep:2 ^ (7*i)=128 ^ i:=by rw[Nat.pow_mul]
 have hp:128 ^ i≤128 ^ 9:=Nat.pow_le_pow_right (by decide) (by omega)
 have hb:x % 128*128 ^ i<18446744073709551616:=by
  rcases hi with h | ⟨rfl,h⟩
  ·have h1:128 ^ i≤128 ^ 8:=Nat.pow_le_pow_right (by decide) (by omega)
   have h2:x % 128*128 ^ i≤127*128 ^ 8:=Nat.mul_le_mul (by omega) h1;omega
  ·have h1:x % 128≤1:=by omega
   have h2:x % 128*128 ^ 9≤1*128 ^ 9:=Nat.mul_le_mul_right _ h1;omega
 have e2:((x % 128:Nat):Int)*2 ^ (7*i)=((x % 128*128 ^ i:Nat):Int):=by
  rw[← ep];push_cast;rfl
 rw[e1,IntWalk.u64_in ((x % 128:Nat):Int) (by omega),e2,IntWalk.u64_in _ (by omega)];rw[u64_or_nat a (x % 128*128 ^ i) (by omega) hb]
 congr 1
 rw[Nat.or_comm,nat_join (7*i) (x % 128*128 ^ i) a (by rw[ep];exact Nat.mul_mod_left _ _) (by rw[ep];exact ha),Nat.mul_comm,Nat.add_comm]
end Go.Proofs.YtcbpgemiffmieaaGreat
namespace Go.Proofs.YtcbpgemiffmieaaGreat
open Go.RowKit
namespace Codec
theorem info8:(Tryz.prog.info? 5).map (fun i=>(i.zero,i.size,i.bytes))=some (some (.int .u8 0),1,1):=by kernel_rfl
theorem info_parts8:∃ i,Tryz.prog.info? 5=some i∧i.zero=some (.int .u8 0)∧i.size=1∧i.bytes=1:=by
 have h:=info8
 cases hi:Tryz.prog.info? 5 with
 | none=>rw[hi]at h;cases h
 | some i=>
  rw[hi]at h;simp only[Option.map_some,Option.some.injEq,Prod.mk.injEq]at h;exact⟨i,rfl,h.1,h.2.1,h.2.2⟩

theorem fold_any (v:Int) (w:World) (h1 : -9223372036854775808≤v) (h2:v≤9223372036854775807) :
  Calls Tryz.prog 118 #[.int .i64 v] w fun e w'=>e = .returned (.int .u64 (foldN v))∧w=w':=by
 by_cases hv:v<0
 ·have e1:IntKind.i64.wrap (v+1)=v+1:=IntWalk.i64_in _ (by omega)
  have e2:IntKind.i64.wrap (-(v+1)) = -(v+1):=IntWalk.i64_in _ (by omega);have e3:IntKind.u64.wrap (-(v+1)) = -(v+1):=IntWalk.u64_in _ (by omega);have e4:IntKind.u64.wrap (-(v+1)*2) = -(v+1)*2:=IntWalk.u64_in _ (by omega)
  have e5:IntKind.u64.wrap (-(v+1)*2+1)=((foldN v:Nat):Int):=by
   rw[IntWalk.u64_in _ (by omega)];unfold foldN;rw[if_pos hv];omega
  go_enter Tryz.func118,Tryz.ntmps118;go_wp2;go_ret;exact⟨rfl,rfl⟩
 ·have e3:IntKind.u64.wrap v=v:=IntWalk.u64_in _ (by omega)
  have e5:IntKind.u64.wrap (v*2)=((foldN v:Nat):Int):=by
   rw[IntWalk.u64_in _ (by omega)];unfold foldN;rw[if_neg hv];omega
  go_enter Tryz.func118,Tryz.ntmps118;go_wp2;go_ret;exact⟨rfl,rfl⟩
theorem unfold_any (u:Nat) (w:World) (h:u<18446744073709551616) :
  Calls Tryz.prog 105 #[.int .u64 u] w fun e w'=>e = .returned (.int .i64 (unfoldN u))∧w=w':=by
 by_cases hu:u % 2=1
 ·have hv:unfoldN u = -((u:Int) / 2)-1:=by unfold unfoldN;rw[if_pos hu];omega
  rw[hv];go_enter Tryz.func105,Tryz.ntmps105;go_wp2;go_ret;exact⟨rfl,rfl⟩
 ·have hv:unfoldN u=(u:Int) / 2:=by unfold unfoldN;rw[if_neg hu];omega
  rw[hv];go_enter Tryz.func105,Tryz.ntmps105;go_wp2;go_ret;exact⟨rfl,rfl⟩
theorem run_push8 (W:World) (base q:Nat) (hq:W.heap.size=q) (hb:base≤W.heap.size) (v:Value) (acc:List UInt8) (hown:W.ownsRow base 5 1 v acc.length (u8s acc)) (b:UInt8) (x:Int) (hx:x=b.toNat) (hn:acc.length≤1000) :
  ∃ v' w',(Builtin.append_ #[25,25] 25 #[v,.slice (some ⟨q,0,none⟩) 1 1]).run Tryz.prog (W.alloc (.cells #[.int .u8 x] 5)) = .ok v' w' ∧
   w'.ownsRow base 5 1 v' (acc++[b]).length (u8s (acc++[b]))∧Below base W w':=by
 subst hq;subst hx;obtain⟨i0,hi0,hz0,hz1,hz2⟩:=info_parts8
 obtain⟨v',w',h1,h2,h3,h4⟩:=run_app (P:=Tryz.prog) (W.alloc (.cells #[.int .u8 b.toNat] 5)) base 25 25 5 i0 _ 1 1 Tryz.underlying25 hi0 hz0 hz1 hz2 rfl (by omega)
  (hown.alloc _) (B:=W.heap.size+1) (A:=some ⟨W.heap.size,0,none⟩) (m:=1) (c:=1) (news:=[.int .u8 b.toNat])
  ⟨rfl,by omega,by intro u hu;simp only[List.mem_cons,List.not_mem_nil,or_false]at hu;rcases hu with rfl;rfl,fun _=>⟨_,_,rfl,by omega,fun j u hu=>by
   rw[Nat.zero_add,cell_of_row _ _ j _ _ (0,0) (heap_alloc_new _ _)]
   simpa using hu⟩⟩ (by omega) (by omega) (by simp;omega)
 refine⟨v',w',h1,?_,?_⟩
 ·rw[u8s_append]
  simpa [u8s] using h2
 ·exact ((Below.refl base W).alloc hb _).grown h3 (by simp;omega) (fun k hk=>(hown.lt k hk).1)
set_option maxRecDepth 100000 in
set_option maxHeartbeats 400000 in
theorem sevens_any (u:Nat) (w:World) (h:u<18446744073709551616) :
  Calls Tryz.prog 117 #[.int .u64 u] w fun e w'=>e = .returned (.string (strOf (sev u)))∧Below w.heap.size w w':=by
 have h10:=sev_ten h;go_enter Tryz.func117,Tryz.ntmps117;go_wp2
 go_loopw [0,3] (fun x v wr=>∃ (k:Nat) (pre:List UInt8),x = .int .u64 k∧k≤u∧wr.ownsRow w.heap.size 5 1 v pre.length (u8s pre)∧Below w.heap.size w wr∧Hid (pre++sev k=sev u)) (fun x _ _=>(intOf x).toNat)
 case atStart=>exact⟨u,[],rfl,Nat.le_refl _,World.ownsRow_nil _ _ _ _,Below.refl _ _,rfl⟩
 case round=>
  obtain⟨k,pre,rfl,hk,hown,hB,hpre⟩:=hrel
  by_cases hge:128≤k
  ·obtain⟨b,hb⟩:∃ b,b=UInt8.ofNat (k % 128+128):=⟨_,rfl⟩
   have hpre2:Hid ((pre++[b])++sev (k / 128)=sev u):=by
    unfold Hid at *;rw[← hpre,sev_ge hge,hb];simp
   have hx:Hid (bits BinOp.or IntKind.u8 ((k:Int) % 256) 128=(b.toNat:Int)):=by
    unfold Hid;rw[hb];have h1:=u8_or_nat (k % 256) 128 (by omega) (by omega)
    have h2:((k % 256:Nat):Int)=(k:Int) % 256:=by omega
    rw[h2]at h1;rw[show (128:Int)=((128:Nat):Int) from rfl,h1,UInt8.toNat_ofNat']
    have h3:k % 256 ||| 128=k % 128+128:=by
     have h4:k % 256=k % 128∨k % 256=k % 128+128:=by omega
     have h5:k % 128 ||| 128=k % 128+128:=by
      rw[Nat.or_comm,nat_join 7 128 (k % 128) (by decide) (by omega)];omega
     rcases h4 with h4 | h4
     ·rw[h4,h5]
     ·rw[h4,← h5,Nat.or_assoc,Nat.or_self]
    rw[h3];omega
   have hlen:pre.length≤1000:=by
    have h1:=congrArg List.length hpre;have h2:=sev_pos k;rw[List.length_append]at h1;omega
   clear hb;obtain⟨v2,w4,hrun,hown2,hb4⟩:=run_push8 wr w.heap.size wr.heap.size rfl hB.size _ pre hown b _ hx.out hlen;have Hrun:=Lib.hid hrun;clear hrun;go_wp2_with (at_builtin;refine Lib.wpList_append_run _ rfl _ _ _ _ rfl _ _ rfl rfl _ _ Hrun.out ?_);go_roundw
   case rel=>exact⟨k / 128,pre++[b],by go_num,by omega,hown2,hB.trans hb4,hpre2⟩
   case measure=>simp[intOf];omega
  ·obtain⟨b,hb⟩:∃ b,b=UInt8.ofNat k:=⟨_,rfl⟩
   have hpre2:Hid (sev u=pre++[b]):=by
    unfold Hid at *;rw[← hpre,sev_lt (by omega),hb]
   have hx:Hid ((k:Int)=(b.toNat:Int)):=by
    unfold Hid;rw[hb,UInt8.toNat_ofNat'];omega
   have hlen:pre.length≤1000:=by
    have h1:=congrArg List.length hpre2;rw[List.length_append]at h1;omega
   clear hb;obtain⟨v2,w4,hrun,hown2,hb4⟩:=run_push8 wr w.heap.size wr.heap.size rfl hB.size _ pre hown b _ hx.out hlen;obtain⟨acc2,hacc2⟩:∃ acc2,acc2=pre++[b]:=⟨_,rfl⟩;rw[← hacc2]at hown2
   have hl2:Hid ((pre++[b]).length=acc2.length):=by rw[hacc2];rfl
   have HA:=Lib.hid hacc2;clear hacc2;have Hrun:=Lib.hid hrun;clear hrun;obtain⟨A2,c2,rfl,ho2⟩:=Own.of_row hown2 (u8s_one _);have hs2:=run_str (P:=Tryz.prog) w4 25 9 5 Tryz.underlying25 Tryz.underlying5 Tryz.underlying9 ho2.rd;clear hown2;go_wp2_with (at_builtin;refine Lib.wpList_append_run _ rfl _ _ _ _ rfl _ _ rfl rfl _ _ Hrun.out ?_);go_ret;have he:sev u=acc2:=hpre2.out.trans HA.out.symm;refine⟨?_,hB.trans hb4⟩;rw[he];rfl
end Codec
end Go.Proofs.YtcbpgemiffmieaaGreat
namespace Go.Proofs.YtcbpgemiffmieaaGreat
open Go.RowKit
namespace Codec
set_option maxRecDepth 100000 in
set_option maxHeartbeats 400000 in
theorem refnum_any (v:Int) (w:World) (h1 : -9223372036854775808≤v) (h2:v≤9223372036854775807) :
  Calls Tryz.prog 111 #[.int .i64 v] w (NewRow 5 1 (u8s (numB v)) (numB v).length w):=by
 have hf:=fold_lt h1 h2;obtain⟨u,hu⟩:∃ u,u=foldN v:=⟨_,rfl⟩;have h10:=sev_ten hf;rw[← hu]at hf h10
 have HN:Hid (numB v=sev u):=by rw[hu];rfl
 by_cases hv:v<0
 have e1:IntKind.i64.wrap (v+1)=v+1:=IntWalk.i64_in _ (by omega);have e2:IntKind.i64.wrap (-(v+1)) = -(v+1):=IntWalk.i64_in _ (by omega);have e3:IntKind.u64.wrap (-(v+1)) = -(v+1):=IntWalk.u64_in _ (by omega);have e4:IntKind.u64.wrap (2 * -(v+1))=2 * -(v+1):=IntWalk.u64_in _ (by omega)
 have e5:IntKind.u64.wrap (2 * -(v+1)+1)=(u:Int):=by
  rw[IntWalk.u64_in _ (by omega),hu];unfold foldN;rw[if_pos hv];omega
 clear hu;rotate_left;have e3:IntKind.u64.wrap v=v:=IntWalk.u64_in _ (by omega)
 have e5:IntKind.u64.wrap (2*v)=(u:Int):=by rw[IntKind.wrap_u64,hu];unfold foldN;rw[if_neg hv];omega
 clear hu
 all_goals
  go_enter Tryz.func111,Tryz.ntmps111;go_wp2
  go_loopw [3,4] (fun x v wr=>∃ (k:Nat) (pre:List UInt8),x = .int .u64 k∧k≤u∧wr.ownsRow w.heap.size 5 1 v pre.length (u8s pre)∧Below w.heap.size w wr∧Hid (pre++sev k=sev u)) (fun x _ _=>(intOf x).toNat)
  case atStart=>exact⟨u,[],rfl,Nat.le_refl _,World.ownsRow_nil _ _ _ _,Below.refl _ _,rfl⟩
  case round=>
   obtain⟨k,pre,rfl,hk,hown,hB,hpre⟩:=hrel
   by_cases hge:128≤k
   ·obtain⟨b,hb⟩:∃ b,b=UInt8.ofNat (k % 128+128):=⟨_,rfl⟩
    have hpre2:Hid ((pre++[b])++sev (k / 128)=sev u):=by
     unfold Hid at *;rw[← hpre,sev_ge hge,hb];simp
    have hx:Hid (128+(k:Int) % 128=(b.toNat:Int)):=by
     unfold Hid;rw[hb,UInt8.toNat_ofNat'];omega
    have hlen:pre.length≤1000:=by
     have h1:=congrArg List.length hpre;have h2:=sev_pos k;rw[List.length_append]at h1;omega
    clear hb;obtain⟨v2,w4,hrun,hown2,hb4⟩:=run_push8 wr w.heap.size wr.heap.size rfl hB.size _ pre hown b _ hx.out hlen;have Hrun:=Lib.hid hrun;clear hrun;go_wp2_with (at_builtin;refine Lib.wpList_append_run _ rfl _ _ _ _ rfl _ _ rfl rfl _ _ Hrun.out ?_);go_roundw
    case rel=>exact⟨k / 128,pre++[b],by go_num,by omega,hown2,hB.trans hb4,hpre2⟩
    case measure=>simp[intOf];omega
   ·obtain⟨b,hb⟩:∃ b,b=UInt8.ofNat k:=⟨_,rfl⟩
    have hpre2:Hid (sev u=pre++[b]):=by
     unfold Hid at *;rw[← hpre,sev_lt (by omega),hb]
    have hx:Hid ((k:Int)=(b.toNat:Int)):=by
     unfold Hid;rw[hb,UInt8.toNat_ofNat'];omega
    have hlen:pre.length≤1000:=by
     have h1:=congrArg List.length hpre2;rw[List.length_append]at h1;omega
    clear hb;obtain⟨v2,w4,hrun,hown2,hb4⟩:=run_push8 wr w.heap.size wr.heap.size rfl hB.size _ pre hown b _ hx.out hlen;obtain⟨acc2,hacc2⟩:∃ acc2,acc2=pre++[b]:=⟨_,rfl⟩;rw[← hacc2]at hown2;have HA:=Lib.hid hacc2;clear hacc2;have Hrun:=Lib.hid hrun;clear hrun;obtain⟨A2,c2,rfl,ho2⟩:=Own.of_row hown2 (u8s_one _);clear hown2;go_wp2_with (at_builtin;refine Lib.wpList_append_run _ rfl _ _ _ _ rfl _ _ rfl rfl _ _ Hrun.out ?_);go_ret;have he:numB v=acc2:=HN.out.trans (hpre2.out.trans HA.out.symm);rw[he];exact⟨A2,c2,rfl,ho2,hB.trans hb4⟩

theorem run_appstr' (W:World) (base:Nat) (v:Value) (acc:List UInt8) (hown:W.ownsRow base 5 1 v acc.length (u8s acc)) (s:ByteArray) (hn:acc.length+s.size≤1000000) (hb:base≤W.heap.size) :
  ∃ A c w',(Builtin.append_ #[25,9] 25 #[v,.string s]).run Tryz.prog W = .ok (.slice A (acc++s.data.toList).length c) w'∧Own w' base 5 1 A (acc++s.data.toList).length c (u8s (acc++s.data.toList))∧Below base W w':=by
 obtain⟨i0,hi0,hz0,hz1,hz2⟩:=info_parts8;obtain⟨v',w',hrun,hown',hgr,hbl⟩:=run_app_str (P:=Tryz.prog) W 25 9 25 5 i0 Tryz.underlying25 Tryz.underlying9 hi0 hz0 hz1 hz2 hown s hn hb;obtain⟨A,c,rfl,ho⟩:=Own.of_row hown' (by rw[← u8s_append];exact u8s_one _)
 have hl:(acc++s.data.toList).length=acc.length+s.size:=by simp
 rw[hl,u8s_append];exact⟨A,c,w',hrun,ho,(Below.refl base W).grown hgr hb (fun k hk=>(hown.lt k hk).1)⟩
def textB (s:List UInt8):List UInt8:=numB s.length++s
theorem text_len (s:ByteArray):s.data.toList.length=s.size:=by simp
set_option maxRecDepth 100000 in
theorem reftext_any (s:ByteArray) (w:World) (hs:s.size≤900000) :
  Calls Tryz.prog 84 #[.string s] w (NewRow 5 1 (u8s (textB s.data.toList)) (textB s.data.toList).length w):=by
 have h10:=numB_ten (v:=s.size) (by omega) (by omega)
 have HT:Hid (textB s.data.toList=numB s.size++s.data.toList):=by unfold textB;rw[text_len];rfl
 go_enter Tryz.func84,Tryz.ntmps84
 go_wp2_with (first
  | (go_at_call 111;refine (refnum_any s.size _ (by omega) (by omega)).mono ?_;rintro e w1 ⟨A1,c1,rfl,ho1,hb1⟩;obtain⟨A2,c2,w2,hrun,ho2,hb2⟩:=run_appstr' w1 w.heap.size _ _ ho1.row s (by omega) hb1.size;have Hrun:=Lib.hid hrun;clear hrun)
  | (at_builtin;refine Lib.wpList_append_run _ rfl _ _ _ _ rfl _ _ rfl rfl _ _ Hrun.out ?_))
 go_ret
 have hl:(numB s.size++s.data.toList).length=(numB s.size).length+s.size:=by simp
 rw[hl]at ho2;rw[HT.out,hl];exact⟨A2,c2,rfl,ho2,hb1.trans hb2⟩
end Codec
end Go.Proofs.YtcbpgemiffmieaaGreat
namespace Go.Proofs.YtcbpgemiffmieaaGreat
open Go.RowKit
namespace Codec
set_option maxRecDepth 100000 in
set_option maxHeartbeats 400000 in
theorem clone_any (n:Nat) (xs:List Value) (A:Option Addr) (c:Nat) (w:World) (hn:n≤900000) (hr:Rd w w.heap.size 1 A n c xs) :
  Calls Tryz.prog 48 #[.slice A n c] w (NewRow 5 1 xs n w):=by
 have hR:=Lib.hid hr;obtain⟨i0,hi0,hz0,hz1,hz2⟩:=info_parts8;have heq:=fun W=>Lib.run_eql_slice_nil (P:=Tryz.prog) W 25 5 A n c 0 0 Tryz.underlying25
 cases A with
 | none=>
  have hn0:n=0:=by
   rcases Nat.eq_zero_or_pos n with h | h
   ·exact h
   ·obtain⟨_,_,h,_⟩:=hr.at_ h;cases h
  subst hn0;have hx:xs=[]:=List.eq_nil_of_length_eq_zero (by simpa using hr.len);subst hx;clear hr;go_enter Tryz.func48,Tryz.ntmps48;go_wp2;go_ret;exact⟨none,0,rfl,⟨World.ownsRow_nil _ _ _ _,by simp⟩,Below.refl _ _⟩
 | some a=>
  clear hr;go_enter Tryz.func48,Tryz.ntmps48;go_wp2_with (at_builtin;(obtain⟨v1,w1,hrun,hown1,hg1,hat1⟩:=run_app (P:=Tryz.prog) (w.alloc (.cells #[] 5)) w.heap.size 25 25 5 i0 _ 1 1 Tryz.underlying25 hi0 hz0 hz1 hz2 rfl (by omega) (World.ownsRow_made w #[] 0 (Nat.le_refl _) (by simp[maxLen]) rfl) (hR.out.alloc (Nat.le_refl _) _) (by omega) (by omega) (by simp));refine Lib.wpList_append_run _ rfl _ _ _ _ rfl _ _ rfl rfl _ _ hrun ?_);go_ret;obtain⟨A',c',rfl,hrd⟩:=Own.of_row hown1 (by simpa using hR.out.one);refine⟨A',c',by first | rfl | (rw[Nat.zero_add];rfl),by simpa using hrd,?_⟩;exact ((Below.refl _ _).alloc (Nat.le_refl _) _).grown hg1 (by simp) (by simp[Value.ownBlock])

structure OutAt (w:World) (a:Nat) (g:Option Nat) (bs:List UInt8) (long:Bool):Prop where
 at_:∃ A c,w.cell? ⟨a,0,none⟩=some (.slice A bs.length c)∧(Value.slice A bs.length c).ownBlock=g∧w.ownsRow 0 5 1 (.slice A bs.length c) bs.length (u8s bs)
 long_:w.cell? ⟨a,1,none⟩=some (.bool long)
 free0:w.frozen? ⟨a,0,none⟩=false
 free1:w.frozen? ⟨a,1,none⟩=false
 ne:g≠some a
 small:bs.length≤60000
 none_:long=true→bs=[]
theorem OutAt.lt {w:World} {a:Nat} {g:Option Nat} {bs:List UInt8} {long:Bool} (h:OutAt w a g bs long):a<w.heap.size:=World.block_lt_of_cell? w _ h.long_
theorem OutAt.glt {w:World} {a:Nat} {g:Option Nat} {bs:List UInt8} {long:Bool} (h:OutAt w a g bs long) {k:Nat} (hk:g=some k):k<w.heap.size:=by
 obtain⟨A,c,_,h2,h3⟩:=h.at_;exact (ownBlock_lt h3 (h2.trans hk)).2
theorem OutAt.keep {w w':World} {a:Nat} {g:Option Nat} {bs:List UInt8} {long:Bool} (h:OutAt w a g bs long) (hk:∀ k,k=a∨g=some k→w'.heap[k]?=w.heap[k]?):OutAt w' a g bs long:=by
 obtain⟨A,c,h1,h2,h3⟩:=h.at_;refine⟨⟨A,c,(World.cell?_of_block (hk a (.inl rfl))).trans h1,h2,?_⟩,(World.cell?_of_block (hk a (.inl rfl))).trans h.long_,(World.frozen?_of_block (hk a (.inl rfl))).trans h.free0,(World.frozen?_of_block (hk a (.inl rfl))).trans h.free1,h.ne,h.small,h.none_⟩;refine⟨h3.1,?_⟩
 rcases h3.2 with h4 | ⟨b,cap,cur,e,h5,h6,h7⟩
 ·exact .inl h4
 ·refine .inr ⟨b,cap,cur,e,h5,(hk b (.inr ?_)).trans h6,h7⟩
  rw[← h2,e];rfl
theorem OutAt.below {w w':World} {a:Nat} {g:Option Nat} {bs:List UInt8} {long:Bool} (h:OutAt w a g bs long) (hb:Below w.heap.size w w'):OutAt w' a g bs long:=
 h.keep fun k hk=>by
  rcases hk with rfl | hk
  ·exact hb.block _ h.lt
  ·exact hb.block _ (h.glt hk)
def outB (bs:List UInt8) (long:Bool) (s:List UInt8):List UInt8:=if long||decide (60000<bs.length+s.length)then []else bs++s
def outL (bs:List UInt8) (long:Bool) (s:List UInt8):Bool:=long||decide (60000<bs.length+s.length)
def Took (a:Nat) (g:Option Nat) (bs:List UInt8) (long:Bool) (s:List UInt8) (w:World) (w':World):Prop:=
 ∃ g',OutAt w' a g' (outB bs long s) (outL bs long s)∧Two a g w w'∧Fresh g g' w
def Puts (a:Nat) (g:Option Nat) (bs:List UInt8) (long:Bool) (s:List UInt8) (w:World) (e:Ending) (w':World):Prop:=e = .returned (.tuple #[])∧Took a g bs long s w w'
section
variable {a:Nat} {g:Option Nat} {bs s:List UInt8} {long:Bool} {w w':World}
theorem took_long (h:OutAt w a g bs long) (hl:outL bs long s=true):Took a g bs long s w ((w.setCell ⟨a,0,none⟩ (.slice none 0 0)).setCell ⟨a,1,none⟩ (.bool true)):=by
 obtain⟨A,c,hc0,_,_⟩:=h.at_;have hc1:=h.long_;have hf0:=h.free0;have hf1:=h.free1
 have e1:outB bs long s=[]:=by
  unfold outB;rw[if_pos (by simpa [outL] using hl)]
 refine⟨none,?_,((Two.refl a g w).setCell 0 _).setCell 1 _,.inl rfl⟩;rw[e1,hl];exact⟨⟨none,0,by go_simp,rfl,World.ownsRow_nil _ _ _ _⟩,by go_simp,by go_simp,by go_simp,by simp,by simp,fun _=>rfl⟩
theorem took_app (h:OutAt w a g bs false) (hl:bs.length+s.length≤60000) {v':Value} {n:Nat} (hn:n=bs.length+s.length) (hown:w'.ownsRow 0 5 1 v' n (u8s bs++u8s s)) (hg:w.grownBy w' g) (hb:v'.ownBlock=g∨v'.ownBlock=some w.heap.size) :
  Took a g bs false s w (w'.setCell ⟨a,0,none⟩ v'):=by
 subst hn;have hlt:=h.lt
 have hna:∀ b,v'.ownBlock=some b→b≠a:=by
  intro b hb'
  rcases hb with h1 | h1
  ·intro e;subst e;exact h.ne (h1.symm.trans hb')
  ·rw[h1]at hb';injection hb' with hb';omega
 have hga:w'.heap[a]?=w.heap[a]?:=hg.block a hlt (fun e=>h.ne e.symm);have hc1:w'.cell? ⟨a,1,none⟩=some (.bool false):=(World.cell?_of_block hga).trans h.long_;have hf0:w'.frozen? ⟨a,0,none⟩=false:=(World.frozen?_of_block hga).trans h.free0;have hf1:w'.frozen? ⟨a,1,none⟩=false:=(World.frozen?_of_block hga).trans h.free1;obtain⟨A,c,hc0',_,_⟩:=h.at_;have hc0:=(World.cell?_of_block (a:=⟨a,0,none⟩) hga).trans hc0'
 have e1:outB bs false s=bs++s:=by unfold outB;rw[if_neg (by simp;omega)]
 have e2:outL bs false s=false:=by unfold outL;simp;omega
 obtain⟨A',c',rfl,_⟩:=Own.of_row hown (by rw[← u8s_append];exact u8s_one _);refine⟨(Value.slice A' (bs.length+s.length) c').ownBlock,?_,(Two.of_grown hg).setCell 0 _,?_⟩
 ·rw[e1,e2]
  refine⟨⟨A',c',?_,by rw[List.length_append],?_⟩,by go_simp,by go_simp,by go_simp,?_,by rw[List.length_append];omega,fun h=>Bool.noConfusion h⟩
  ·rw[List.length_append];go_simp
  ·rw[List.length_append,u8s_append]
   exact ownsRow_two hown ((Two.refl a none w').setCell 0 _) fun b hb'=>⟨hna b hb',by simp⟩
  ·intro e;exact hna a e rfl
 ·rcases hb with h1 | h1
  ·exact .inr (.inl h1)
  ·exact .inr (.inr ⟨_,h1,Nat.le_refl _⟩)
end

set_option maxRecDepth 100000 in
set_option maxHeartbeats 400000 in
theorem put_any (a:Nat) (g:Option Nat) (bs:List UInt8) (long:Bool) (s:ByteArray) (w:World) (h:OutAt w a g bs long) (hs:s.size≤maxLen) :
  Calls Tryz.prog 116 #[.pointer (some ⟨a,0,none⟩),.string s] w (Puts a g bs long s.data.toList w):=by
 have hs:=hs;unfold maxLen at hs;obtain⟨A,c,hc0,hg,hown⟩:=h.at_;have hc1:=h.long_;have hf0:=h.free0;have hf1:=h.free1;have hsm:=h.small
 have hsl:s.data.toList.length=s.size:=by simp
 have H:=Lib.hid h;have HO:=Lib.hid hown;have HG:=Lib.hid hg;have HL:=Lib.hid hsl;have hlt:=h.lt;clear h hown hg hsl
 cases long with
 | true=>
  have HT:=Lib.hid (took_long (s:=s.data.toList) H.out rfl);go_enter Tryz.func116,Tryz.ntmps116;go_wp2;exact bodyPost_ret (v:=.tuple #[]) (by simp[results,Tryz.results116,go_sem]) rfl ⟨rfl,HT.out⟩
 | false=>
  by_cases hbig:60000<bs.length+s.size
  ·have e1:decide (60000-(bs.length:Int)<(s.size:Int))=true:=by simp;omega
   have HT:=Lib.hid (took_long (s:=s.data.toList) H.out (by unfold outL;simp;omega));go_enter Tryz.func116,Tryz.ntmps116;go_wp2;exact bodyPost_ret (v:=.tuple #[]) (by simp[results,Tryz.results116,go_sem]) rfl ⟨rfl,HT.out⟩
  ·have e1:decide (60000-(bs.length:Int)<(s.size:Int))=false:=by simp;omega
   obtain⟨i0,hi0,hz0,hz1,hz2⟩:=info_parts8;obtain⟨v',w',hrun,hown',hgr,hb⟩:=run_app_str (P:=Tryz.prog) w 25 9 25 5 i0 Tryz.underlying25 Tryz.underlying9 hi0 hz0 hz1 hz2 HO.out s (by omega) (Nat.zero_le _);obtain⟨A',c',rfl,_⟩:=Own.of_row hown' (by rw[← u8s_append];exact u8s_one _)
   have hgr2:Hid (w.grownBy w' g):=by rw[HG.out]at hgr;exact hgr
   have HT:=Lib.hid (took_app (s:=s.data.toList) H.out (by rw[HL.out];omega) (by rw[HL.out]) hown' hgr2.out (by rw[HG.out]at hb;exact hb));have hga:w'.heap[a]?=w.heap[a]?:=hgr2.out.block a hlt (fun e=>H.out.ne e.symm);have k0:w'.cell? ⟨a,0,none⟩=some (.slice A bs.length c):=(World.cell?_of_block hga).trans hc0;have k1:w'.frozen? ⟨a,0,none⟩=false:=(World.frozen?_of_block hga).trans hf0;have HR:=Lib.hid hrun;clear hga hgr hb hown' hrun;go_enter Tryz.func116,Tryz.ntmps116;go_wp2_with (at_builtin;refine Lib.wpList_append_run _ rfl _ _ _ _ rfl _ _ rfl rfl _ _ HR.out ?_)
   go_end0
   exact⟨rfl,HT.out⟩

set_option maxRecDepth 100000 in
theorem num_any (a:Nat) (g:Option Nat) (bs:List UInt8) (long:Bool) (v:Int) (w:World) (h:OutAt w a g bs long) (h1 : -9223372036854775808≤v) (h2:v≤9223372036854775807) :
  Calls Tryz.prog 83 #[.pointer (some ⟨a,0,none⟩),.int .i64 v] w (Puts a g bs long (numB v) w):=by
 have hf:=fold_lt h1 h2;have HF:=Lib.hid hf;have H:=Lib.hid h;clear h hf;go_enter Tryz.func83,Tryz.ntmps83
 go_wp2_with (first
  | (go_at_call 118;refine (fold_any v _ h1 h2).mono ?_;rintro e w' ⟨rfl,rfl⟩)
  | (go_at_call 117;refine (sevens_any (foldN v) _ HF.out).mono ?_;rintro e w1 ⟨rfl,hb1⟩)
  | (go_at_call 116;refine (put_any a g bs long (strOf (sev (foldN v))) _ (H.out.below hb1) (by rw[strOf_size];have:=sev_ten HF.out;unfold maxLen;omega)).mono ?_;rintro e w2 ⟨rfl,ht⟩))
 go_end0
 refine⟨rfl,?_⟩;rw[strOf_list]at ht;obtain⟨g',ho,h2,hf⟩:=ht;refine⟨g',ho,(Two.of_below hb1).trans (Fresh.refl _ _) h2,?_⟩;exact (Fresh.refl _ _).trans hb1.size hf

theorem outB_two (bs:List UInt8) (long:Bool) (s t:List UInt8):outB (outB bs long s) (outL bs long s) t=outB bs long (s++t)∧outL (outB bs long s) (outL bs long s) t=outL bs long (s++t):=by
 cases long
 ·by_cases h:60000<bs.length+s.length
  ·have h2:60000<bs.length+(s++t).length:=by rw[List.length_append];omega
   simp[outB,outL,h];omega
  ·have e1:outB bs false s=bs++s:=by unfold outB;rw[if_neg (by simpa using h)]
   have e2:outL bs false s=false:=by unfold outL;simpa using h
   rw[e1,e2];simp only[outB,outL,Bool.false_or,decide_eq_true_eq,List.length_append,Nat.add_assoc,List.append_assoc,and_self]
 ·simp[outB,outL]
set_option maxRecDepth 100000 in
theorem text_any (a:Nat) (g:Option Nat) (bs:List UInt8) (long:Bool) (s:ByteArray) (w:World) (h:OutAt w a g bs long) (hs:s.size≤maxLen) :
  Calls Tryz.prog 82 #[.pointer (some ⟨a,0,none⟩),.string s] w (Puts a g bs long (textB s.data.toList) w):=by
 have hs':=hs;unfold maxLen at hs;have H:=Lib.hid h;clear h;go_enter Tryz.func82,Tryz.ntmps82
 go_wp2_with (first
  | (go_at_call 83;refine (num_any a g bs long s.size _ H.out (by omega) (by omega)).mono ?_;rintro e w1 ⟨rfl,g1,ho1,ht1,hf1⟩)
  | (go_at_call 116;refine (put_any a g1 _ _ s _ ho1 hs').mono ?_;rintro e w2 ⟨rfl,g2,ho2,ht2,hf2⟩))
 go_end0
 refine⟨rfl,g2,?_,ht1.trans hf1 ht2,hf1.trans ht1.size hf2⟩;have h1:=outB_two bs long (numB s.size) s.data.toList;rw[h1.1,h1.2]at ho2;unfold textB;rw[text_len];exact ho2

def EndIs (bs:List UInt8) (long:Bool) (w:World) (e:Ending) (w':World):Prop:=
 Below w.heap.size w w'∧((long=true∧e = .returned (.tuple #[.slice none 0 0,.int .i64 3]))∨(long=false∧∃ A c,e = .returned (.tuple #[.slice A bs.length c,.int .i64 0])∧Own w' w.heap.size 5 1 A bs.length c (u8s bs)))
set_option maxRecDepth 100000 in
theorem end_any (a:Nat) (g:Option Nat) (bs:List UInt8) (long:Bool) (w:World) (h:OutAt w a g bs long) :
  Calls Tryz.prog 12 #[.pointer (some ⟨a,0,none⟩)] w (EndIs bs long w):=by
 obtain⟨A,c,hc0,hg,hown⟩:=h.at_;have hc1:=h.long_;have hsm:=h.small
 have hrd:Hid (Rd w w.heap.size 1 A bs.length c (u8s bs)):=by
  obtain⟨A',c',hv,hr⟩:=Rd.of_own hown (u8s_one bs);injection hv with e1 e2 e3;subst e1;subst e3;exact hr
 clear h hown hg
 cases long with
 | true=>
  go_enter Tryz.func12,Tryz.ntmps12;go_wp2;go_ret2;exact⟨Below.refl _ _,.inl ⟨rfl,rfl⟩⟩
 | false=>
  go_enter Tryz.func12,Tryz.ntmps12;go_wp2_with (go_at_call 48;refine (clone_any _ _ _ _ _ (by omega) hrd.out).mono ?_;rintro e w' ⟨A',c',rfl,ho,hb⟩);go_ret2;exact⟨hb,.inr ⟨rfl,A',c',rfl,ho⟩⟩
end Codec
end Go.Proofs.YtcbpgemiffmieaaGreat
namespace Go.Proofs.YtcbpgemiffmieaaGreat
open Go.RowKit
namespace Codec
def NumberIs (bs:List UInt8) (w:World) (e:Ending) (w':World):Prop:=
  w=w'∧((e = .returned (.tuple #[.int .u64 0,.int .i64 0])∧∀ u n,¬Begins bs u n)∨∃ u n:Nat,e = .returned (.tuple #[.int .u64 u,.int .i64 n])∧Begins bs u n)
set_option maxRecDepth 100000 in
set_option maxHeartbeats 400000 in
theorem number_any (bs:List UInt8) (n:Nat) (A:Option Addr) (c:Nat) (w:World) (hl:bs.length=n) (hn:n≤900000) (hr:Rd w w.heap.size 1 A n c (u8s bs)) :
    Calls Tryz.prog 104 #[.slice A n c] w (NumberIs bs w):=by
  have HR:=Lib.hid hr;have HL:=Lib.hid hl;clear hr hl;go_enter Tryz.func104,Tryz.ntmps104;go_wp2
  go_loop [4,9] (fun x q=>∃ i:Nat,q = .int .i64 i∧i≤n∧i≤9∧x = .int .u64 (val (bs.take i))∧Hid (On bs i)) (fun _ q=>(n-intOf q).toNat)
  case atStart=>exact⟨0,rfl,Nat.zero_le _,by omega,by simp[val],On.zero _⟩
  case round=>
    obtain⟨i,rfl,hi,hi9,rfl,hon⟩:=hrel
    by_cases hlt:i<n
    · have hib:i<bs.length:=by rw[HL.out];exact hlt
      obtain⟨b,o,rfl,hbw,hcl⟩:=HR.out.at_ (by omega);have k0:w.cell? ⟨b,o+i,none⟩=some (.int .u8 bs[i].toNat):=hcl i _ (u8s_get bs i hib);obtain⟨x,hx⟩:∃ x,x=bs[i].toNat:=⟨_,rfl⟩;rw[← hx]at k0;have HX:=Lib.hid hx
      have hx256:x<256:=by rw[hx];exact bs[i].toNat_lt
      have hin:(i:Int)<n:=by omega
      clear hx hcl;obtain⟨a,ha⟩:∃ a,a=val (bs.take i):=⟨_,rfl⟩;have HA:=Lib.hid ha;rw[← ha];clear ha
      by_cases h10:i=9∧1<x
      · obtain⟨rfl,h1x⟩:=h10
        have hno:Hid (∀ u n,¬Begins bs u n):=no_begins_ten hon hib (by rw[← HX.out];exact h1x)
        have e1:decide ((1:Int)<x)=true:=by simp;omega
        have e2:decide (1<x)=true:=by simp;omega
        go_wp2;go_ret2;exact⟨rfl,.inl ⟨rfl,hno.out⟩⟩
      · have h9:((i:Int)==9)=false∨(i=9∧x≤1):=by
          by_cases h:i=9
          · exact .inr ⟨h,by omega⟩
          · exact .inl (by simp;omega)
        clear h10
        have hval:Hid (bits .or .u64 (a:Int) (IntKind.u64.wrap (IntKind.u64.wrap (bits .and .u8 (x:Int) 127)*2 ^ (7*i)))=((val (bs.take (i+1)):Nat):Int)):=by
          unfold Hid;have h1:=val_lt (bs.take i);rw[List.length_take,Nat.min_eq_left (by omega)]at h1
          rw [or_step (by rw [HA.out]; exact h1) hx256 (by rcases h9 with h | h
                                                           · simp at h;omega
                                                           · exact .inr h),val_take_succ _ _ hib,HA.out,HX.out]
        have hv:=hval.out
        by_cases hx128:128≤x
        · have hon2:Hid (On bs (i+1)):=hon.step hib (by rw[← HX.out];exact hx128)
          rcases h9 with h9 | ⟨h9,hx1⟩
          · have hi8:i+1≤9:=by simp at h9;omega
            go_wp2
            go_round
            case rel=>exact⟨i+1,by go_num,by omega,hi8,rfl,hon2⟩
            case measure=>simp[intOf];omega
          · omega
        · by_cases hx0:x=0∧0<i
          · obtain⟨rfl,hi0⟩:=hx0
            have hno:Hid (∀ u n,¬Begins bs u n):=no_begins_zero hon hib HX.out.symm hi0
            have hi0':(0:Int)<i:=by omega
            rcases h9 with h9 | ⟨h9,hx1⟩
            · go_wp2
              go_ret2;exact⟨rfl,.inl ⟨rfl,hno.out⟩⟩
            · have h9e:((i:Int)==9)=true:=by simp;omega
              clear h9;go_wp2;go_ret2;exact⟨rfl,.inl ⟨rfl,hno.out⟩⟩
          · have hbe : Hid (Begins bs (val (bs.take (i + 1))) (i + 1)) := begins_at hon hib hi9 (by rw [← HX.out]; intro e; rcases h9 with h | h
                                                                                                    · simp at h;omega
                                                                                                    · exact h.2) (by rw[← HX.out];omega) (by rw[← HX.out];intro h e;exact hx0 ⟨e,h⟩)
            have hg:((x:Int)==0)=false∨(((x:Int)==0)=true∧decide ((0:Int)<i)=false∧decide (0<i)=false∧((i:Int)==9)=false):=by
              by_cases h:x=0
              · exact .inr ⟨by simp;omega,by simp;omega,by simp;omega,by simp;omega⟩
              · exact .inl (by simp;omega)
            have hh:((i:Int)==9)=false∨(((i:Int)==9)=true∧decide ((1:Int)<x)=false∧decide (1<x)=false):=by
              rcases h9 with h | ⟨h,h'⟩
              · exact .inl h
              · exact .inr ⟨by simp;omega,by simp;omega,by simp;omega⟩
            clear hx0 h9
            rcases hg with hg | ⟨hg,hg1,hg2,hg3⟩
            · rcases hh with h9 | ⟨h9,hx1,hx2⟩
              all_goals
                go_wp2;go_ret2;exact⟨rfl,.inr ⟨_,_,rfl,hbe.out⟩⟩
            · clear hh
              go_wp2;go_ret2;exact⟨rfl,.inr ⟨_,_,rfl,hbe.out⟩⟩
    · have hno:Hid (∀ u n,¬Begins bs u n):=by
        have he:i=bs.length:=by rw[HL.out];omega
        rw[he]at hon;exact no_begins_end hon
      go_wp2;go_ret2;exact⟨rfl,.inl ⟨rfl,hno.out⟩⟩

structure InAt (w:World) (a:Nat) (bs:List UInt8) (bad:Bool):Prop where
  at_:∃ A c,w.cell? ⟨a,0,none⟩=some (.slice A bs.length c)∧Rd w a 1 A bs.length c (u8s bs)
  bad_:w.cell? ⟨a,1,none⟩=some (.bool bad)
  free0:w.frozen? ⟨a,0,none⟩=false
  free1:w.frozen? ⟨a,1,none⟩=false
  none_:bad=true→bs=[]
  small:bs.length≤900000
theorem InAt.lt {w:World} {a:Nat} {bs:List UInt8} {bad:Bool} (h:InAt w a bs bad):a<w.heap.size:=World.block_lt_of_cell? w _ h.bad_
theorem InAt.below {w w':World} {a:Nat} {bs:List UInt8} {bad:Bool} (h:InAt w a bs bad) (hb:Below w.heap.size w w'):InAt w' a bs bad:=by
  obtain⟨A,c,h1,h2⟩:=h.at_;have hlt:=h.lt;exact⟨⟨A,c,(hb.cell (p:=⟨a,0,none⟩) hlt).trans h1,h2.keep fun p hp=>hb.cell (by omega)⟩,(hb.cell (p:=⟨a,1,none⟩) hlt).trans h.bad_,(hb.frozen (p:=⟨a,0,none⟩) hlt).trans h.free0,(hb.frozen (p:=⟨a,1,none⟩) hlt).trans h.free1,h.none_,h.small⟩
theorem InAt.keepx {w w':World} {a:Nat} {bs:List UInt8} {bad:Bool} (h:InAt w a bs bad) (hb:∀ k,k≤a→w'.heap[k]?=w.heap[k]?):InAt w' a bs bad:=by
  obtain⟨A,c,h1,h2⟩:=h.at_;have ha:=hb a (Nat.le_refl _);exact⟨⟨A,c,(World.cell?_of_block (a:=⟨a,0,none⟩) ha).trans h1,h2.keep fun p hp=>World.cell?_of_block (hb p.block (by omega))⟩,(World.cell?_of_block (a:=⟨a,1,none⟩) ha).trans h.bad_,(World.frozen?_of_block (a:=⟨a,0,none⟩) ha).trans h.free0,(World.frozen?_of_block (a:=⟨a,1,none⟩) ha).trans h.free1,h.none_,h.small⟩
theorem InAt.drewN {w:World} {a:Nat} {bs:List UInt8} {bad:Bool} (h:InAt w a bs bad) (n:Nat):InAt (w.drewN n) a bs bad:=h.below (bel_drewN (Below.refl _ _) n)
theorem gb_trans {w w1 w2:World} {r:Option Nat} (h:w.grownBy w1 r) (h2:w1.grownBy w2 r):w.grownBy w2 r:=
  ⟨h2.os.trans h.os,h2.tape.trans h.tape,h2.output.trans h.output,Nat.le_trans h.size h2.size,fun k hk hne=>(h2.block k (Nat.lt_of_lt_of_le hk h.size) hne).trans (h.block k hk hne)⟩
theorem newin_any (bs:List UInt8) (n:Nat) (A:Option Addr) (c:Nat) (w:World) (hl:bs.length=n) (hn:n≤900000) (hr:Rd w w.heap.size 1 A n c (u8s bs)) :
    Calls Tryz.prog 13 #[.slice A n c] w fun e w'=>∃ a,e = .returned (.pointer (some ⟨a,0,none⟩))∧w.heap.size≤a∧InAt w' a bs false∧Below w.heap.size w w':=by
  have HR:=Lib.hid hr;have HL:=Lib.hid hl;clear hr hl;go_enter Tryz.func13,Tryz.ntmps13;go_wp2_with (go_at_call 48;refine (clone_any _ _ _ _ _ hn HR.out).mono ?_;rintro e w1 ⟨A1,c1,rfl,ho,hb⟩);go_ret;refine⟨w1.heap.size,rfl,hb.size,?_,hb.alloc hb.size _⟩;refine⟨⟨A1,c1,?_,?_⟩,by go_simp,by go_simp,by go_simp,by simp,by rw[HL.out];exact hn⟩
  · rw[HL.out];go_simp
  · rw[HL.out];exact ho.rd.alloc (Nat.le_refl _) _
section
variable {a:Nat} {bs:List UInt8} {bad:Bool} {w:World}
theorem left_any (h:InAt w a bs bad):Calls Tryz.prog 16 #[.pointer (some ⟨a,0,none⟩)] w fun e w'=>e = .returned (.int .i64 bs.length)∧w=w':=by
  obtain⟨A,c,h1,h2⟩:=h.at_;clear h h2;go_enter Tryz.func16,Tryz.ntmps16;go_wp2;go_ret;exact⟨rfl,rfl⟩
theorem bad_any (h:InAt w a bs bad):Calls Tryz.prog 15 #[.pointer (some ⟨a,0,none⟩)] w fun e w'=>e = .returned (.bool bad)∧w=w':=by
  have h1:=h.bad_;clear h;go_enter Tryz.func15,Tryz.ntmps15;go_wp2;go_ret;exact⟨rfl,rfl⟩
theorem done_any (h:InAt w a bs bad):Calls Tryz.prog 17 #[.pointer (some ⟨a,0,none⟩)] w fun e w'=>e = .returned (.bool (!bad&&bs.isEmpty))∧w=w':=by
  obtain⟨A,c,h1,h2⟩:=h.at_;have h3:=h.bad_;have h4:=h.none_
  have h5:Hid (bs.isEmpty=((bs.length:Int)==0)):=by cases bs <;> simp[Hid];omega
  clear h h2
  cases bad with
  | true=>
    clear h4;go_enter Tryz.func17,Tryz.ntmps17;go_wp2;go_ret;exact⟨rfl,rfl⟩
  | false=>
    clear h4;go_enter Tryz.func17,Tryz.ntmps17;go_wp2;go_ret;rw[h5.out];exact⟨rfl,rfl⟩
def Failed (a:Nat) (w w':World):Prop:=InAt w' a [] true∧w.grownBy w' (some a)
theorem failed (h:InAt w a bs bad):Failed a w ((w.setCell ⟨a,0,none⟩ (.slice none 0 0)).setCell ⟨a,1,none⟩ (.bool true)):=by
  obtain⟨A,c,h1,h2⟩:=h.at_;have h3:=h.bad_;have h4:=h.free0;have h5:=h.free1;exact⟨⟨⟨none,0,by go_simp,Rd.nil _⟩,by go_simp,by go_simp,by go_simp,fun _=>rfl,by simp⟩,gb_set (gb_set (gb_refl _ _) _ _) _ _⟩
theorem fail_any (h:InAt w a bs bad):Calls Tryz.prog 93 #[.pointer (some ⟨a,0,none⟩)] w fun e w'=>e = .returned (.tuple #[])∧Failed a w w':=by
  obtain⟨A,c,h1,h2⟩:=h.at_;have h3:=h.bad_;have h4:=h.free0;have h5:=h.free1;have HF:=Lib.hid (failed h);clear h h2;go_enter Tryz.func93,Tryz.ntmps93;go_wp2
  go_end0
  exact⟨rfl,HF.out⟩
end
end Codec
end Go.Proofs.YtcbpgemiffmieaaGreat
namespace Go.Proofs.YtcbpgemiffmieaaGreat
open Go.RowKit
namespace Codec
def NumPost (a:Nat) (bs:List UInt8) (most:Int) (w:World) (e:Ending) (w':World):Prop:=
 (∃ v rest,bs=numB v++rest ∧ -most≤v∧v≤most∧e = .returned (.int .i64 v)∧InAt w' a rest false∧w.grownBy w' (some a)) ∨
 ((∀ v rest,-most≤v→v≤most→bs≠numB v++rest)∧e = .returned (.int .i64 0)∧Failed a w w')
theorem lay_at {w:World} {a:Nat} {bs rest:List UInt8} {bad:Bool} (h:InAt w a bs bad) {V:Option Addr} {c k:Nat} (hk:k=rest.length) (hr:Rd w a 1 V k c (u8s rest)) (hs:rest.length≤900000) (hb:bad=true→rest=[]) :
  InAt (w.setCell ⟨a,0,none⟩ (.slice V k c)) a rest bad∧w.grownBy (w.setCell ⟨a,0,none⟩ (.slice V k c)) (some a):=by
 subst hk;obtain⟨A0,c0,h1,h2⟩:=h.at_;have h3:=h.bad_;have h4:=h.free0;have h5:=h.free1;exact⟨⟨⟨V,c,by go_simp,hr.setCell (p:=⟨a,0,none⟩) (Nat.le_refl _) _⟩,by go_simp,by go_simp,by go_simp,hb,hs⟩,gb_set (gb_refl _ _) _ _⟩
theorem cut_at {w:World} {a:Nat} {bs:List UInt8} {bad:Bool} (h:InAt w a bs bad) {A:Option Addr} {c n:Nat} (hr:Rd w a 1 A bs.length c (u8s bs)) (hn:n≤bs.length) (hb:bad=true→bs.drop n=[]) :
  InAt (w.setCell ⟨a,0,none⟩ (.slice (if c=n then A else A.map (·.add (n*1))) (bs.length-n) (c-n))) a (bs.drop n) bad∧w.grownBy (w.setCell ⟨a,0,none⟩ (.slice (if c=n then A else A.map (·.add (n*1))) (bs.length-n) (c-n))) (some a):=by
 refine lay_at h (by rw[List.length_drop]) ?_ (by have:=h.small;rw[List.length_drop];omega) hb;have h6:=hr.from_ hn;rw[u8s_drop]
 simpa only [Nat.mul_one] using h6
set_option maxRecDepth 100000 in
set_option maxHeartbeats 1000000 in
theorem inum_any {a:Nat} {bs:List UInt8} {bad:Bool} {w:World} (h:InAt w a bs bad) (most:Int) (h1 : -9223372036854775808≤most) (h2:most≤9223372036854775807) :
  Calls Tryz.prog 71 #[.pointer (some ⟨a,0,none⟩),.int .i64 most] w (NumPost a bs most w):=by
 obtain⟨A,c,hc,hr⟩:=h.at_;have hf0:=h.free0;have hlt:=h.lt;have hsm:=h.small;have H:=Lib.hid h;have HR:=Lib.hid hr;clear h hr;have HN:=Lib.hid (number_any bs bs.length A c w rfl hsm (HR.out.more (Nat.le_of_lt hlt)))
 by_cases hbe:∃ u n,Begins bs u n
 ·obtain⟨u,n,hbe⟩:=hbe
  have HN2:Hid (Calls Tryz.prog 104 #[.slice A bs.length c] w fun e w'=>e = .returned (.tuple #[.int .u64 u,.int .i64 n])∧w=w'):=by
   refine HN.out.mono fun e w' hh=>?_;obtain⟨hw,⟨_,hno⟩ | ⟨u',n',he,hb'⟩⟩:=hh
   ·exact absurd hbe (hno u n)
   ·obtain⟨rfl,rfl⟩:=hb'.uniq hbe
    exact⟨he,hw⟩
  have hu:=hbe.1;have hnl:=hbe.2.1
  have hn1:1≤n:=by rw[hbe.len];exact sev_pos u
  have hsp:=hbe.split;obtain⟨v,hv⟩:∃ v,v=unfoldN u:=⟨_,rfl⟩;have hvr:=unfold_in hu;rw[← hv]at hvr
  have hnb:Hid (bs=numB v++bs.drop n):=by
   unfold Hid numB;rw[hv,fold_unfold];exact hsp
  have HU:Hid (∀ W,Calls Tryz.prog 105 #[.int .u64 u] W fun e w'=>e = .returned (.int .i64 v)∧W=w'):=by
   intro W;rw[hv];exact unfold_any u W hu
  have f0:((n:Int)==0)=false:=by simp;omega
  clear hv hbe hsp HN
  by_cases hok : -most≤v∧v≤most
  ·obtain⟨hv1,hv2⟩:=hok
   have f1:decide (most<0)=false:=by simp;omega
   have f2:decide (v < -most)=false:=by simp;omega
   have f3:decide (most<v)=false:=by simp;omega
   have f4:IntKind.i64.wrap (-most) = -most:=IntWalk.i64_in _ (by omega);have hcut:=fun W=>run_cut_from (P:=Tryz.prog) 25 5 1 Tryz.underlying25 (Classical.choose_spec info_parts8).1 (Classical.choose_spec info_parts8).2.2.1 A bs.length c n hnl W
   have hbad:Hid (bad=false):=by
    cases bad with
    | false=>rfl
    | true=>
     have:=H.out.none_ rfl;rw[this]at hnl;simp at hnl;omega
   have hF:=cut_at H.out HR.out hnl (by rw[hbad.out];exact fun h=>by cases h)
   obtain⟨V,hV⟩:∃ V,V=(if c=n then A else A.map (·.add (n*1))):=⟨_,rfl⟩
   rw[← hV]at hF;simp only[← hV]at hcut;have HF:=Lib.hid hF;clear hV hF;go_enter Tryz.func71,Tryz.ntmps71
   go_wp2_with (first
    | (go_at_call 104;refine HN2.out.mono ?_;rintro e w' ⟨rfl,rfl⟩)
    | (go_at_call 105;refine (HU.out _).mono ?_;rintro e w' ⟨rfl,rfl⟩))
   go_ret;have hF:=HF.out;rw[hbad.out]at hF;exact .inl ⟨v,bs.drop n,hnb.out,hv1,hv2,rfl,hF.1,hF.2⟩
  ·have hno:Hid (∀ v rest,-most≤v→v≤most→bs≠numB v++rest):=by
    intro v' rest g1 g2 e;obtain⟨rfl,_⟩:=numB_prefix (hnb.out.symm.trans e);exact hok ⟨g1,g2⟩
   have hg:(decide (most<0)=true)∨(decide (most<0)=false∧IntKind.i64.wrap (-most) = -most∧decide (v < -most)=true)∨(decide (most<0)=false∧IntKind.i64.wrap (-most) = -most∧decide (v < -most)=false∧decide (most<v)=true):=by
    by_cases g1:most<0
    ·exact .inl (by simpa using g1)
    ·by_cases g2:v < -most
     ·exact .inr (.inl ⟨by simpa using g1,IntWalk.i64_in _ (by omega),by simpa using g2⟩)
     ·exact .inr (.inr ⟨by simpa using g1,IntWalk.i64_in _ (by omega),by simpa using g2,by simp;omega⟩)
   clear hok
   rcases hg with g1 | ⟨g1,g2,g3⟩ | ⟨g1,g2,g3,g4⟩
   all_goals
    go_enter Tryz.func71,Tryz.ntmps71
    go_wp2_with (first
     | (go_at_call 104;refine HN2.out.mono ?_;rintro e w' ⟨rfl,rfl⟩)
     | (go_at_call 105;refine (HU.out _).mono ?_;rintro e w' ⟨rfl,rfl⟩)
     | (go_at_call 93;refine (fail_any H.out).mono ?_;rintro e w' ⟨rfl,hfl⟩))
    go_ret;exact .inr ⟨hno.out,rfl,hfl⟩
 ·have HN2:Hid (Calls Tryz.prog 104 #[.slice A bs.length c] w fun e w'=>e = .returned (.tuple #[.int .u64 0,.int .i64 0])∧w=w'):=by
   refine HN.out.mono fun e w' hh=>?_;obtain⟨hw,⟨he,hno⟩ | ⟨u',n',he,hb'⟩⟩:=hh
   ·exact⟨he,hw⟩
   ·exact absurd ⟨u',n',hb'⟩ hbe
  have hno:Hid (∀ v rest,-most≤v→v≤most→bs≠numB v++rest):=by
   intro v' rest g1 g2 e
   apply hbe
   refine⟨foldN v',(numB v').length,?_⟩;rw[e];exact begins_of (fold_lt (by omega) (by omega)) rest
  have HU:Hid (∀ W,Calls Tryz.prog 105 #[.int .u64 0] W fun e w'=>e = .returned (.int .i64 0)∧W=w'):=fun W=>unfold_any 0 W (by omega);clear hbe HN;go_enter Tryz.func71,Tryz.ntmps71
  go_wp2_with (first
   | (go_at_call 104;refine HN2.out.mono ?_;rintro e w' ⟨rfl,rfl⟩)
   | (go_at_call 105;refine (HU.out _).mono ?_;rintro e w' ⟨rfl,rfl⟩)
   | (go_at_call 93;refine (fail_any H.out).mono ?_;rintro e w' ⟨rfl,hfl⟩))
  go_ret;exact .inr ⟨hno.out,rfl,hfl⟩

def TextPost (a:Nat) (bs:List UInt8) (most:Int) (w:World) (e:Ending) (w':World):Prop:=
 (∃ s rest,bs=textB s++rest∧(s.length:Int)≤most∧e = .returned (.string (strOf s))∧InAt w' a rest false∧w.grownBy w' (some a)) ∨
 ((∀ s rest,(s.length:Int)≤most→bs≠textB s++rest)∧e = .returned (.string ⟨#[]⟩)∧Failed a w w')
theorem text_facts {a:Nat} {rest:List UInt8} {bad:Bool} {w1:World} {k:Nat} (hin:InAt w1 a rest bad) (hk:k≤rest.length) (hb:bad=true→rest=[]) :
  ∃ A c V,w1.cell? ⟨a,0,none⟩=some (.slice A rest.length c)∧w1.frozen? ⟨a,0,none⟩=false ∧
   (∀ W,(Instr.slice 25 (.slice A rest.length c) (some (.int .i64 (k:Nat))) none none).run Tryz.prog W = .ok (.slice V (rest.length-k) (c-k)) W) ∧
   (∀ W,(Instr.slice 25 (.slice A rest.length c) none (some (.int .i64 (k:Nat))) none).run Tryz.prog W = .ok (.slice A k c) W) ∧
   (convert 25 9 (.slice A k c)).run Tryz.prog w1 = .ok (.string (strOf (rest.take k))) w1 ∧
   Hid (InAt (w1.setCell ⟨a,0,none⟩ (.slice V (rest.length-k) (c-k))) a (rest.drop k) bad∧w1.grownBy (w1.setCell ⟨a,0,none⟩ (.slice V (rest.length-k) (c-k))) (some a)):=by
 obtain⟨A,c,hc,hr⟩:=hin.at_
 have hkc:k≤c:=by have:=hr.cap;omega
 have hto:=hr.to_ hk
 have e1:(u8s rest).take (k*1)=u8s (rest.take k):=by rw[Nat.mul_one,u8s_take]
 rw[e1]at hto
 exact⟨A,c,_,hc,hin.free0,fun W=>run_cut_from (P:=Tryz.prog) 25 5 1 Tryz.underlying25 (Classical.choose_spec info_parts8).1 (Classical.choose_spec info_parts8).2.2.1 A rest.length c k hk W,
  fun W=>run_cut_to (P:=Tryz.prog) 25 5 1 Tryz.underlying25 (Classical.choose_spec info_parts8).1 (Classical.choose_spec info_parts8).2.2.1 A rest.length c k hkc W,
  run_str (P:=Tryz.prog) w1 25 9 5 Tryz.underlying25 Tryz.underlying5 Tryz.underlying9 hto,
  cut_at hin hr hk (by intro h;rw[hb h];simp)⟩
set_option maxRecDepth 100000 in
set_option maxHeartbeats 1000000 in
theorem text_ok {a:Nat} {rest:List UInt8} {bad:Bool} {w:World} {most:Int} {k:Nat} (hk:k≤rest.length) (hb:bad=true→rest=[])
  (HN:Hid (Calls Tryz.prog 71 #[.pointer (some ⟨a,0,none⟩),.int .i64 most] w fun e w'=>e = .returned (.int .i64 k)∧InAt w' a rest bad∧w.grownBy w' (some a))) :
  Calls Tryz.prog 103 #[.pointer (some ⟨a,0,none⟩),.int .i64 most] w fun e w'=>e = .returned (.string (strOf (rest.take k)))∧InAt w' a (rest.drop k) bad∧w.grownBy w' (some a):=by
 have f0:decide ((k:Int)<0)=false:=by simp
 have f1:decide ((rest.length:Int)<k)=false:=by simp;omega
 have f2:decide (rest.length<k)=false:=by simp;omega
 have HB:=Lib.hid hb;clear hb;go_enter Tryz.func103,Tryz.ntmps103;go_wp2_with (go_at_call 71;refine HN.out.mono ?_;rintro e w1 ⟨rfl,hin,hgb⟩;obtain⟨A,c,V,hc,hf0,hcut,hcut2,hs2,HF⟩:=text_facts hin hk HB.out;have HG:=Lib.hid hgb;clear hin hgb);go_ret;exact⟨rfl,HF.out.1,gb_trans HG.out HF.out.2⟩
set_option maxRecDepth 100000 in
set_option maxHeartbeats 1000000 in
theorem text_no {a:Nat} {rest:List UInt8} {bad:Bool} {w:World} {most v:Int} (hv:v<0∨rest.length<v)
  (HN:Hid (Calls Tryz.prog 71 #[.pointer (some ⟨a,0,none⟩),.int .i64 most] w fun e w'=>e = .returned (.int .i64 v)∧InAt w' a rest bad∧w.grownBy w' (some a))) :
  Calls Tryz.prog 103 #[.pointer (some ⟨a,0,none⟩),.int .i64 most] w fun e w'=>e = .returned (.string ⟨#[]⟩)∧Failed a w w':=by
 have hg:decide (v<0)=true∨(decide (v<0)=false∧decide ((rest.length:Int)<v)=true):=by
  by_cases g1:v<0
  ·exact .inl (by simpa using g1)
  ·exact .inr ⟨by simpa using g1,by simp;omega⟩
 clear hv
 rcases hg with g1 | ⟨g1,g2⟩
 all_goals
  go_enter Tryz.func103,Tryz.ntmps103
  go_wp2_with (first
   | (go_at_call 71;refine HN.out.mono ?_;rintro e w1 ⟨rfl,hin,hgb⟩;obtain⟨A,c,hc,hr⟩:=hin.at_;have HI:=Lib.hid hin;have HG:=Lib.hid hgb;clear hin hgb hr)
   | (go_at_call 93;refine (fail_any HI.out).mono ?_;rintro e w' ⟨rfl,hfl⟩))
  go_ret;exact⟨rfl,hfl.1,gb_trans HG.out hfl.2⟩
theorem itext_any {a:Nat} {bs:List UInt8} {bad:Bool} {w:World} (h:InAt w a bs bad) (most:Int) (h1 : -9223372036854775808≤most) (h2:most≤9223372036854775807) :
  Calls Tryz.prog 103 #[.pointer (some ⟨a,0,none⟩),.int .i64 most] w (TextPost a bs most w):=by
 have hsm:=h.small;have HN:=inum_any h most h1 h2
 by_cases hex:∃ v rest,bs=numB v++rest ∧ -most≤v∧v≤most
 ·obtain⟨v,rest,e,g1,g2⟩:=hex
  have hN:Hid (Calls Tryz.prog 71 #[.pointer (some ⟨a,0,none⟩),.int .i64 most] w fun e w'=>e = .returned (.int .i64 v)∧InAt w' a rest false∧w.grownBy w' (some a)):=by
   refine HN.mono fun en w' hh=>?_
   rcases hh with ⟨v',rest',e',_,_,he,hi,hg⟩ | ⟨hno,_⟩
   ·obtain⟨rfl,rfl⟩:=numB_prefix (e.symm.trans e')
    exact⟨he,hi,hg⟩
   ·exact absurd e (hno v rest g1 g2)
  by_cases hv:0≤v∧v≤rest.length
  ·obtain⟨k,rfl⟩:∃ k:Nat,v=(k:Int):=⟨v.toNat,by omega⟩
   refine (text_ok (by omega) (fun h=>by cases h) hN).mono fun en w' ⟨he,hi,hg⟩=>.inl ⟨rest.take k,rest.drop k,?_,?_,he,hi,hg⟩
   ·unfold textB
    rw[List.length_take,Nat.min_eq_left (by omega),List.append_assoc,List.take_append_drop];exact e
   ·rw[List.length_take,Nat.min_eq_left (by omega)];exact g2
  ·refine (text_no (by omega) hN).mono fun en w' ⟨he,hf⟩=>.inr ⟨?_,he,hf⟩
   intro s r hs e2;unfold textB at e2;rw[List.append_assoc]at e2;obtain⟨rfl,rfl⟩:=numB_prefix (e.symm.trans e2)
   apply hv
   rw[List.length_append];omega
 ·obtain⟨k,hk⟩:∃ k:Nat,k=0:=⟨_,rfl⟩
  have hN:Hid (Calls Tryz.prog 71 #[.pointer (some ⟨a,0,none⟩),.int .i64 most] w fun e w'=>e = .returned (.int .i64 k)∧InAt w' a [] true∧w.grownBy w' (some a)):=by
   refine HN.mono fun en w' hh=>?_
   rcases hh with ⟨v',rest',e',g1,g2,_⟩ | ⟨hno,he,hf⟩
   ·exact absurd ⟨v',rest',e',g1,g2⟩ hex
   ·exact⟨by rw[he,hk];rfl,hf⟩
  have hkl:k≤([]:List UInt8).length:=by rw[hk];exact Nat.le_refl _
  have ht:=text_ok (a:=a) (rest:=[]) (bad:=true) (w:=w) (most:=most) (k:=k) hkl (fun _=>rfl) hN;refine ht.mono fun en w' hh=>?_;obtain⟨he,hi,hg⟩:=hh;refine .inr ⟨?_,?_,?_⟩
  ·intro s r hs e2
   unfold textB at e2;rw[List.append_assoc]at e2;exact hex ⟨s.length,_,e2,by omega,hs⟩
  ·rw[he,List.take_nil];rfl
  ·rw[List.drop_nil]at hi
   exact⟨hi,hg⟩
end Codec
end Go.Proofs.YtcbpgemiffmieaaGreat
namespace Go.Proofs.YtcbpgemiffmieaaGreat
open Go.RowKit

structure Tot {K:Type} (lt:K→K→Prop):Prop where
 irr:∀ a,¬lt a a
 tr:∀ a b c,lt a b→lt b c→lt a c
 tri:∀ a b,lt a b∨a=b∨lt b a
def ltS (a b:ByteArray):Prop:=Op.bytesLess a.toList b.toList=true
theorem bytesLess_irr:∀ l,Op.bytesLess l l=false
 | []=>rfl
 | a::l=>by
  have:=bytesLess_irr l;simp[Op.bytesLess,this]
theorem bytesLess_tr:∀ a b c,Op.bytesLess a b=true→Op.bytesLess b c=true→Op.bytesLess a c=true
 | _,[],_=>by intro h;cases ‹List UInt8› <;> simp[Op.bytesLess]at h
 | [],_::_,[]=>by intro _ h;simp[Op.bytesLess]at h
 | [],_::_,_::_=>by intro _ _;rfl
 | _::_,_::_,[]=>by intro _ h;simp[Op.bytesLess]at h
 | x::a,y::b,z::c=>by
  intro h1 h2;simp only[Op.bytesLess,Bool.or_eq_true,Bool.and_eq_true,decide_eq_true_eq,beq_iff_eq]at h1 h2 ⊢
  rcases h1 with h1 | ⟨rfl,h1⟩
  ·rcases h2 with h2 | ⟨rfl,h2⟩
   ·exact .inl (UInt8.lt_trans h1 h2)
   ·exact .inl h1
  ·rcases h2 with h2 | ⟨rfl,h2⟩
   ·exact .inl h2
   ·exact .inr ⟨rfl,bytesLess_tr a b c h1 h2⟩
theorem bytesLess_tri:∀ a b,Op.bytesLess a b=true∨a=b∨Op.bytesLess b a=true
 | [],[]=>.inr (.inl rfl)
 | [],_::_=>.inl rfl
 | _::_,[]=>.inr (.inr rfl)
 | x::a,y::b=>by
  simp only[Op.bytesLess,Bool.or_eq_true,Bool.and_eq_true,decide_eq_true_eq,beq_iff_eq]
  rcases Nat.lt_trichotomy x.toNat y.toNat with h | h | h
  ·exact .inl (.inl (UInt8.lt_iff_toNat_lt.2 h))
  ·have hxy:x=y:=UInt8.toNat_inj.1 h
   subst hxy
   rcases bytesLess_tri a b with h1 | h1 | h1
   ·exact .inl (.inr ⟨rfl,h1⟩)
   ·subst h1;exact .inr (.inl rfl)
   ·exact .inr (.inr (.inr ⟨rfl,h1⟩))
  ·exact .inr (.inr (.inl (UInt8.lt_iff_toNat_lt.2 h)))
theorem tot_int:Tot (fun a b:Int=>a<b):=⟨by intros;omega,by intros;omega,by intros;omega⟩
theorem bytes_ext {a b:ByteArray} (h:a.toList=b.toList):a=b:=by
 rw[ByteArray.toList_eq,ByteArray.toList_eq]at h;exact WideShapes.bytes_inj h
theorem tot_str:Tot ltS:=by
 refine⟨fun a h=>?_,fun a b c h1 h2=>bytesLess_tr _ _ _ h1 h2,fun a b=>?_⟩
 ·unfold ltS at h;rw[bytesLess_irr]at h;cases h
 ·rcases bytesLess_tri a.toList b.toList with h | h | h
  ·exact .inl h
  ·exact .inr (.inl (bytes_ext h))
  ·exact .inr (.inr h)

section
variable {K:Type} {lt:K→K→Prop} {a b:K}
end

section
variable {K V:Type} {lt:K→K→Prop}
def Up (lt:K→K→Prop) (l:List (K×V)):Prop:=∀ i j (hi:i<l.length) (hj:j<l.length),i<j→lt l[i].1 l[j].1
def Place (lt:K→K→Prop) (l:List (K×V)) (t:K) (i:Nat):Prop:=i≤l.length∧(∀ k (h:k<l.length),k<i→lt l[k].1 t)∧(∀ k (h:k<l.length),i≤k→¬lt l[k].1 t)
def FoundAt (lt:K→K→Prop) (l:List (K×V)) (t:K) (i:Nat):Prop:=Place lt l t i∧∃ h:i<l.length,l[i].1=t
def NoneAt (lt:K→K→Prop) (l:List (K×V)) (t:K) (i:Nat):Prop:=Place lt l t i∧∀ h:i<l.length,l[i].1≠t
def Inv (lt:K→K→Prop) (l:List (K×V)) (t:K) (i j:Nat):Prop:=(∀ k (h:k<l.length),k<i→lt l[k].1 t)∧(∀ k (h:k<l.length),j≤k→¬lt l[k].1 t)
variable (T:Tot lt) {l:List (K×V)}
include T
theorem Inv.up (hu:Up lt l) {t:K} {i j m:Nat} (h:Inv lt l t i j) (hm:m<l.length) (hc:lt l[m].1 t):Inv lt l t (m+1) j:=
 ⟨fun k hk hkm=>by
  rcases Nat.lt_or_ge k m with h1 | h1
  ·exact T.tr _ _ _ (hu k m hk hm h1) hc
  ·obtain rfl:k=m:=by omega
   exact hc,h.2⟩
theorem NoneAt.all (hu:Up lt l) {t:K} {i:Nat} (h:NoneAt lt l t i):∀ p∈l,p.1≠t:=by
 obtain⟨⟨hi,h1,h2⟩,h3⟩:=h;intro p hp he;obtain⟨k,hk,rfl⟩:=List.getElem_of_mem hp
 rcases Nat.lt_or_ge k i with hlt | hge
 ·have:=h1 k hk hlt;rw[he]at this;exact T.irr _ this
 ·have hil:i<l.length:=by omega
  have a1:=h2 i hil (Nat.le_refl _);have a2:=h3 hil
  rcases Nat.lt_or_ge i k with h4 | h4
  ·have:=hu i k hil hk h4;rw[he]at this;exact a1 this
  ·obtain rfl:i=k:=by omega
   exact a2 he
theorem FoundAt.uniq (hu:Up lt l) {t:K} {i j:Nat} (h:FoundAt lt l t i) (k:FoundAt lt l t j):i=j:=by
 obtain⟨_,hi,he⟩:=h;obtain⟨_,hj,hf⟩:=k
 rcases Nat.lt_trichotomy i j with h1 | h1 | h1
 ·have:=hu i j hi hj h1;rw[he,hf]at this;exact (T.irr _ this).elim
 ·exact h1
 ·have:=hu j i hj hi h1;rw[he,hf]at this;exact (T.irr _ this).elim
omit T in
theorem FoundAt.mem {t:K} {i:Nat} (h:FoundAt lt l t i):∃ p∈l,p.1=t:=by
 obtain⟨_,hi,he⟩:=h;exact⟨l[i],List.getElem_mem hi,he⟩
omit T in
theorem NoneAt.uniq {t:K} {i j:Nat} (h:NoneAt lt l t i) (k:NoneAt lt l t j):i=j:=by
 obtain⟨⟨hi,h1,h2⟩,_⟩:=h;obtain⟨⟨hj,h4,h5⟩,_⟩:=k
 rcases Nat.lt_trichotomy i j with h7 | h7 | h7
 ·exact (h2 i (by omega) (Nat.le_refl _) (h4 i (by omega) h7)).elim
 ·exact h7
 ·exact (h5 j (by omega) (Nat.le_refl _) (h1 j (by omega) h7)).elim
end

section
variable {K V:Type} {lt:K→K→Prop}
end

-- the cells of elements of two cells each
section
variable {α:Type} (f g:α→Value)
end
end Go.Proofs.YtcbpgemiffmieaaGreat
namespace Go.Proofs.YtcbpgemiffmieaaGreat
open Go.ChangeShapes Go.WideShapes Go.ChangeAt Go.RowKit
namespace Dt
def cenB (a:Int):Bool:=decide (0≤a∧a<4)
def rightB (a n:Int):Bool:=decide (0≤a∧a<4∧1≤n∧n≤1099511627776)
def cmp1 (a b:Int):Int:=if a<b then -1 else if b<a then 1 else 0
def cmpI (a n b m:Int):Int:=if a<b∨(a=b∧n<m)then -1 else if a=b∧n=m then 0 else 1
def lessB (a n b m:Int):Bool:=decide (a<b∨(a=b∧n<m))
theorem cmp1_lt {a b:Int} (h:a<b):cmp1 a b = -1:=by unfold cmp1;rw[if_pos h]
theorem cmp1_gt {a b:Int} (h:b<a):cmp1 a b=1:=by unfold cmp1;rw[if_neg (by omega),if_pos h]
theorem cmp1_eq (a:Int):cmp1 a a=0:=by unfold cmp1;rw[if_neg (by omega),if_neg (by omega)]
theorem ret_bool {a b:Bool} (h:a=b):Ending.returned (.bool a) = .returned (.bool b):=by rw[h]
theorem center_any (a:Int) (w:World):Calls Tryz.prog 155 #[.int .i64 a] w fun e w'=>e = .returned (.bool (cenB a))∧w=w':=by
 unfold cenB
 by_cases h0:0≤a
 ·by_cases h4:a<4
  ·have f1:decide (0≤a)=true:=by simpa using h0
   have f2:decide (a<4)=true:=by simpa using h4
   go_enter Tryz.func155,Tryz.ntmps155;go_wp2;go_ret
   exact⟨ret_bool (by simp <;> omega),rfl⟩
  ·have f1:decide (0≤a)=true:=by simpa using h0
   have f2:decide (a<4)=false:=by simp;omega
   go_enter Tryz.func155,Tryz.ntmps155;go_wp2;go_ret
   exact⟨ret_bool (by simp <;> omega),rfl⟩
 ·have f1:decide (0≤a)=false:=by simp;omega
  go_enter Tryz.func155,Tryz.ntmps155;go_wp2;go_ret
  exact⟨ret_bool (by simp <;> omega),rfl⟩

theorem box_below (w:World) (x:Array Value) (t:TypeId):Below w.heap.size w (w.alloc (.cells x t)):=(Below.refl _ _).alloc (Nat.le_refl _) _
set_option maxHeartbeats 400000 in
theorem right_any (a n:Int) (w:World):Calls Tryz.prog 143 #[.agg #[.int .i64 a,.int .i64 n]] w fun e w'=>e = .returned (.bool (rightB a n))∧Below w.heap.size w w':=by
 by_cases h0:cenB a=true
 ·by_cases h1:1≤n
  ·by_cases h2:n≤1099511627776
   ·have f1:decide (1≤n)=true:=by simpa using h1
    have f2:decide (n≤1099511627776)=true:=by simpa using h2
    go_enter Tryz.func143,Tryz.ntmps143;go_wp2_with (go_at_call 155;refine (center_any _ _).mono ?_;rw[h0];rintro e w' ⟨rfl,rfl⟩);go_ret;exact⟨ret_bool (by unfold cenB at h0;unfold rightB;simp at *;omega),box_below _ _ _⟩
   ·have f1:decide (1≤n)=true:=by simpa using h1
    have f2:decide (n≤1099511627776)=false:=by simp;omega
    go_enter Tryz.func143,Tryz.ntmps143;go_wp2_with (go_at_call 155;refine (center_any _ _).mono ?_;rw[h0];rintro e w' ⟨rfl,rfl⟩);go_ret;exact⟨ret_bool (by unfold rightB;simp;omega),box_below _ _ _⟩
  ·have f1:decide (1≤n)=false:=by simp;omega
   go_enter Tryz.func143,Tryz.ntmps143;go_wp2_with (go_at_call 155;refine (center_any _ _).mono ?_;rw[h0];rintro e w' ⟨rfl,rfl⟩);go_ret;exact⟨ret_bool (by unfold rightB;simp;omega),box_below _ _ _⟩
 ·have h0':cenB a=false:=by simpa using h0
  go_enter Tryz.func143,Tryz.ntmps143;go_wp2_with (go_at_call 155;refine (center_any _ _).mono ?_;rw[h0'];rintro e w' ⟨rfl,rfl⟩);go_ret;exact⟨ret_bool (by unfold cenB at h0';unfold rightB;simp at *;omega),box_below _ _ _⟩
set_option maxHeartbeats 400000 in
theorem refright_any (a n:Int) (w:World):Calls Tryz.prog 139 #[.agg #[.int .i64 a,.int .i64 n]] w fun e w'=>e = .returned (.bool (rightB a n))∧Below w.heap.size w w':=by
 by_cases h0:0≤a
 ·have g0:decide (0≤a)=true:=by simpa using h0
  by_cases h3:a<4
  ·have g1:decide (a<4)=true:=by simpa using h3
   by_cases h1:1≤n
   ·have f1:decide (1≤n)=true:=by simpa using h1
    by_cases h2:n≤1099511627776
    ·have f2:decide (n≤1099511627776)=true:=by simpa using h2
     go_enter Tryz.func139,Tryz.ntmps139;go_wp2;go_ret;exact⟨ret_bool (by unfold rightB;simp;omega),box_below _ _ _⟩
    ·have f2:decide (n≤1099511627776)=false:=by simp;omega
     go_enter Tryz.func139,Tryz.ntmps139;go_wp2;go_ret;exact⟨ret_bool (by unfold rightB;simp;omega),box_below _ _ _⟩
   ·have f1:decide (1≤n)=false:=by simp;omega
    go_enter Tryz.func139,Tryz.ntmps139;go_wp2;go_ret;exact⟨ret_bool (by unfold rightB;simp;omega),box_below _ _ _⟩
  ·have g1:decide (a<4)=false:=by simp;omega
   go_enter Tryz.func139,Tryz.ntmps139;go_wp2;go_ret;exact⟨ret_bool (by unfold rightB;simp;omega),box_below _ _ _⟩
 ·have g0:decide (0≤a)=false:=by simp;omega
  go_enter Tryz.func139,Tryz.ntmps139;go_wp2;go_ret;exact⟨ret_bool (by unfold rightB;simp;omega),box_below _ _ _⟩
end Dt
end Go.Proofs.YtcbpgemiffmieaaGreat
namespace Go.Proofs.YtcbpgemiffmieaaGreat
namespace Tr
structure E where
 a:Int
 n:Int
 s:ByteArray
 v:Int
inductive T where
 | mk (es:List E) (ks:List (ByteArray×T)):T
def T.es:T→List E | .mk e _=>e
def T.ks:T→List (ByteArray×T) | .mk _ k=>k
def none_:T:=.mk [] []
theorem T.eta (t:T):T.mk t.es t.ks=t:=by cases t;rfl
theorem kid_lt {es:List E} {ks:List (ByteArray×T)} {k:ByteArray×T} (h:k∈ks):SizeOf.sizeOf k.2<SizeOf.sizeOf (T.mk es ks):=by
 have h1:=List.sizeOf_lt_of_mem h
 cases k
 simp at h1 ⊢
 omega
theorem T.ind {P:T→Prop} (h:∀ es ks,(∀ k∈ks,P k.2)→P (.mk es ks)):∀ t,P t
 | .mk es ks=>h es ks fun k _hk=>T.ind h k.2
termination_by t=>SizeOf.sizeOf t
decreasing_by exact kid_lt _hk
def leaves:T→List (List ByteArray×E)
 | .mk es ks=>es.map (fun e=>([],e))++ks.attach.flatMap (fun k=>(leaves k.1.2).map fun x=>(k.1.1::x.1,x.2))
termination_by t=>SizeOf.sizeOf t
decreasing_by exact kid_lt k.2
theorem attach_flat {α β:Type} (l:List α) (f:α→List β):l.attach.flatMap (fun k=>f k.1)=l.flatMap f:=by
 conv=>rhs;rw[← List.attach_map_subtype_val l]
 rw[List.flatMap_map]
def below (ks:List (ByteArray×T)):List (List ByteArray×E):=ks.flatMap fun k=>(leaves k.2).map fun x=>(k.1::x.1,x.2)
theorem leaves_mk (es:List E) (ks:List (ByteArray×T)):leaves (.mk es ks)=es.map (fun e=>([],e))++below ks:=by
 rw[leaves];unfold below;rw[attach_flat ks fun k=>(leaves k.2).map fun x=>(k.1::x.1,x.2)]
def nodes:T→Nat
 | .mk es ks=>es.length+ks.length+(ks.attach.map fun k=>nodes k.1.2).sum
termination_by t=>SizeOf.sizeOf t
decreasing_by exact kid_lt k.2
theorem nodes_mk (es:List E) (ks:List (ByteArray×T)):nodes (.mk es ks)=es.length+ks.length+(ks.map fun k=>nodes k.2).sum:=by
 rw[nodes]
 congr 2
 conv=>rhs;rw[← List.attach_map_subtype_val ks]
 rw[List.map_map];rfl
inductive LenT (m:Nat):T→Prop where
 | mk {es:List E} {ks:List (ByteArray×T)} : es.length≤m→ks.length≤m→(∀ k∈ks,LenT m k.2)→LenT m (.mk es ks)
theorem LenT.es {m:Nat} {es:List E} {ks:List (ByteArray×T)} (h:LenT m (.mk es ks)):es.length≤m:=by cases h;assumption
theorem LenT.ks {m:Nat} {es:List E} {ks:List (ByteArray×T)} (h:LenT m (.mk es ks)):ks.length≤m:=by cases h;assumption
theorem LenT.kid {m:Nat} {es:List E} {ks:List (ByteArray×T)} (h:LenT m (.mk es ks)) {k:ByteArray×T} (hk:k∈ks):LenT m k.2:=by
 cases h with
 | mk _ _ h3=>exact h3 k hk
theorem le_sum {α:Type} {f:α→Nat} : ∀ {l:List α} {a:α},a∈l→f a≤(l.map f).sum
 | b::l,a,h=>by
  rw[List.map_cons,List.sum_cons]
  rcases List.mem_cons.1 h with rfl | h
  ·omega
  ·have:=le_sum (f:=f) h
   omega
theorem nodes_es (es:List E) (ks:List (ByteArray×T)):es.length+ks.length≤nodes (.mk es ks):=by rw[nodes_mk];omega
theorem nodes_kid {es:List E} {ks:List (ByteArray×T)} {k:ByteArray×T} (h:k∈ks):nodes k.2≤nodes (.mk es ks):=by
 have:=le_sum (f:=fun k:ByteArray×T=>nodes k.2) h;rw[nodes_mk];omega
theorem leaves_len (es:List E) (ks:List (ByteArray×T)):(leaves (.mk es ks)).length=es.length+(ks.map fun k=>(leaves k.2).length).sum:=by
 rw[leaves_mk,List.length_append,List.length_map]
 congr 1
 unfold below;rw[List.length_flatMap];simp
theorem sum_mono {α:Type} {f g:α→Nat} : ∀ {l:List α},(∀ a∈l,f a≤g a)→(l.map f).sum≤(l.map g).sum
 | [],_=>Nat.le_refl _
 | b::l,h=>by
  rw[List.map_cons,List.sum_cons,List.map_cons,List.sum_cons];have:=h b List.mem_cons_self;have:=sum_mono (f:=f) (g:=g) fun a ha=>h a (List.mem_cons_of_mem _ ha);omega
theorem leaves_nodes (t:T):(leaves t).length≤nodes t:=by
 induction t using T.ind with
 | h es ks ih=>
  rw[leaves_len,nodes_mk];have:=sum_mono ih;omega
def ltE (x y:E):Prop:=Dt.lessB x.a x.n y.a y.n=true
theorem ltE_iff {x y:E} : ltE x y↔(x.a<y.a∨(x.a=y.a∧x.n<y.n)):=by unfold ltE Dt.lessB;exact decide_eq_true_iff
theorem ltE_tr {x y z:E} (h1:ltE x y) (h2:ltE y z):ltE x z:=by rw[ltE_iff]at *;omega
def RightE (e:E):Prop:=Dt.rightB e.a e.n=true∧e.s.size≤30 ∧ -1099511627776≤e.v∧e.v≤1099511627776
def KeyOk (k:ByteArray):Prop:=1≤k.size∧k.size≤30
def RightT:Nat→T→Prop
 | 0,_=>False
 | d+1,.mk es ks=>(∀ e∈es,RightE e)∧es.Pairwise ltE∧ks.Pairwise (fun x y=>ltS x.1 y.1)∧∀ k∈ks,KeyOk k.1∧¬(k.2.es=[]∧k.2.ks=[])∧RightT d k.2
theorem RightT.more:∀ {d:Nat} {t:T},RightT d t→RightT (d+1) t
 | _+1,.mk _ _,h=>⟨h.1,h.2.1,h.2.2.1,fun k hk=>⟨(h.2.2.2 k hk).1,(h.2.2.2 k hk).2.1,RightT.more (h.2.2.2 k hk).2.2⟩⟩
theorem RightT.none {d:Nat} : RightT (d+1) none_:=⟨by simp,by simp,by simp,by simp⟩
def under (l:List (List ByteArray×E)) (key:ByteArray):List (List ByteArray×E):=l.filterMap fun x=>match x.1 with
 | []=>none
 | k::p=>if k=key then some (p,x.2)else none
theorem under_append (a b:List (List ByteArray×E)) (key:ByteArray):under (a++b) key=under a key++under b key:=by simp[under]
theorem under_own (es:List E) (key:ByteArray):under (es.map fun e=>([],e)) key=[]:=by
 induction es with
 | nil=>rfl
 | cons e es ih=>simp[under]
theorem under_kid (k:ByteArray) (l:List (List ByteArray×E)) (key:ByteArray):under (l.map fun x=>(k::x.1,x.2)) key=if k=key then l else []:=by
 induction l with
 | nil=>simp[under]
 | cons x l ih=>
  have e:under ((x::l).map fun x=>(k::x.1,x.2)) key=(if k=key then [x]else [])++under (l.map fun x=>(k::x.1,x.2)) key:=by
   unfold under
   by_cases h:k=key <;> simp[h]
  rw[e,ih]
  by_cases h:k=key <;> simp[h]
def kidAt:List (ByteArray×T)→ByteArray→T
 | [],_=>none_
 | k::ks,key=>if k.1=key then k.2 else kidAt ks key
theorem leaves_none:leaves none_=[]:=by unfold none_;rw[leaves_mk];rfl
theorem kidAt_not {ks:List (ByteArray×T)} {key:ByteArray} (h:∀ k∈ks,k.1≠key):kidAt ks key=none_:=by
 induction ks with
 | nil=>rfl
 | cons k ks ih=>
  unfold kidAt;rw[if_neg (h k List.mem_cons_self)];exact ih fun k hk=>h k (List.mem_cons_of_mem _ hk)
theorem under_below:∀ {ks:List (ByteArray×T)} (key:ByteArray),ks.Pairwise (fun x y=>ltS x.1 y.1)→under (below ks) key=leaves (kidAt ks key)
 | [],key,_=>by unfold below kidAt;rw[leaves_none];rfl
 | k::ks,key,h=>by
  rw[List.pairwise_cons]at h;have ih:=under_below key h.2
  have e:below (k::ks)=((leaves k.2).map fun x=>(k.1::x.1,x.2))++below ks:=by unfold below;rw[List.flatMap_cons]
  rw[e,under_append,under_kid,ih]
  by_cases hk:k.1=key
  ·have hn:kidAt ks key=none_:=kidAt_not fun x hx hxk=>tot_str.irr key (by have:=h.1 x hx;rwa [hk,hxk]at this)
   rw[if_pos hk,hn,leaves_none,List.append_nil];unfold kidAt;rw[if_pos hk]
  ·rw[if_neg hk,List.nil_append]
   conv=>rhs;unfold kidAt
   rw[if_neg hk]
theorem under_leaves {d:Nat} {t:T} (h:RightT d t) (key:ByteArray):under (leaves t) key=leaves (kidAt t.ks key):=by
 cases d with
 | zero=>exact h.elim
 | succ d=>
  cases t with
  | mk es ks=>
   rw[leaves_mk,under_append,under_own,List.nil_append,under_below key h.2.2.1];rfl
theorem kidAt_mem {ks:List (ByteArray×T)} {key:ByteArray} : (∃ k∈ks,k.1=key∧kidAt ks key=k.2)∨((∀ k∈ks,k.1≠key)∧kidAt ks key=none_):=by
 induction ks with
 | nil=>exact .inr ⟨by simp,rfl⟩
 | cons k ks ih=>
  unfold kidAt
  by_cases h:k.1=key
  ·rw[if_pos h]
   exact .inl ⟨k,List.mem_cons_self,h,rfl⟩
  ·rw[if_neg h]
   rcases ih with ⟨x,h1,h2,h3⟩ | ⟨h1,h2⟩
   ·exact .inl ⟨x,List.mem_cons_of_mem _ h1,h2,h3⟩
   ·refine .inr ⟨fun x hx=>?_,h2⟩
    rcases List.mem_cons.1 hx with rfl | hx
    ·exact h
    ·exact h1 x hx
theorem RightT.kid {d:Nat} {t:T} (h:RightT (d+1) t) (key:ByteArray):RightT (d+1) (kidAt t.ks key):=by
 cases t with
 | mk es ks=>
  rcases kidAt_mem (ks:=ks) (key:=key)with ⟨k,h1,_,h3⟩ | ⟨_,h2⟩
  ·show RightT (d+1) (kidAt ks key)
   rw[h3];exact (h.2.2.2 k h1).2.2.more
  ·show RightT (d+1) (kidAt ks key)
   rw[h2];exact RightT.none
def getT (t:T):List ByteArray→T
 | []=>t
 | k::p=>getT (kidAt t.ks k) p
def wrapT (t:T):List ByteArray→T
 | []=>t
 | k::p=>.mk [] [(k,wrapT t p)]
theorem wrap_some {t:T} (h:¬(t.es=[]∧t.ks=[])):∀ p:List ByteArray,¬((wrapT t p).es=[]∧(wrapT t p).ks=[])
 | []=>h
 | k::p=>by unfold wrapT;intro h2;cases h2.2
theorem RightT.wrap {d:Nat} {t:T} (h:RightT d t) (hn:¬(t.es=[]∧t.ks=[])):∀ {p:List ByteArray},(∀ k∈p,KeyOk k)→RightT (d+p.length) (wrapT t p)
 | [],_=>h
 | k::p,hk=>by
  unfold wrapT;refine⟨by simp,by simp,by simp,fun x hx=>?_⟩;rw[List.mem_singleton.1 hx];exact⟨hk k List.mem_cons_self,wrap_some hn p,RightT.wrap h hn fun k hk2=>hk k (List.mem_cons_of_mem _ hk2)⟩
def keepK (f:ByteArray→Bool) (ks:List (ByteArray×T)):List (ByteArray×T):=ks.filter fun k=>f k.1
theorem RightT.keep {d:Nat} {es:List E} {ks:List (ByteArray×T)} (h:RightT (d+1) (.mk es ks)) (f:ByteArray→Bool):RightT (d+1) (.mk es (keepK f ks)):=
 ⟨h.1,h.2.1,h.2.2.1.sublist List.filter_sublist,fun k hk=>h.2.2.2 k (List.mem_filter.1 hk).1⟩
def rootE (l:List (List ByteArray×E)):List E:=l.filterMap fun x=>match x.1 with | []=>some x.2 | _::_=>none
theorem rootE_below (ks:List (ByteArray×T)):rootE (below ks)=[]:=by
 unfold rootE below;rw[List.filterMap_eq_nil_iff];intro x hx;obtain⟨k,_,hx⟩:=List.mem_flatMap.1 hx;obtain⟨y,_,rfl⟩:=List.mem_map.1 hx;rfl
theorem rootE_leaves (es:List E) (ks:List (ByteArray×T)):rootE (leaves (.mk es ks))=es:=by
 rw[leaves_mk];unfold rootE;rw[List.filterMap_append];have h1:=rootE_below ks;unfold rootE at h1;rw[h1,List.append_nil,List.filterMap_map];exact List.filterMap_some
end Tr
end Go.Proofs.YtcbpgemiffmieaaGreat
namespace Go.Proofs.YtcbpgemiffmieaaGreat
namespace Sp
def RightF:Int→List (Int×Int)→Prop
 | _,[]=>True
 | m,r::l=>m≤r.1∧r.1≤r.2∧r.2≤1099511627776∧RightF (r.2+2) l
instance decR:∀ (m:Int) (l:List (Int×Int)),Decidable (RightF m l)
 | _,[]=>.isTrue trivial
 | m,r::l=>by
  unfold RightF;have:=decR (r.2+2) l;exact inferInstance
def rightB (l:List (Int×Int)):Bool:=decide (RightF 1 l)
def hasB (l:List (Int×Int)) (n:Int):Bool:=l.any fun r=>decide (r.1≤n∧n≤r.2)
theorem has_cons (r:Int×Int) (l:List (Int×Int)) (n:Int):hasB (r::l) n=(decide (r.1≤n∧n≤r.2)||hasB l n):=rfl
theorem has_nil (n:Int):hasB [] n=false:=rfl
theorem has_append (a b:List (Int×Int)) (n:Int):hasB (a++b) n=(hasB a n||hasB b n):=by simp[hasB]
theorem has_true {l:List (Int×Int)} {n:Int} : hasB l n=true↔∃ r∈l,r.1≤n∧n≤r.2:=by simp[hasB]
theorem has_false {l:List (Int×Int)} {n:Int} : hasB l n=false↔∀ r∈l,¬(r.1≤n∧n≤r.2):=by
 simp[hasB]
theorem RightF.mono {m m':Int} (hm:m'≤m):∀ {l:List (Int×Int)},RightF m l→RightF m' l
 | [],_=>trivial
 | r::l,h=>by obtain⟨h1,h2,h3,h4⟩:=h;exact⟨by omega,h2,h3,h4⟩
theorem RightF.mem:∀ {l:List (Int×Int)} {m:Int},RightF m l→∀ r∈l,m≤r.1∧r.1≤r.2∧r.2≤1099511627776
 | [],_,_,r,hr=>by simp at hr
 | q::l,m,h,r,hr=>by
  obtain⟨h1,h2,h3,h4⟩:=h
  rcases List.mem_cons.1 hr with rfl | hr
  ·exact⟨h1,h2,h3⟩
  ·have:=RightF.mem h4 r hr
   exact⟨by omega,this.2⟩
theorem has_lt {l:List (Int×Int)} {m n:Int} (h:RightF m l) (hn:n<m):hasB l n=false:=
 has_false.2 fun r hr=>by have:=h.mem r hr;omega
theorem has_gt {l:List (Int×Int)} {m n:Int} (h:RightF m l) (hn:1099511627776<n):hasB l n=false:=
 has_false.2 fun r hr=>by have:=h.mem r hr;omega
theorem ext:∀ {a b:List (Int×Int)} {m m':Int},RightF m a→RightF m' b→(∀ n,hasB a n=hasB b n)→a=b
 | [],[],_,_,_,_,_=>rfl
 | [],r::b,_,_,_,h,he=>by
  have:=he r.1;rw[has_nil,has_cons]at this;obtain⟨_,h2,_⟩:=h;simp[h2]at this
 | r::a,[],_,_,h,_,he=>by
  have:=he r.1;rw[has_nil,has_cons]at this;obtain⟨_,h2,_⟩:=h;simp[h2]at this
 | (x,y)::a,(u,v)::b,m,m',ha,hb,he=>by
  obtain⟨a1,a2,a3,a4⟩:=ha;obtain⟨b1,b2,b3,b4⟩:=hb;dsimp only at a1 a2 a3 a4 b1 b2 b3 b4
  have key:∀ {l:List (Int×Int)} {x y n:Int},RightF (y+2) l→n≤y+1→hasB ((x,y)::l) n=decide (x≤n∧n≤y):=by
   intro l x y n h hn;rw[has_cons,has_lt h (by omega),Bool.or_false]
  have hxu:x=u:=by
   have e1:=he x;have e2:=he u
   rcases Int.lt_trichotomy x u with h | h | h
   ·rw[key a4 (by omega),key b4 (by omega)]at e1
    have e3:decide (x≤x∧x≤y)=true:=by simp;omega
    have e4:decide (u≤x∧x≤v)=false:=by simp;omega
    rw[e3,e4]at e1
    cases e1
   ·exact h
   ·rw[key a4 (by omega),key b4 (by omega)]at e2
    have e3:decide (x≤u∧u≤y)=false:=by simp;omega
    have e4:decide (u≤u∧u≤v)=true:=by simp;omega
    rw[e3,e4]at e2
    cases e2
  subst hxu
  have hyv:y=v:=by
   have e1:=he (y+1);have e2:=he (v+1)
   rcases Int.lt_trichotomy y v with h | h | h
   ·rw[key a4 (by omega),key b4 (by omega)]at e1
    have e3:decide (x≤y+1∧y+1≤y)=false:=by simp;omega
    have e4:decide (x≤y+1∧y+1≤v)=true:=by simp;omega
    rw[e3,e4]at e1
    cases e1
   ·exact h
   ·rw[key a4 (by omega),key b4 (by omega)]at e2
    have e3:decide (x≤v+1∧v+1≤v)=false:=by simp;omega
    have e4:decide (x≤v+1∧v+1≤y)=true:=by simp;omega
    rw[e3,e4]at e2
    cases e2
  subst hyv
  have:a=b:=by
   refine ext a4 b4 fun n=>?_
   by_cases hn:n≤y
   ·rw[has_lt a4 (by omega),has_lt b4 (by omega)]
   ·have e:=he n
    rw[has_cons,has_cons]at e
    have e3:decide (x≤n∧n≤y)=false:=by simp;omega
    simpa [e3] using e
  rw[this]
theorem RightF.snoc:∀ {l:List (Int×Int)} {m:Int},RightF m l→∀ {r:Int×Int},(∀ q∈l,q.2+2≤r.1)→m≤r.1→r.1≤r.2→r.2≤1099511627776→RightF m (l++[r])
 | [],_,_,_,_,h1,h2,h3=>⟨h1,h2,h3,trivial⟩
 | q::l,_,h,r,hq,_,h2,h3=>by
  obtain⟨a1,a2,a3,a4⟩:=h;exact⟨a1,a2,a3,RightF.snoc a4 (fun p hp=>hq p (List.mem_cons_of_mem _ hp)) (hq q List.mem_cons_self) h2 h3⟩
theorem RightF.of_snoc:∀ {l:List (Int×Int)} {m:Int} {r:Int×Int},RightF m (l++[r])→RightF m l∧(∀ q∈l,q.2+2≤r.1)∧m≤r.1∧r.1≤r.2∧r.2≤1099511627776
 | [],_,_,h=>⟨trivial,by simp,h.1,h.2.1,h.2.2.1⟩
 | q::l,_,r,h=>by
  obtain⟨a1,a2,a3,a4⟩:=h;obtain⟨b1,b2,b3,b4,b5⟩:=RightF.of_snoc a4;refine⟨⟨a1,a2,a3,b1⟩,fun p hp=>?_,by omega,b4,b5⟩
  rcases List.mem_cons.1 hp with rfl | hp
  ·exact b3
  ·exact b2 p hp
def edge:List (Int×Int)→Nat→Int
 | [],_=>1099511627778
 | r::_,0=>r.1
 | r::_,1=>r.2+1
 | _::l,i+2=>edge l i
theorem edge_end:∀ {l:List (Int×Int)} {i:Nat},2*l.length≤i→edge l i=1099511627778
 | [],_,_=>rfl
 | r::l,0,h=>by simp at h
 | r::l,1,h=>by simp at h;omega
 | r::l,i+2,h=>edge_end (l:=l) (i:=i) (by simp at h;omega)
theorem edge_even:∀ {l:List (Int×Int)} {k:Nat} (h:k<l.length),edge l (2*k)=l[k].1
 | r::l,0,_=>rfl
 | r::l,k+1,h=>by
  rw[show 2*(k+1)=2*k+2 from by omega];show edge l (2*k)=_;rw[edge_even (by simpa using h)];rfl
theorem edge_odd:∀ {l:List (Int×Int)} {k:Nat} (h:k<l.length),edge l (2*k+1)=l[k].2+1
 | r::l,0,_=>rfl
 | r::l,k+1,h=>by
  rw[show 2*(k+1)+1=2*k+1+2 from by omega];show edge l (2*k+1)=_;rw[edge_odd (by simpa using h)];rfl
theorem edge_ge:∀ {l:List (Int×Int)} {m:Int} {i:Nat},RightF m l→i<2*l.length→m≤edge l i∧edge l i≤1099511627777
 | [],_,_,_,h=>by simp at h
 | r::l,m,0,h,_=>by obtain⟨a1,a2,a3,_⟩:=h;exact⟨a1,by show r.1≤_;omega⟩
 | r::l,m,1,h,_=>by obtain⟨a1,a2,a3,_⟩:=h;exact⟨by show m≤r.2+1;omega,by show r.2+1≤_;omega⟩
 | r::l,m,i+2,h,hi=>by
  obtain⟨a1,a2,a3,a4⟩:=h;have:=edge_ge (i:=i) a4 (by simp at hi;omega);exact⟨by show m≤edge l i;omega,this.2⟩
theorem edge_pos {l:List (Int×Int)} (h:RightF 1 l) (i:Nat):1≤edge l i∧edge l i≤1099511627778:=by
 by_cases hi:i<2*l.length
 ·have:=edge_ge h hi;omega
 ·rw[edge_end (by omega)];omega
theorem edge_lt:∀ {l:List (Int×Int)} {m:Int} {i:Nat},RightF m l→i<2*l.length→edge l i<edge l (i+1)
 | [],_,_,_,h=>by simp at h
 | r::l,m,0,h,_=>by obtain⟨a1,a2,a3,_⟩:=h;show r.1<r.2+1;omega
 | r::l,m,1,h,_=>by
  obtain⟨a1,a2,a3,a4⟩:=h;show r.2+1<edge l 0
  cases l with
  | nil=>show _<(1099511627778:Int);omega
  | cons q l=>have:=a4.1;show _<q.1;omega
 | r::l,m,i+2,h,hi=>by
  obtain⟨a1,a2,a3,a4⟩:=h;exact edge_lt (l:=l) (i:=i) a4 (by simp at hi;omega)
theorem has_at:∀ {l:List (Int×Int)} {m:Int} {k:Nat} {n:Int},RightF m l→k≤2*l.length→(k=0∨edge l (k-1)≤n)→(k=2*l.length∨n<edge l k)→hasB l n=decide (k % 2=1)
 | [],_,k,n,_,hk,_,_=>by
  have:k=0:=by simpa using hk
  subst this;rfl
 | r::l,m,0,n,h,_,_,h2=>by
  have h2:n<r.1:=by
   rcases h2 with h2 | h2
   ·simp at h2
   ·exact h2
  obtain⟨a1,a2,a3,a4⟩:=h;rw[has_cons,has_lt a4 (by omega)]
  simp;omega
 | r::l,m,1,n,h,_,h1,h2=>by
  obtain⟨a1,a2,a3,a4⟩:=h
  have h1:r.1≤n:=by
   rcases h1 with h1 | h1
   ·omega
   ·exact h1
  have h2:n<r.2+1:=by
   rcases h2 with h2 | h2
   ·simp at h2;omega
   ·exact h2
  rw[has_cons]
  simp;left;omega
 | r::l,m,k+2,n,h,hk,h1,h2=>by
  obtain⟨a1,a2,a3,a4⟩:=h
  have hl:r.2<n:=by
   rcases h1 with h1 | h1
   ·omega
   ·cases k with
    | zero=>have:r.2+1≤n:=h1;omega
    | succ k=>
     have h1:edge l k≤n:=h1;have:=edge_ge (i:=k) a4 (by simp at hk;omega);omega
  have ih:=has_at (l:=l) (k:=k) (n:=n) a4 (by simp at hk;omega)
   (by
    rcases h1 with h1 | h1
    ·omega
    ·cases k with
     | zero=>exact .inl rfl
     | succ k=>exact .inr h1)
   (by
    rcases h2 with h2 | h2
    ·left;simp at h2;omega
    ·exact .inr h2)
  rw[has_cons,ih]
  have e:decide (r.1≤n∧n≤r.2)=false:=by simp;omega
  rw[e,Bool.false_or]
  have:(k+2) % 2=k % 2:=by omega
  rw[this]
structure Put (f:Bool→Bool→Bool) (a b l:List (Int×Int)):Prop where
 right:RightF 1 l
 has:∀ n,hasB l n=f (hasB a n) (hasB b n)
 len:l.length≤a.length+b.length
theorem Put.eq {f:Bool→Bool→Bool} {a b l l':List (Int×Int)} (h:Put f a b l) (h':Put f a b l'):l=l':=ext h.right h'.right fun n=>by rw[h.has,h'.has]
structure Join (f:Bool→Bool→Bool) (a b:List (Int×Int)) (i j:Nat) (p:Int) (done:List (Int×Int)) (s:Int) (within:Bool):Prop where
 hi:i≤2*a.length
 hj:j≤2*b.length
 pi:i=0∨edge a (i-1)≤p
 pj:j=0∨edge b (j-1)≤p
 ni:p<edge a i
 nj:p<edge b j
 w:within=f (decide (i % 2=1)) (decide (j % 2=1))
 right:RightF 1 done
 ends:∀ r∈done,r.2+1≤p
 open_:within=true→1≤s∧s≤p∧∀ r∈done,r.2+2≤s
 has:∀ n,n≤p→(hasB done n||(within&&decide (s≤n)))=f (hasB a n) (hasB b n)
 len:2*done.length+(if within then 1 else 0)≤i+j
theorem Join.zero {f:Bool→Bool→Bool} (hf:f false false=false) {a b:List (Int×Int)} (ha:RightF 1 a) (hb:RightF 1 b) (s:Int):Join f a b 0 0 0 [] s false:=by
 refine⟨Nat.zero_le _,Nat.zero_le _,.inl rfl,.inl rfl,?_,?_,by simp[hf],trivial,by simp,by simp,fun n hn=>?_,by simp⟩
 ·have:=edge_pos ha 0;omega
 ·have:=edge_pos hb 0;omega
 ·rw[has_lt ha (by omega),has_lt hb (by omega),hf];simp[has_nil]
def rowJ (done:List (Int×Int)) (s:Int) (within:Bool):List (Int×Int):=if within then done++[(s,0)]else done
theorem Join.end {f:Bool→Bool→Bool} (hf:f false false=false) {a b done:List (Int×Int)} {i j:Nat} {p s:Int} {within:Bool} (ha:RightF 1 a) (hb:RightF 1 b) (h:Join f a b i j p done s within) (hi:2*a.length≤i) (hj:2*b.length≤j):within=false∧Put f a b done:=by
 have ei:i=2*a.length:=Nat.le_antisymm h.hi hi;have ej:j=2*b.length:=Nat.le_antisymm h.hj hj
 have hw:within=false:=by
  rw[h.w,ei,ej];simp[hf]
 refine⟨hw,h.right,fun n=>?_,?_⟩
 ·by_cases hn:n≤p
  ·have:=h.has n hn
   rw[hw]at this
   simpa using this
  ·have e1:=has_at (k:=i) (n:=n) ha h.hi (by have:=h.pi;omega) (.inl ei)
   have e2:=has_at (k:=j) (n:=n) hb h.hj (by have:=h.pj;omega) (.inl ej)
   have e3:hasB done n=false:=has_false.2 fun r hr=>by have:=h.ends r hr;omega
   rw[e1,e2,e3,ei,ej];simp[hf]
 ·have:=h.len
  omega
theorem Join.more {f:Bool→Bool→Bool} {a b done:List (Int×Int)} {i j i' j':Nat} {p s at':Int} {within kept:Bool} (ha:RightF 1 a) (hb:RightF 1 b) (h:Join f a b i j p done s within)
  (hlt:i<2*a.length∨j<2*b.length) (hat:at'=min (edge a i) (edge b j)) (hi':i'=if edge a i=at' then i+1 else i) (hj':j'=if edge b j=at' then j+1 else j) (hk:kept=f (decide (i' % 2=1)) (decide (j' % 2=1))) :
  1≤at'∧at'≤1099511627777∧i+j<i'+j'∧Join f a b i' j' at' (if !kept&&within then done++[(s,at'-1)]else done) (if kept && !within then at' else s) kept:=by
 have hle:at'≤1099511627777:=by
  rw[hat]
  rcases hlt with h1 | h1
  ·have:=(edge_ge ha h1).2;omega
  ·have:=(edge_ge hb h1).2;omega
 have hp:p<at':=by have:=h.ni;have:=h.nj;omega
 have hpos:1≤at':=by have:=(edge_pos ha i).1;have:=(edge_pos hb j).1;omega
 have hii:edge a i=at'→i<2*a.length:=fun e=>by
  rcases Nat.lt_or_ge i (2*a.length)with h1 | h1
  ·exact h1
  ·rw[edge_end h1]at e;omega
 have hjj:edge b j=at'→j<2*b.length:=fun e=>by
  rcases Nat.lt_or_ge j (2*b.length)with h1 | h1
  ·exact h1
  ·rw[edge_end h1]at e;omega
 have hone:edge a i=at'∨edge b j=at':=by omega
 have h_i:i'≤2*a.length∧(i'=0∨edge a (i'-1)≤at')∧at'<edge a i':=by
  by_cases e:edge a i=at'
  ·rw[if_pos e]at hi'
   subst hi';have:=edge_lt ha (hii e);exact⟨hii e,.inr (by rw[Nat.add_sub_cancel];omega),by omega⟩
  ·rw[if_neg e]at hi'
   subst hi';exact⟨h.hi,by have:=h.pi;omega,by omega⟩
 have h_j:j'≤2*b.length∧(j'=0∨edge b (j'-1)≤at')∧at'<edge b j':=by
  by_cases e:edge b j=at'
  ·rw[if_pos e]at hj'
   subst hj';have:=edge_lt hb (hjj e);exact⟨hjj e,.inr (by rw[Nat.add_sub_cancel];omega),by omega⟩
  ·rw[if_neg e]at hj'
   subst hj';exact⟨h.hj,by have:=h.pj;omega,by omega⟩
 have hmid:∀ n,p<n→n<at'→f (hasB a n) (hasB b n)=within:=fun n h1 h2=>by
  have e1:=has_at (k:=i) (n:=n) ha h.hi (by have:=h.pi;omega) (.inr (by omega));have e2:=has_at (k:=j) (n:=n) hb h.hj (by have:=h.pj;omega) (.inr (by omega));rw[e1,e2,h.w]
 have hend:f (hasB a at') (hasB b at')=kept:=by
  have e1:=has_at (k:=i') (n:=at') ha h_i.1 h_i.2.1 (.inr h_i.2.2);have e2:=has_at (k:=j') (n:=at') hb h_j.1 h_j.2.1 (.inr h_j.2.2);rw[e1,e2,hk]
 have hno:∀ n,p≤n→hasB done n=false:=fun n hn=>has_false.2 fun r hr=>by have:=h.ends r hr;omega
 have hlen:=h.len
 have hsum:i+j<i'+j':=by
  rcases hone with e | e
  ·rw[if_pos e]at hi'
   have:j≤j':=by rw[hj'];split <;> omega
   omega
  ·rw[if_pos e]at hj'
   have:i≤i':=by rw[hi'];split <;> omega
   omega
 refine⟨hpos,hle,hsum,h_i.1,h_j.1,h_i.2.1,h_j.2.1,h_i.2.2,h_j.2.2,hk,?_,?_,?_,?_,?_⟩
 ·cases kept <;> cases hw:within <;> simp only[Bool.not_true,Bool.not_false,Bool.and_true,Bool.and_false,if_true,Bool.false_eq_true,if_false] <;> try exact h.right
  obtain⟨s1,s2,s3⟩:=h.open_ hw;exact h.right.snoc (fun q hq=>s3 q hq) s1 (by show s≤at'-1;omega) (by show at'-1≤_;omega)
 ·intro r hr
  have hr':r∈done∨r.2=at'-1:=by
   split at hr
   ·rcases List.mem_append.1 hr with h1 | h1
    ·exact .inl h1
    ·rw[List.mem_singleton.1 h1];exact .inr rfl
   ·exact .inl hr
  rcases hr' with h1 | h1
  ·have:=h.ends r h1;omega
  ·omega
 ·intro hkt
  subst hkt
  cases hw:within with
  | true=>
   obtain⟨s1,s2,s3⟩:=h.open_ hw;simp only[Bool.not_true,Bool.and_false,Bool.false_and,Bool.false_eq_true,if_false];exact⟨s1,by omega,s3⟩
  | false=>
   simp only[Bool.not_true,Bool.not_false,Bool.and_false,Bool.and_true,Bool.false_eq_true,if_false,if_true];exact⟨hpos,Int.le_refl _,fun r hr=>by have:=h.ends r hr;omega⟩
 ·intro n hn
  rcases (by omega:p<n∨n≤p)with h1 | h1
  ·rcases (by omega:n<at'∨at'≤n)with h2 | h2
   ·rw[hmid n h1 h2]
    have e0:=hno n (by omega)
    cases kept <;> cases hw:within
    ·simp[e0]
    ·obtain⟨s1,s2,s3⟩:=h.open_ hw
     simp only[Bool.not_false,Bool.and_true,if_true,has_append,has_cons,has_nil,e0,Bool.false_or,Bool.or_false,Bool.false_and,decide_eq_true_eq];omega
    ·have:¬at'≤n:=by omega
     simp[e0,this]
    ·obtain⟨s1,s2,s3⟩:=h.open_ hw
     have:s≤n:=by omega
     simp[e0,this]
   ·have:n=at':=by omega
    subst this;rw[hend];have e0:=hno n (by omega)
    cases kept <;> cases hw:within
    ·simp[e0]
    ·have e3:decide (s≤n∧n≤n-1)=false:=by simp;omega
     simp only[Bool.not_false,Bool.and_true,if_true,has_append,has_cons,has_nil,e0,Bool.or_false,Bool.false_and,e3]
    ·simp[e0]
    ·obtain⟨s1,s2,s3⟩:=h.open_ hw
     have:s≤n:=by omega
     simp[e0,this]
  ·have e:=h.has n h1
   rw[← e]
   cases kept <;> cases hw:within
   ·simp
   ·have e3:decide (s≤n∧n≤at'-1)=decide (s≤n):=by
     congr 1
     exact propext ⟨fun h=>h.1,fun h=>⟨h,by omega⟩⟩
    simp only[Bool.not_false,Bool.and_true,Bool.true_and,if_true,has_append,has_cons,has_nil,Bool.or_false,Bool.false_and,e3]
   ·have:¬at'≤n:=by omega
    simp[this]
   ·simp
 ·cases kept <;> cases hw:within <;> simp only[hw,Bool.not_true,Bool.not_false,Bool.and_true,Bool.and_false,if_true,Bool.false_eq_true,if_false,List.length_append,List.length_singleton]at hlen ⊢ <;> omega
end Sp
end Go.Proofs.YtcbpgemiffmieaaGreat
namespace Go.Proofs.YtcbpgemiffmieaaGreat
namespace Cx
open Sp
abbrev S3:=Int×Int×Int
def part (c:List S3) (d:Int):List (Int×Int):=(c.filter fun s=>decide (s.1=d)).map fun s=>s.2
def spans (d:Int) (l:List (Int×Int)):List S3:=l.map fun r=>(d,r)
theorem part_nil (d:Int):part [] d=[]:=rfl
theorem part_append (a b:List S3) (d:Int):part (a++b) d=part a d++part b d:=by simp[part]
theorem part_cons (s:S3) (c:List S3) (d:Int):part (s::c) d=if s.1=d then s.2::part c d else part c d:=by
 unfold part
 by_cases h:s.1=d
 ·simp[h]
 ·simp[h]
theorem part_spans (d e:Int) (l:List (Int×Int)):part (spans d l) e=if d=e then l else []:=by
 induction l with
 | nil=>simp[spans,part]
 | cons r l ih=>
  show part ((d,r)::spans d l) e=_;rw[part_cons,ih]
  by_cases h:d=e <;> simp[h]
theorem part_mem {c:List S3} {d:Int} {r:Int×Int} : r∈part c d↔(d,r)∈c:=by
 unfold part;simp only[List.mem_map,List.mem_filter,decide_eq_true_eq];constructor
 ·rintro⟨s,⟨hs,he⟩,rfl⟩
  subst he;exact hs
 ·intro h
  exact⟨(d,r),⟨h,rfl⟩,rfl⟩
theorem part_len (c:List S3) (d:Int):(part c d).length≤c.length:=by
 unfold part;rw[List.length_map];exact List.length_filter_le _ _
def Cen (d:Int):Prop:=0≤d∧d<4
def RiseC:Int→List S3→Prop
 | _,[]=>True
 | m,s::c=>m≤s.1∧s.1<4∧RiseC s.1 c
structure RightC (c:List S3):Prop where
 rise:RiseC 0 c
 part:∀ d,Cen d→RightF 1 (part c d)
theorem RiseC.mem:∀ {c:List S3} {m:Int},RiseC m c→∀ s∈c,m≤s.1∧s.1<4
 | [],_,_,s,h=>by simp at h
 | t::c,m,h,s,hs=>by
  obtain⟨h1,h2,h3⟩:=h
  rcases List.mem_cons.1 hs with rfl | hs
  ·exact⟨h1,h2⟩
  ·have:=RiseC.mem h3 s hs
   omega
theorem RiseC.mono {m m':Int} (hm:m'≤m):∀ {c:List S3},RiseC m c→RiseC m' c
 | [],_=>trivial
 | _::_,h=>⟨by have:=h.1;omega,h.2.1,h.2.2⟩
theorem rise_spans {d:Int} (hd:Cen d) (l:List (Int×Int)):RiseC d (spans d l):=by
 induction l with
 | nil=>trivial
 | cons r l ih=>exact⟨Int.le_refl _,hd.2,ih⟩
def glue (p:Int→List (Int×Int)):List S3:=spans 0 (p 0)++(spans 1 (p 1)++(spans 2 (p 2)++spans 3 (p 3)))
theorem cen_cases {d:Int} (h:Cen d):d=0∨d=1∨d=2∨d=3:=by unfold Cen at h;omega
theorem part_glue (p:Int→List (Int×Int)) {d:Int} (h:Cen d):part (glue p) d=p d:=by
 unfold glue;rw[part_append,part_append,part_append,part_spans,part_spans,part_spans,part_spans]
 rcases cen_cases h with rfl | rfl | rfl | rfl <;> simp
theorem rise_cat {d:Int} (hd:Cen d) (l:List (Int×Int)) {b:List S3} (hb:RiseC (d+1) b):RiseC d (spans d l++b):=by
 induction l with
 | nil=>exact hb.mono (by omega)
 | cons r l ih=>exact⟨Int.le_refl _,hd.2,ih⟩
theorem rise_glue (p:Int→List (Int×Int)):RiseC 0 (glue p):=
 rise_cat (by unfold Cen;omega) _ (rise_cat (by unfold Cen;omega) _ (rise_cat (by unfold Cen;omega) _ (rise_spans (by unfold Cen;omega) _)))
theorem right_glue {p:Int→List (Int×Int)} (h:∀ d,Cen d→RightF 1 (p d)):RightC (glue p):=⟨rise_glue p,fun d hd=>by rw[part_glue p hd];exact h d hd⟩
theorem rise_split:∀ {c:List S3} {d:Int},RiseC d c→∃ b,c=spans d (part c d)++b∧RiseC (d+1) b∧∀ e,d<e→part c e=part b e
 | [],_,_=>⟨[],rfl,trivial,fun _ _=>rfl⟩
 | s::c,d,h=>by
  obtain⟨h1,h2,h3⟩:=h
  by_cases hs:s.1=d
  ·rw[hs]at h3
   obtain⟨b,e1,e2,e3⟩:=rise_split h3;refine⟨b,?_,e2,fun e he=>?_⟩
   ·rw[part_cons,if_pos hs]
    show s::c=(d,s.2)::(spans d (part c d)++b);rw[← e1,← hs]
   ·rw[part_cons,if_neg (by omega)]
    exact e3 e he
  ·have hno:part (s::c) d=[]:=by
    rw[part_cons,if_neg hs]
    apply List.eq_nil_iff_forall_not_mem.2
    intro r hr;have:=h3.mem _ (part_mem.1 hr);have h4:s.1≤d:=this.1;omega
   refine⟨s::c,by rw[hno];rfl,⟨by omega,h2,h3⟩,fun _ _=>rfl⟩
theorem rise_last {b:List S3} (h:RiseC 4 b):b=[]:=by
 cases b with
 | nil=>rfl
 | cons s b=>have:=h.1;have:=h.2.1;omega
theorem glue_part {c:List S3} (h:RiseC 0 c):c=glue (part c):=by
 obtain⟨b1,e1,r1,p1⟩:=rise_split h;obtain⟨b2,e2,r2,p2⟩:=rise_split r1;obtain⟨b3,e3,r3,p3⟩:=rise_split r2;obtain⟨b4,e4,r4,p4⟩:=rise_split r3;have e5:=rise_last r4;have q1:part b1 1=part c 1:=(p1 1 (by omega)).symm;have q2:part b2 2=part c 2:=((p1 2 (by omega)).trans (p2 2 (by omega))).symm;have q3:part b3 3=part c 3:=((p1 3 (by omega)).trans ((p2 3 (by omega)).trans (p3 3 (by omega)))).symm;rw[show (0:Int)+1=1 from rfl]at e2;rw[show (0:Int)+1+1=2 from rfl]at e3;rw[show (0:Int)+1+1+1=3 from rfl,e5,List.append_nil]at e4;unfold glue;rw[← q1,← q2,← q3,← e4,← e3,← e2,← e1]
theorem ext_part {a b:List S3} (ha:RiseC 0 a) (hb:RiseC 0 b) (h:∀ d,Cen d→part a d=part b d):a=b:=by
 rw[glue_part ha,glue_part hb];unfold glue;rw[h 0 (by unfold Cen;omega),h 1 (by unfold Cen;omega),h 2 (by unfold Cen;omega),h 3 (by unfold Cen;omega)]
def hasC (c:List S3) (d n:Int):Bool:=hasB (part c d) n
theorem extC {a b:List S3} (ha:RightC a) (hb:RightC b) (h:∀ d n,Cen d→hasC a d n=hasC b d n):a=b:=
 ext_part ha.rise hb.rise fun d hd=>ext (ha.part d hd) (hb.part d hd) fun n=>h d n hd
structure PutC (f:Bool→Bool→Bool) (a b l:List S3):Prop where
 right:RightC l
 has:∀ d n,Cen d→hasC l d n=f (hasC a d n) (hasC b d n)
theorem PutC.eq {f:Bool→Bool→Bool} {a b l l':List S3} (h:PutC f a b l) (h':PutC f a b l'):l=l':=extC h.right h'.right fun d n hd=>by rw[h.has d n hd,h'.has d n hd]
theorem PutC.of {f:Bool→Bool→Bool} {a b:List S3} {p:Int→List (Int×Int)} (h:∀ d,Cen d→RightF 1 (p d)∧∀ n,hasB (p d) n=f (hasC a d n) (hasC b d n)):PutC f a b (glue p):=
 ⟨right_glue fun d hd=>(h d hd).1,fun d n hd=>by unfold hasC;rw[part_glue p hd];exact (h d hd).2 n⟩
end Cx
end Go.Proofs.YtcbpgemiffmieaaGreat
namespace Go.Proofs.YtcbpgemiffmieaaGreat
namespace Pk
open Tr Cx
def Pre {α:Type} (f:α→List UInt8) (a:α):Prop:=∀ (b:α) (x y:List UInt8),f a++x=f b++y→a=b∧x=y
theorem pre_num (v:Int):Pre numB v:=fun _ _ _ h=>numB_prefix h
theorem pre_seq {α:Type} {f:α→List UInt8} : ∀ {l m:List α},(∀ a∈l,Pre f a)→l.length=m.length→∀ {x y:List UInt8},l.flatMap f++x=m.flatMap f++y→l=m∧x=y
 | [],[],_,_,_,_,h=>⟨rfl,h⟩
 | [],_::_,_,h,_,_,_=>by cases h
 | _::_,[],_,h,_,_,_=>by cases h
 | a::l,b::m,hp,hl,x,y,h=>by
  rw[List.flatMap_cons,List.flatMap_cons,List.append_assoc,List.append_assoc]at h;obtain⟨h1,h2⟩:=hp a (List.mem_cons_self) b _ _ h;obtain⟨h3,h4⟩:=pre_seq (fun c hc=>hp c (List.mem_cons_of_mem _ hc)) (by simpa using hl) h2;rw[h1,h3];exact⟨rfl,h4⟩
def listB {α:Type} (f:α→List UInt8) (l:List α):List UInt8:=numB l.length++l.flatMap f
theorem pre_list {α:Type} {f:α→List UInt8} {l:List α} (hp:∀ a∈l,Pre f a):Pre (listB f) l:=fun m x y h=>by
 unfold listB at h;rw[List.append_assoc,List.append_assoc]at h;obtain⟨h1,h2⟩:=numB_prefix h;exact pre_seq hp (by omega) h2
def txtB (s:ByteArray):List UInt8:=numB s.size++s.data.toList
theorem pre_txt (s:ByteArray):Pre txtB s:=fun t x y h=>by
 unfold txtB at h;rw[List.append_assoc,List.append_assoc]at h;obtain⟨h1,h2⟩:=numB_prefix h
 have hl:s.data.toList.length=t.data.toList.length:=by
  have e1:s.data.toList.length=s.size:=by simp
  have e2:t.data.toList.length=t.size:=by simp
  omega
 obtain⟨h3,h4⟩:=List.append_inj h2 hl;refine⟨?_,h4⟩
 cases s
 cases t
 exact congrArg ByteArray.mk (Array.toList_inj.1 h3)
def spB (s:S3):List UInt8:=numB s.1++numB s.2.1++numB s.2.2
theorem pre_sp (s:S3):Pre spB s:=fun t x y h=>by
 unfold spB at h;simp only[List.append_assoc]at h;obtain⟨h1,h⟩:=numB_prefix h;obtain⟨h2,h⟩:=numB_prefix h;obtain⟨h3,h⟩:=numB_prefix h;exact⟨Prod.ext h1 (Prod.ext h2 h3),h⟩
def ctxB (c:List S3):List UInt8:=listB spB c
theorem pre_ctx (c:List S3):Pre ctxB c:=pre_list fun s _=>pre_sp s
def entB (e:E):List UInt8:=numB e.a++numB e.n++txtB e.s++numB e.v
theorem pre_ent (e:E):Pre entB e:=fun f x y h=>by
 unfold entB at h;simp only[List.append_assoc]at h;obtain⟨h1,h⟩:=numB_prefix h;obtain⟨h2,h⟩:=numB_prefix h;obtain⟨h3,h⟩:=pre_txt _ _ _ _ h;obtain⟨h4,h5⟩:=numB_prefix h;clear h
 cases e
 cases f
 dsimp only at h1 h2 h3 h4;subst h1;subst h2;subst h3;subst h4;exact⟨rfl,h5⟩
def treeB:T→List UInt8
 | .mk es ks=>listB entB es++(numB ks.length++ks.attach.flatMap fun k=>txtB k.1.1++treeB k.1.2)
termination_by t=>SizeOf.sizeOf t
decreasing_by exact kid_lt k.2
def kidB (k:ByteArray×T):List UInt8:=txtB k.1++treeB k.2
theorem treeB_mk (es:List E) (ks:List (ByteArray×T)):treeB (.mk es ks)=listB entB es++listB kidB ks:=by
 rw[treeB];unfold listB kidB;rw[attach_flat ks fun k=>txtB k.1++treeB k.2]
theorem pre_tree:∀ t:T,Pre treeB t:=by
 intro t
 induction t using T.ind with
 | h es ks ih=>
  intro u x y h
  cases u with
  | mk fs ls=>
   rw[treeB_mk,treeB_mk,List.append_assoc,List.append_assoc]at h;obtain⟨h1,h⟩:=pre_list (fun e _=>pre_ent e) _ _ _ h
   obtain⟨h2,h⟩:=pre_list (f:=kidB) (fun k hk=>fun k' x y h=>by
    unfold kidB at h;rw[List.append_assoc,List.append_assoc]at h;obtain⟨h3,h⟩:=pre_txt _ _ _ _ h;obtain⟨h4,h⟩:=ih k hk _ _ _ h
    exact⟨Prod.ext h3 h4,h⟩) _ _ _ h
   rw[h1,h2];exact⟨rfl,h⟩
def causB (k:T×List S3):List UInt8:=treeB k.1++ctxB k.2
theorem pre_caus (k:T×List S3):Pre causB k:=fun j x y h=>by
 unfold causB at h;rw[List.append_assoc,List.append_assoc]at h;obtain⟨h1,h⟩:=pre_tree _ _ _ _ h;obtain⟨h2,h⟩:=pre_ctx _ _ _ _ h;exact⟨Prod.ext h1 h2,h⟩
theorem caus_unlike (k j:T×List S3):causB k=causB j↔k=j:=⟨fun h=>(pre_caus k j [] [] (by rw[List.append_nil,List.append_nil];exact h)).1,fun h=>by rw[h]⟩
def Starts {α:Type} (f:α→List UInt8) (R:α→Prop) (bs:List UInt8) (a:α) (rest:List UInt8):Prop:=R a∧bs=f a++rest
theorem Starts.uniq {α:Type} {f:α→List UInt8} {R:α→Prop} (hp:∀ a,Pre f a) {bs rest rest':List UInt8} {a a':α} (h:Starts f R bs a rest) (h':Starts f R bs a' rest'):a=a'∧rest=rest':=hp a a' rest rest' (h.2.symm.trans h'.2)
theorem list_len {α:Type} {f:α→List UInt8} {l:List α} (h:∀ a∈l,1≤(f a).length):l.length≤(l.flatMap f).length:=by
 induction l with
 | nil=>simp
 | cons a l ih=>
  have h1:=h a (List.mem_cons_self);have h2:=ih fun b hb=>h b (List.mem_cons_of_mem _ hb);rw[List.flatMap_cons,List.length_append,List.length_cons];omega
end Pk
end Go.Proofs.YtcbpgemiffmieaaGreat
namespace Go.Proofs.YtcbpgemiffmieaaGreat
namespace Pk
open Tr Cx Sp
theorem seq_cut {α:Type} {f:α→List UInt8} (hp:∀ a,Pre f a):∀ {ps l:List α} {x y:List UInt8},ps.length≤l.length→l.flatMap f++x=ps.flatMap f++y→∃ m,l=ps++m∧y=m.flatMap f++x
 | [],l,_,_,_,h=>⟨l,rfl,h.symm⟩
 | _::_,[],_,_,hl,_=>absurd hl (by simp)
 | a::ps,b::l,x,y,hl,h=>by
  rw[List.flatMap_cons,List.flatMap_cons,List.append_assoc,List.append_assoc]at h;obtain⟨h1,h2⟩:=hp b a _ _ h;obtain⟨m,h3,h4⟩:=seq_cut hp (by simpa using hl) h2;exact⟨m,by rw[h1,h3];rfl,h4⟩
def I64 (v:Int):Prop:=-9223372036854775808≤v∧v≤9223372036854775807
theorem num_le {v:Int} (h:I64 v):(numB v).length≤10:=numB_ten h.1 h.2
theorem nums_le:∀ {l:List Int},(∀ v∈l,I64 v)→(l.flatMap numB).length≤10*l.length
 | [],_=>by simp
 | v::l,h=>by
  have h1:=num_le (h v (List.mem_cons_self));have h2:=nums_le fun u hu=>h u (List.mem_cons_of_mem _ hu);rw[List.flatMap_cons,List.length_append,List.length_cons];omega
theorem txt_le {s:ByteArray} (h:s.size≤9223372036854775807):(txtB s).length≤10+s.size:=by
 unfold txtB;rw[List.length_append];have h1:=num_le (v:=s.size) ⟨by omega,by omega⟩
 have e1:s.data.toList.length=s.size:=by simp
 omega
theorem txt_ge (s:ByteArray):s.size≤(txtB s).length:=by
 unfold txtB;rw[List.length_append]
 have e1:s.data.toList.length=s.size:=by simp
 omega
theorem flat_le {α:Type} {f:α→List UInt8} {m:Nat} : ∀ {l:List α},(∀ a∈l,(f a).length≤m)→(l.flatMap f).length≤m*l.length
 | [],_=>by simp
 | a::l,h=>by
  have h1:=h a (List.mem_cons_self);have h2:=flat_le fun u hu=>h u (List.mem_cons_of_mem _ hu);rw[List.flatMap_cons,List.length_append,List.length_cons,Nat.mul_succ];omega
theorem right_sp {c:List S3} (h:RightC c) {s:S3} (hs:s∈c):(0≤s.1∧s.1<4)∧(1≤s.2.1∧s.2.1≤1099511627776)∧1≤s.2.2∧s.2.2≤1099511627776:=by
 have h1:=RiseC.mem h.rise s hs;have h2:=RightF.mem (h.part s.1 h1) s.2 (part_mem.2 hs);exact⟨h1,⟨h2.1,by omega⟩,by omega,h2.2.2⟩
def SpI (s:S3):Prop:=I64 s.1∧I64 s.2.1∧I64 s.2.2
theorem right_spI {c:List S3} (h:RightC c) {s:S3} (hs:s∈c):SpI s:=by
 obtain⟨h1,h2,h3⟩:=right_sp h hs;exact⟨⟨by omega,by omega⟩,⟨by omega,by omega⟩,⟨by omega,by omega⟩⟩
theorem sp_le {s:S3} (h:SpI s):(spB s).length≤30:=by
 unfold spB;rw[List.length_append,List.length_append];have h1:=num_le h.1;have h2:=num_le h.2.1;have h3:=num_le h.2.2;omega
theorem ctx_le {c:List S3} (h:RightC c) (hl:c.length≤1000000):(ctxB c).length≤10+30*c.length:=by
 unfold ctxB listB;rw[List.length_append];have h1:=num_le (v:=c.length) ⟨by omega,by omega⟩;have h2:=flat_le (f:=spB) fun s hs=>sp_le (right_spI h hs);omega
theorem ent_le {e:E} (h:RightE e):(entB e).length≤70:=by
 obtain⟨h1,h2,h3,h4⟩:=h;unfold Dt.rightB at h1
 simp at h1
 unfold entB;simp only[List.length_append];have g1:=num_le (v:=e.a) ⟨by omega,by omega⟩;have g2:=num_le (v:=e.n) ⟨by omega,by omega⟩;have g3:=txt_le (s:=e.s) (by omega);have g4:=num_le (v:=e.v) ⟨by omega,by omega⟩;omega
theorem tree_le:∀ (t:T) {d:Nat},RightT d t→nodes t≤1000000→(treeB t).length≤20+70*nodes t:=by
 intro t
 induction t using T.ind with
 | h es ks ih=>
  intro d h hn
  cases d with
  | zero=>exact h.elim
  | succ d=>
   obtain⟨h1,_,_,h4⟩:=h;have g0:=nodes_es es ks;rw[treeB_mk,List.length_append];unfold listB;rw[List.length_append,List.length_append];have g1:=num_le (v:=es.length) ⟨by omega,by omega⟩;have g2:=num_le (v:=ks.length) ⟨by omega,by omega⟩;have g3:=flat_le (f:=entB) fun e he=>ent_le (h1 e he)
   have g4:∀ l:List (ByteArray×T),(∀ k∈l,k∈ks)→(l.flatMap kidB).length≤60*l.length+70*(l.map fun k=>nodes k.2).sum:=by
    intro l
    induction l with
    | nil=>intro _;simp
    | cons k l il=>
     intro hk;have hm:=hk k (List.mem_cons_self);obtain⟨a1,_,a3⟩:=h4 k hm;have b1:=ih k hm a3 (Nat.le_trans (nodes_kid hm) hn);have b2:=txt_le (s:=k.1) (by have:=a1.2;omega);have b3:=il fun q hq=>hk q (List.mem_cons_of_mem _ hq)
     have b4:(kidB k).length=(txtB k.1).length+(treeB k.2).length:=by unfold kidB;rw[List.length_append]
     have b5:=a1.2;rw[List.flatMap_cons,List.length_append,List.length_cons,List.map_cons,List.sum_cons];omega
   have g5:=g4 ks fun _ h=>h;rw[nodes_mk]at hn ⊢;omega
theorem flat_take {α:Type} (f:α→List UInt8) {l:List α} {k:Nat} (h:k<l.length):(l.take (k+1)).flatMap f=(l.take k).flatMap f++f l[k]:=by
 rw[List.take_succ_eq_append_getElem h,List.flatMap_append];simp
theorem flat_take_le {α:Type} (f:α→List UInt8) (l:List α) (k:Nat):((l.take k).flatMap f).length≤(l.flatMap f).length:=by
 conv=>rhs;rw[← List.take_append_drop k l]
 rw[List.flatMap_append,List.length_append];omega
end Pk
end Go.Proofs.YtcbpgemiffmieaaGreat
namespace Go.Proofs.YtcbpgemiffmieaaGreat
namespace Pk
open Tr Cx Sp
def One {α:Type} (f:α→List UInt8) (R:α→Prop) (bs:List UInt8) (a:α) (rest:List UInt8) (b:Bool):Prop:=
 (b=false∧bs=f a++rest)∨(b=true∧rest=[]∧∀ y z,R y→bs≠f y++z)
section
variable {α β:Type} {f:α→List UInt8} {h:β→List UInt8} {R:α→Prop} {S:β→Prop} {bs rest r1 r2:List UInt8} {a:α} {c:β} {b b1 b2:Bool}
theorem One.bad (k:One f R bs a rest b):b=true→rest=[]:=fun hb=>by rcases k with k | k <;> simp_all
theorem One.le (k:One f R bs a rest b):rest.length≤bs.length:=by
 rcases k with ⟨_,rfl⟩ | ⟨_,rfl,_⟩ <;> simp
theorem One.lt (hf:∀ a,1≤(f a).length) (k:One f R bs a rest false):rest.length<bs.length:=by
 rcases k with ⟨_,rfl⟩ | ⟨k,_⟩
 ·have:=hf a
  rw[List.length_append];omega
 ·cases k
theorem One.nil (hf:∀ a,1≤(f a).length) (k:One f R [] a rest b):b=true:=by
 rcases k with ⟨_,e⟩ | ⟨k,_⟩
 ·have h1:=congrArg List.length e
  have h2:=hf a;rw[List.length_append,List.length_nil]at h1;omega
 ·exact k
theorem One.mono {R':α→Prop} (k:One f R bs a rest b) (hr:∀ y,R' y→R y):One f R' bs a rest b:=by
 rcases k with k | ⟨k1,k2,k3⟩
 ·exact .inl k
 ·exact .inr ⟨k1,k2,fun y z hy=>k3 y z (hr y hy)⟩
theorem One.conv {g:β→List UInt8} {e:α→β} (k:One f R bs a rest b) (he:∀ y,g (e y)=f y) (hr:∀ y,S y→∃ x,y=e x∧R x):One g S bs (e a) rest b:=by
 rcases k with ⟨k1,k2⟩ | ⟨k1,k2,k3⟩
 ·exact .inl ⟨k1,by rw[he];exact k2⟩
 ·refine .inr ⟨k1,k2,fun y z hy=>?_⟩
  obtain⟨x,rfl,hx⟩:=hr y hy;rw[he];exact k3 x z hx
theorem One.pair (hp:∀ a,Pre f a) (hc:∀ c,1≤(h c).length) (k1:One f R bs a r1 b1) (k2:One h S r1 c r2 b2):One (fun p:α×β=>f p.1++h p.2) (fun p=>R p.1∧S p.2) bs (a,c) r2 b2:=by
 rcases k1 with ⟨rfl,e1⟩ | ⟨rfl,rfl,n1⟩
 ·rcases k2 with ⟨rfl,e2⟩ | ⟨rfl,rfl,n2⟩
  ·exact .inl ⟨rfl,by rw[e1,e2,List.append_assoc]⟩
  ·refine .inr ⟨rfl,rfl,fun y z hy e=>?_⟩
   rw[e1,List.append_assoc]at e;obtain⟨_,e⟩:=hp _ _ _ _ e;exact n2 _ _ hy.2 e
 ·obtain rfl:=One.nil hc k2
  rcases k2 with ⟨e,_⟩ | ⟨_,rfl,_⟩
  ·cases e
  ·refine .inr ⟨rfl,rfl,fun y z hy e=>?_⟩
   rw[List.append_assoc]at e;exact n1 _ _ hy.1 e
theorem pre_pair (hp:∀ a,Pre f a) (hq:∀ c,Pre h c):∀ p:α×β,Pre (fun p:α×β=>f p.1++h p.2) p:=fun p q x y e=>by
 dsimp only at e;rw[List.append_assoc,List.append_assoc]at e;obtain⟨e1,e⟩:=hp _ _ _ _ e;obtain⟨e2,e⟩:=hq _ _ _ _ e;exact⟨Prod.ext e1 e2,e⟩
theorem One.uniq (hp:∀ a,Pre f a) {a':α} {r':List UInt8} {b':Bool} (k:One f R bs a rest b) (k':One f R bs a' r' b') (ha:b=false→R a) (ha':b'=false→R a'):b=b'∧rest=r'∧(b=false→a=a'):=by
 rcases k with ⟨rfl,e⟩ | ⟨rfl,rfl,n⟩
 ·rcases k' with ⟨rfl,e'⟩ | ⟨rfl,rfl,n'⟩
  ·obtain⟨h1,h2⟩:=hp _ _ _ _ (e.symm.trans e')
   exact⟨rfl,h2,fun _=>h1⟩
  ·exact absurd e (n' _ _ (ha rfl))
 ·rcases k' with ⟨rfl,e'⟩ | ⟨rfl,rfl,n'⟩
  ·exact absurd e' (n _ _ (ha' rfl))
  ·exact⟨rfl,rfl,fun h=>by cases h⟩
def Many (f:α→List UInt8) (R:α→Prop) (bs:List UInt8) (K:Nat) (ps:List α) (rest:List UInt8) (b:Bool):Prop:=
 (b=false∧bs=numB K++ps.flatMap f++rest)∨(b=true∧rest=[]∧∀ l x,(∀ y∈l,R y)→bs≠listB f l++x)
variable {K:Nat} {ps:List α}
theorem Many.bad (k:Many f R bs K ps rest b):b=true→rest=[]:=fun hb=>by rcases k with k | k <;> simp_all
theorem Many.le (k:Many f R bs K ps rest b):rest.length≤bs.length:=by
 rcases k with ⟨_,rfl⟩ | ⟨_,rfl,_⟩
 ·simp only[List.length_append];omega
 ·simp
theorem Many.zero (h:bs=numB K++rest):Many f R bs K [] rest false:=.inl ⟨rfl,by simpa using h⟩
theorem Many.no (hf:∀ a,1≤(f a).length) (h:∀ (v:Int) (x:List UInt8),0≤v→v≤bs.length→bs≠numB v++x):Many f R bs K ps [] true:=by
 refine .inr ⟨rfl,rfl,fun l x _ e=>?_⟩;unfold listB at e;rw[List.append_assoc]at e;refine h l.length _ (by omega) ?_ e;have h1:=list_len (f:=f) (l:=l) fun a _=>hf a;have h2:=congrArg List.length e;simp only[List.length_append]at h2;omega
theorem Many.step (hp:∀ a,Pre f a) (k:Many f R bs K ps rest false) (hk:ps.length<K) (h1:One f R rest a r2 b2):Many f R bs K (ps++[a]) r2 b2:=by
 rcases k with ⟨_,e⟩ | ⟨k,_⟩
 ·rcases h1 with ⟨rfl,e1⟩ | ⟨rfl,rfl,n⟩
  ·refine .inl ⟨rfl,?_⟩
   rw[e,e1];simp[List.append_assoc]
  ·refine .inr ⟨rfl,rfl,fun l x hl ee=>?_⟩
   unfold listB at ee;rw[e,List.append_assoc,List.append_assoc]at ee;obtain⟨e1,ee⟩:=numB_prefix ee;obtain⟨m,hm,ee⟩:=seq_cut hp (by omega:ps.length≤l.length) ee.symm
   cases m with
   | nil=>
    rw[List.append_nil]at hm;rw[hm]at e1;omega
   | cons y m=>
    rw[List.flatMap_cons,List.append_assoc]at ee;exact n _ _ (hl y (by rw[hm];simp)) ee
 ·cases k
theorem Many.all (k:Many f R bs K ps rest b) (hk:b=false→ps.length=K):One (listB f) (fun l=>∀ y∈l,R y) bs ps rest b:=by
 rcases k with ⟨rfl,e⟩ | k
 ·refine .inl ⟨rfl,?_⟩
  rw[e];unfold listB;rw[hk rfl]
 ·exact .inr k
theorem listB_pos (l:List α):1≤(listB f l).length:=by
 unfold listB;have:=numB_pos l.length;rw[List.length_append];omega
end
def NumR (m v:Int):Prop:=-m≤v∧v≤m
def TxtR (m:Nat) (s:ByteArray):Prop:=s.size≤m
theorem txtB_pos (s:ByteArray):1≤(txtB s).length:=by unfold txtB;have:=numB_pos s.size;rw[List.length_append];omega
def SpanR (s:S3):Prop:=NumR 3 s.1∧NumR 1099511627776 s.2.1∧NumR 1099511627776 s.2.2
theorem span_one {bs r1 r2 r3:List UInt8} {x0 x1 x2:Int} {b1 b2 b3:Bool} (k0:One numB (NumR 3) bs x0 r1 b1) (k1:One numB (NumR 1099511627776) r1 x1 r2 b2) (k2:One numB (NumR 1099511627776) r2 x2 r3 b3):One spB SpanR bs (x0,x1,x2) r3 b3:=
 ((k0.pair pre_num numB_pos k1).pair (pre_pair pre_num pre_num) numB_pos k2).conv (e:=fun p=>(p.1.1,p.1.2,p.2)) (fun _y=>rfl) (fun y hy=>⟨((y.1,y.2.1),y.2.2),rfl,⟨hy.1,hy.2.1⟩,hy.2.2⟩)
theorem sp_pos (s:S3):1≤(spB s).length:=by unfold spB;have:=numB_pos s.1;simp only[List.length_append];omega
theorem right_spR {c:List S3} (h:RightC c) {s:S3} (hs:s∈c):SpanR s:=by
 obtain⟨h1,h2,h3⟩:=right_sp h hs;exact⟨⟨by omega,by omega⟩,⟨by omega,by omega⟩,⟨by omega,by omega⟩⟩
def EntR (e:E):Prop:=NumR 3 e.a∧NumR 1099511627776 e.n∧TxtR 30 e.s∧NumR 1099511627776 e.v
theorem ent_one {bs r1 r2 r3 r4:List UInt8} {x0 x1 x3:Int} {s:ByteArray} {b1 b2 b3 b4:Bool} (k0:One numB (NumR 3) bs x0 r1 b1) (k1:One numB (NumR 1099511627776) r1 x1 r2 b2) (k2:One txtB (TxtR 30) r2 s r3 b3) (k3:One numB (NumR 1099511627776) r3 x3 r4 b4):One entB EntR bs ⟨x0,x1,s,x3⟩ r4 b4:=
 (((k0.pair pre_num numB_pos k1).pair (pre_pair pre_num pre_num) txtB_pos k2).pair (pre_pair (pre_pair pre_num pre_num) pre_txt) numB_pos k3).conv (e:=fun p=>(⟨p.1.1.1,p.1.1.2,p.1.2,p.2⟩:E)) (fun _y=>rfl) (fun y hy=>⟨(((y.a,y.n),y.s),y.v),rfl,⟨⟨hy.1,hy.2.1⟩,hy.2.2.1⟩,hy.2.2.2⟩)
theorem ent_pos' (e:E):1≤(entB e).length:=by unfold entB;have:=numB_pos e.a;simp only[List.length_append];omega
theorem right_entR {e:E} (h:RightE e):EntR e:=by
 obtain⟨h1,h2,h3,h4⟩:=h;unfold Dt.rightB at h1
 simp at h1
 exact⟨⟨by omega,by omega⟩,⟨by omega,by omega⟩,h2,⟨by omega,by omega⟩⟩
def KidR (d:Nat) (k:ByteArray×T):Prop:=TxtR 30 k.1∧RightT d k.2
theorem treeB_pos (t:T):1≤(treeB t).length:=by
 cases t with
 | mk es ks=>
  rw[treeB_mk,List.length_append];have:=listB_pos (f:=entB) es;omega
theorem kid_pos' (k:ByteArray×T):1≤(kidB k).length:=by unfold kidB;have:=txtB_pos k.1;rw[List.length_append];omega
theorem pre_kid (k:ByteArray×T):Pre kidB k:=pre_pair (f:=txtB) (h:=treeB) pre_txt pre_tree k
theorem kid_one {d:Nat} {bs r1 r2:List UInt8} {s:ByteArray} {t:T} {b1 b2:Bool} (k0:One txtB (TxtR 30) bs s r1 b1) (k1:One treeB (RightT d) r1 t r2 b2):One kidB (KidR d) bs (s,t) r2 b2:=k0.pair pre_txt treeB_pos k1
theorem tree_zero {bs:List UInt8} {t:T} : One treeB (RightT 0) bs t [] true:=.inr ⟨rfl,rfl,fun _ _ h=>h.elim⟩
theorem tree_one {d:Nat} {bs r1 r2:List UInt8} {es:List E} {ks:List (ByteArray×T)} {b1 b2:Bool} (k0:One (listB entB) (fun l=>∀ y∈l,EntR y) bs es r1 b1) (k1:One (listB kidB) (fun l=>∀ y∈l,KidR d y) r1 ks r2 b2):One treeB (RightT (d+1)) bs (.mk es ks) r2 b2:=
 (k0.pair (fun l=>pre_list fun e _=>pre_ent e) listB_pos k1).conv (e:=fun p=>T.mk p.1 p.2) (fun y=>treeB_mk _ _) (fun y hy=>by
  cases y with
  | mk es ks=>exact⟨(es,ks),rfl,fun e he=>right_entR (hy.1 e he),fun k hk=>⟨((hy.2.2.2 k hk).1).2,(hy.2.2.2 k hk).2.2⟩⟩)
theorem One.stands {α:Type} {f:α→List UInt8} {R S:α→Prop} {bs rest:List UInt8} {a z:α} {b:Bool} {r:Bool} (hp:∀ a,Pre f a) (k:One f R bs a rest b) (hs:∀ y,S y→R y) (hr:r=true↔S a):One f S bs (if r && !b then a else z) (if r && !b then rest else []) (!(r && !b))∧((r && !b)=true→S a):=by
 rcases k with ⟨rfl,e⟩ | ⟨rfl,rfl,n⟩
 ·cases r with
  | true=>exact⟨.inl ⟨rfl,e⟩,fun _=>hr.1 rfl⟩
  | false=>
   refine⟨.inr ⟨rfl,rfl,fun y z hy e2=>?_⟩,fun h=>by simp at h⟩;rw[e]at e2;obtain⟨rfl,_⟩:=hp _ _ _ _ e2;have:=hr.2 hy
   cases this
 ·refine⟨.inr ⟨by simp,by simp,fun y z hy=>n y z (hs y hy)⟩,fun h=>by simp at h⟩
def Got {α:Type} (f:α→List UInt8) (S:α→Prop) (z:α) (bs:List UInt8) (u:α) (r:List UInt8) (b:Bool):Prop:=One f S bs u r b∧(b=false→S u)∧(b=true→u=z)
section
variable {α:Type} {f:α→List UInt8} {R S:α→Prop} {z a u u':α} {bs rest r r' x:List UInt8} {b b' k:Bool}
theorem Got.uniq (hp:∀ a,Pre f a) (h:Got f S z bs u r b) (h':Got f S z bs u' r' b'):u=u'∧r=r'∧b=b':=by
 obtain⟨e1,e2,e3⟩:=One.uniq hp h.1 h'.1 h.2.1 h'.2.1;refine⟨?_,e2,e1⟩
 cases hb:b with
 | false=>exact e3 hb
 | true=>rw[h.2.2 hb,h'.2.2 (by rw[← e1];exact hb)]
theorem Got.back (hp:∀ a,Pre f a) (h:Got f S z bs u r b) (ha:S a) (e:bs=f a++x):u=a∧r=x∧b=false:=by
 obtain⟨h1,h2,_⟩:=h
 rcases h1 with ⟨rfl,e1⟩ | ⟨_,_,n⟩
 ·obtain⟨e2,e3⟩:=hp _ _ _ _ (e1.symm.trans e)
  exact⟨e2,e3,rfl⟩
 ·exact absurd e (n a x ha)
theorem Got.of (hp:∀ a,Pre f a) (h:One f R bs a rest b) (hs:∀ y,S y→R y) (hk:k=true↔S a) (ok:Bool) (hok:(k && !b)=ok) (hu:u=if ok then a else z):Got f S z bs u (if ok then rest else []) (!ok):=by
 have h3:=One.stands (z:=z) hp h hs hk;subst hok;obtain⟨h1,h2⟩:=h3;refine⟨by rw[hu];exact h1,fun h=>?_,fun h=>?_⟩
 ·have e:(k && !b)=true:=by cases hkb:(k && !b)with
   | true=>rfl
   | false=>rw[hkb]at h;cases h
  rw[hu,if_pos e];exact h2 e
 ·have e:(k && !b)=false:=by cases hkb:(k && !b)with
   | false=>rfl
   | true=>rw[hkb]at h;cases h
  rw[hu,e];simp
theorem Got.le (h:Got f S z bs u r b):r.length≤bs.length:=h.1.le
theorem Got.bad (h:Got f S z bs u r b):b=true→r=[]:=h.1.bad
end
def PV (M:Int) (bs:List UInt8) (xs:List Int) (r:List UInt8) (b:Bool):Prop:=(b=false∧bs=xs.flatMap numB++r)∨(b=true∧r=[]∧∀ (ys:List Int) (z:List UInt8),ys.length=4→(∀ y∈ys,NumR M y)→bs≠ys.flatMap numB++z)
theorem PV.zero {M:Int} {bs:List UInt8} {b:Bool} (hb:b=true→bs=[]):PV M bs [] bs b:=by
 cases b with
 | false=>exact .inl ⟨rfl,rfl⟩
 | true=>
  refine .inr ⟨rfl,hb rfl,fun ys z hl _ e=>?_⟩;rw[hb rfl]at e
  cases ys with
  | nil=>cases hl
  | cons y ys=>
   have h1:=congrArg List.length e;have h2:=numB_pos y;rw[List.flatMap_cons]at h1;simp only[List.length_append,List.length_nil]at h1;omega
theorem PV.step {M v:Int} {bs r r2:List UInt8} {xs:List Int} {b b2:Bool} (h:PV M bs xs r b) (hl:xs.length<4) (h1:One numB (NumR M) r v r2 b2):PV M bs (xs++[v]) r2 b2:=by
 rcases h with ⟨_,e⟩ | ⟨rfl,rfl,n⟩
 ·rcases h1 with ⟨rfl,e1⟩ | ⟨rfl,rfl,n⟩
  ·refine .inl ⟨rfl,?_⟩
   rw[e,e1];simp[List.append_assoc]
  ·refine .inr ⟨rfl,rfl,fun ys z hy hm ee=>?_⟩
   rw[e]at ee;obtain⟨m,hm2,ee⟩:=seq_cut pre_num (by omega:xs.length≤ys.length) ee.symm
   cases m with
   | nil=>
    rw[List.append_nil]at hm2;rw[hm2]at hy;omega
   | cons y m=>
    rw[List.flatMap_cons,List.append_assoc]at ee;exact n _ _ (hm y (by rw[hm2];simp)) ee
 ·obtain rfl:=One.nil numB_pos h1
  rcases h1 with ⟨h,_⟩ | ⟨_,rfl,_⟩
  ·cases h
  ·exact .inr ⟨rfl,rfl,n⟩
abbrev V4:Type:=Int×Int×Int×Int
def v4B (y:V4):List UInt8:=[y.1,y.2.1,y.2.2.1,y.2.2.2].flatMap numB
theorem pre_v4 (y:V4):Pre v4B y:=fun u x x' e=>by
 obtain⟨e1,e2⟩:=pre_seq (f:=numB) (l:=[y.1,y.2.1,y.2.2.1,y.2.2.2]) (m:=[u.1,u.2.1,u.2.2.1,u.2.2.2]) (fun a _=>pre_num a) rfl e;injection e1 with e1 e3;injection e3 with e3 e4;injection e4 with e4 e5;injection e5 with e5 _;exact⟨Prod.ext e1 (Prod.ext e3 (Prod.ext e4 e5)),e2⟩
def V4R (M:Int) (y:V4):Prop:=NumR M y.1∧NumR M y.2.1∧NumR M y.2.2.1∧NumR M y.2.2.2
theorem PV.all {M:Int} {bs r:List UInt8} {y:V4} {b:Bool} (h:PV M bs [y.1,y.2.1,y.2.2.1,y.2.2.2] r b):One v4B (V4R M) bs y r b:=by
 rcases h with h | ⟨h1,h2,n⟩
 ·exact .inl h
 ·refine .inr ⟨h1,h2,fun u z hu=>n _ z rfl (fun x hx=>?_)⟩
  simp only[List.mem_cons,List.not_mem_nil,or_false]at hx
  rcases hx with rfl | rfl | rfl | rfl
  ·exact hu.1
  ·exact hu.2.1
  ·exact hu.2.2.1
  ·exact hu.2.2.2
end Pk
end Go.Proofs.YtcbpgemiffmieaaGreat
namespace Go.Proofs.YtcbpgemiffmieaaGreat
open Go.ChangeShapes Go.WideShapes Go.ChangeAt Go.RowKit
namespace Pk
open Tr Cx Sp Codec
structure InC (w:World) (l:List (Addr×Value)) (F:List Nat) (a:Nat) (bs:List UInt8) (bad:Bool):Prop where
 at_:InAt w a bs bad
 cells:∀ x∈l,x.1.block<w.heap.size∧w.cell? x.1=some x.2∧x.1.block≠a
 free:∀ q∈F,Free q w∧q≠a
def Gt (a:Nat) (w:World) (l:List (Addr×Value)) (F:List Nat) (r:List UInt8) (b:Bool) (wr:World):Prop:=InC wr l F a r b∧w.grownBy wr (some a)
section
variable {w wr w' W:World} {l l2:List (Addr×Value)} {F F2:List Nat} {a:Nat} {bs r r2:List UInt8} {bad b b2:Bool}
theorem gb_onw {row:Option Nat} (h:w.grownBy wr row) (hb:Below w.heap.size wr w'):w.grownBy w' row:=
 ⟨hb.os.trans h.os,hb.tape.trans h.tape,hb.output.trans h.output,Nat.le_trans h.size hb.size,fun k hk hne=>(hb.block k hk).trans (h.block k hk hne)⟩
theorem InC.later (h:InC w l F a bs bad) (hb:Below w.heap.size w w'):InC w' l F a bs bad:=
 ⟨h.at_.below hb,fun x hx=>by
  obtain⟨h1,h2,h3⟩:=h.cells x hx
  exact⟨Nat.lt_of_lt_of_le h1 hb.size,(hb.cell (p:=x.1) h1).trans h2,h3⟩,fun q hq=>⟨(h.free q hq).1.later hb,(h.free q hq).2⟩⟩
theorem InC.grown (h:InC w l F a bs bad) (hi:InAt w' a r b) (hg:w.grownBy w' (some a)):InC w' l F a r b:=
 ⟨hi,fun x hx=>by
  obtain⟨h1,h2,h3⟩:=h.cells x hx
  exact⟨Nat.lt_of_lt_of_le h1 hg.size,(World.cell?_of_block (a:=x.1) (hg.block _ h1 (fun e=>h3 (by injection e)))).trans h2,h3⟩,fun q hq=>by
  obtain⟨h1,h2⟩:=h.free q hq
  exact⟨⟨Nat.lt_of_lt_of_le h1.1 hg.size,fun j=>(World.frozen?_of_block (a:=⟨q,j,none⟩) (hg.block _ h1.1 (fun e=>h2 (by injection e)))).trans (h1.2 j)⟩,h2⟩⟩
theorem InC.sub (h:InC w l F a bs bad) (hs:∀ x∈l2,x∈l) (hf:∀ q∈F2,q∈F):InC w l2 F2 a bs bad:=⟨h.at_,fun x hx=>h.cells x (hs x hx),fun q hq=>h.free q (hf q hq)⟩
theorem InC.add (h:InC w l F a bs bad) (hb:Below w.heap.size w w') (h2:∀ x∈l2,w.heap.size≤x.1.block∧x.1.block<w'.heap.size∧w'.cell? x.1=some x.2) (hf:∀ q∈F2,w.heap.size≤q∧Free q w'):InC w' (l2++l) (F2++F) a bs bad:=by
 have h':=h.later hb;have hlt:=h.at_.lt;refine⟨h'.at_,fun x hx=>?_,fun q hq=>?_⟩
 ·rcases List.mem_append.1 hx with hx | hx
  ·obtain⟨h3,h4,h5⟩:=h2 x hx
   exact⟨h4,h5,by omega⟩
  ·exact h'.cells x hx
 ·rcases List.mem_append.1 hq with hq | hq
  ·obtain⟨h3,h4⟩:=hf q hq
   exact⟨h4,by omega⟩
  ·exact h'.free q hq
theorem Gt.refl (h:InC w l F a bs bad):Gt a w l F bs bad w:=⟨h,gb_refl _ _⟩
theorem Gt.later (h:Gt a w l F r b wr) (hb:Below wr.heap.size wr w'):Gt a w l F r b w':=⟨h.1.later hb,gb_onw h.2 (hb.mono h.2.size)⟩
theorem Gt.add (h:Gt a w l F r b wr) (hb:Below wr.heap.size wr w') (h2:∀ x∈l2,wr.heap.size≤x.1.block∧x.1.block<w'.heap.size∧w'.cell? x.1=some x.2) (hf:∀ q∈F2,wr.heap.size≤q∧Free q w'):Gt a w (l2++l) (F2++F) r b w':=⟨h.1.add hb h2 hf,gb_onw h.2 (hb.mono h.2.size)⟩
theorem Gt.sub (h:Gt a w l F r b wr) (hs:∀ x∈l2,x∈l) (hf:∀ q∈F2,q∈F):Gt a w l2 F2 r b wr:=⟨h.1.sub hs hf,h.2⟩
theorem Gt.trans (h:Gt a w l F r b wr) (h2:Gt a wr l F r2 b2 w'):Gt a w l F r2 b2 w':=⟨h2.1,gb_trans h.2 h2.2⟩
theorem Gt.step (h:Gt a w l F r b wr) (hi:InAt w' a r2 b2) (hg:wr.grownBy w' (some a)):Gt a w l F r2 b2 w':=⟨h.1.grown hi hg,gb_trans h.2 hg⟩
theorem Gt.low (h:Gt a w l F r b wr) (h0:InC w l F a bs bad) (hb:Below w.heap.size wr w'):Gt a w l F r b w':=by
 have hlt:=h0.at_.lt;refine⟨⟨h.1.at_.keepx fun k hk=>hb.block k (by omega),fun x hx=>?_,fun q hq=>?_⟩,gb_onw h.2 hb⟩
 ·obtain⟨h1,h2,h3⟩:=h.1.cells x hx
  exact⟨Nat.lt_of_lt_of_le h1 hb.size,(hb.cell (p:=x.1) (h0.cells x hx).1).trans h2,h3⟩
 ·obtain⟨h1,h2⟩:=h.1.free q hq
  exact⟨⟨Nat.lt_of_lt_of_le h1.1 hb.size,fun j=>(hb.frozen (p:=⟨q,j,none⟩) (h0.free q hq).1.1).trans (h1.2 j)⟩,h2⟩
theorem Gt.put (h:Gt a w l F r b wr) (h0:InC w l2 F2 a bs bad) {q:Nat} (hq:w.heap.size≤q) (hs:∀ x∈l2,x∈l) (hf:∀ x∈F2,x∈F) (j:Nat) (u:Value):Gt a w l2 F2 r b (wr.setCell ⟨q,j,none⟩ u):=
 (h.sub hs hf).low h0 ((Below.refl w.heap.size wr).setCell (p:=⟨q,j,none⟩) hq u)
theorem Gt.cell (h:Gt a w l F r b wr) {p:Addr} {v:Value} (hx:(p,v)∈l):wr.cell? p=some v:=(h.1.cells _ hx).2.1
theorem Gt.c0 {p:Addr} {v:Value} (h:Gt a w ((p,v)::l) F r b wr):wr.cell? p=some v:=h.cell (by simp)
theorem Gt.c1 {x0:Addr×Value} {p:Addr} {v:Value} (h:Gt a w (x0::(p,v)::l) F r b wr):wr.cell? p=some v:=h.cell (by simp)
theorem Gt.c2 {x0 x1:Addr×Value} {p:Addr} {v:Value} (h:Gt a w (x0::x1::(p,v)::l) F r b wr):wr.cell? p=some v:=h.cell (by simp)
theorem Gt.c3 {x0 x1 x2:Addr×Value} {p:Addr} {v:Value} (h:Gt a w (x0::x1::x2::(p,v)::l) F r b wr):wr.cell? p=some v:=h.cell (by simp)
theorem Gt.c4 {x0 x1 x2 x3:Addr×Value} {p:Addr} {v:Value} (h:Gt a w (x0::x1::x2::x3::(p,v)::l) F r b wr):wr.cell? p=some v:=h.cell (by simp)
theorem Gt.c5 {x0 x1 x2 x3 x4:Addr×Value} {p:Addr} {v:Value} (h:Gt a w (x0::x1::x2::x3::x4::(p,v)::l) F r b wr):wr.cell? p=some v:=h.cell (by simp)
theorem Gt.f0 {q:Nat} (h:Gt a w l (q::F) r b wr):Free q wr:=(h.1.free q (by simp)).1
theorem Gt.len (h:Gt a w l F r b wr):r.length≤900000:=h.1.at_.small
theorem gnum_any (m:Int) (h1 : -9223372036854775808≤m) (h2:m≤9223372036854775807) (h:InC w l F a bs bad) :
  Calls Tryz.prog 71 #[.pointer (some ⟨a,0,none⟩),.int .i64 m] w fun e w'=>∃ (v:Int) (r:List UInt8) (b:Bool),e = .returned (.int .i64 v)∧Hid (Gt a w l F r b w')∧Hid (One numB (NumR m) bs v r b):=by
 refine (inum_any h.at_ m h1 h2).mono fun e w' hh=>?_
 rcases hh with ⟨v,rest,e1,g1,g2,he,hi,hg⟩ | ⟨hno,he,hi,hg⟩
 ·exact⟨v,rest,false,he,⟨h.grown hi hg,hg⟩,.inl ⟨rfl,e1⟩⟩
 ·exact⟨0,[],true,he,⟨h.grown hi hg,hg⟩,.inr ⟨rfl,rfl,fun y z hy=>hno y z hy.1 hy.2⟩⟩
theorem gnum_in (m:Int) (h1 : -9223372036854775808≤m) (h2:m≤9223372036854775807) (h:InC w l F a bs bad) :
  Calls Tryz.prog 71 #[.pointer (some ⟨a,0,none⟩),.int .i64 m] w fun e w'=>∃ (v:Int) (r:List UInt8) (b:Bool),e = .returned (.int .i64 v)∧Hid (Gt a w l F r b w')∧Hid (One numB (NumR m) bs v r b)∧Hid (v=0∨NumR m v):=by
 refine (inum_any h.at_ m h1 h2).mono fun e w' hh=>?_
 rcases hh with ⟨v,rest,e1,g1,g2,he,hi,hg⟩ | ⟨hno,he,hi,hg⟩
 ·exact⟨v,rest,false,he,⟨h.grown hi hg,hg⟩,.inl ⟨rfl,e1⟩,.inr ⟨g1,g2⟩⟩
 ·exact⟨0,[],true,he,⟨h.grown hi hg,hg⟩,.inr ⟨rfl,rfl,fun y z hy=>hno y z hy.1 hy.2⟩,.inl rfl⟩
theorem gtext_any (m:Nat) (hm:m≤1000000) (h:InC w l F a bs bad) :
  Calls Tryz.prog 103 #[.pointer (some ⟨a,0,none⟩),.int .i64 (m:Int)] w fun e w'=>∃ (s:ByteArray) (r:List UInt8) (b:Bool),e = .returned (.string s)∧Hid (Gt a w l F r b w')∧Hid (One txtB (TxtR m) bs s r b):=by
 have e1:∀ s:ByteArray,txtB s=textB s.data.toList:=fun s=>by unfold txtB textB;rw[text_len]
 refine (itext_any h.at_ (m:Int) (by omega) (by omega)).mono fun e w' hh=>?_
 rcases hh with ⟨s,rest,e2,g1,he,hi,hg⟩ | ⟨hno,he,hi,hg⟩
 ·refine⟨strOf s,rest,false,he,⟨h.grown hi hg,hg⟩,.inl ⟨rfl,?_⟩⟩
  rw[e1,strOf_list];exact e2
 ·refine⟨⟨#[]⟩,[],true,he,⟨h.grown hi hg,hg⟩,.inr ⟨rfl,rfl,fun y z hy e2=>?_⟩⟩
  rw[e1]at e2
  have e3:y.data.toList.length=y.size:=by simp
  have hy:y.size≤m:=hy;exact hno _ _ (by omega) e2
theorem gfail_any (h:InC w l F a bs bad):Calls Tryz.prog 93 #[.pointer (some ⟨a,0,none⟩)] w fun e w'=>e = .returned (.tuple #[])∧Hid (Gt a w l F [] true w'):=
 (fail_any h.at_).mono fun _ _ ⟨he,hi,hg⟩=>⟨he,h.grown hi hg,hg⟩
end
end Pk
end Go.Proofs.YtcbpgemiffmieaaGreat
namespace Go.Proofs.YtcbpgemiffmieaaGreat
open Go.ChangeShapes Go.WideShapes Go.ChangeAt Go.RowKit
namespace Sp
def runC (r:Int×Int):List Value:=[.int .i64 r.1,.int .i64 r.2]
def runsC (l:List (Int×Int)):List Value:=l.flatMap runC
theorem runsC_append (a b:List (Int×Int)):runsC (a++b)=runsC a++runsC b:=by simp[runsC]
theorem runsC_len (l:List (Int×Int)):(runsC l).length=l.length*2:=flatMap_len (f:=runC) (fun _=>rfl) l
theorem runsC_one (l:List (Int×Int)):∀ u∈runsC l,u.oneCell'=true:=by
 intro u hu;obtain⟨r,_,hu⟩:=List.mem_flatMap.1 hu;simp[runC]at hu
 rcases hu with rfl | rfl <;> rfl
theorem runsC_at (l:List (Int×Int)) (k:Nat) (h:k<l.length):(runsC l)[k*2]?=some (.int .i64 l[k].1)∧(runsC l)[k*2+1]?=some (.int .i64 l[k].2):=by
 unfold runsC
 induction l generalizing k with
 | nil=>simp at h
 | cons d l ih=>
  cases k with
  | zero=>simp[runC]
  | succ k=>
   have:=ih k (by simpa using h);rw[List.flatMap_cons,show (k+1)*2=(k*2+1)+1 from by omega];simp only[runC,List.cons_append,List.nil_append,List.getElem?_cons_succ,List.getElem_cons_succ];exact this
def intsC (l:List Int):List Value:=l.map fun x=>Value.int .i64 x
theorem intsC_one (l:List Int):∀ u∈intsC l,u.oneCell'=true:=by
 intro u hu;obtain⟨r,_,rfl⟩:=List.mem_map.1 hu;rfl
theorem intsC_at (l:List Int) (k:Nat) (h:k<l.length):(intsC l)[k]?=some (.int .i64 l[k]):=by
 simp[intsC,h]
theorem intsC_append (a b:List Int):intsC (a++b)=intsC a++intsC b:=by simp[intsC]
theorem rd_run {w:World} {B n c:Nat} {A:Option Addr} {l:List (Int×Int)} (h:Rd w B 2 A n c (runsC l)) (hl:l.length=n) {k:Nat} (hk:k<n) :
  ∃ b o,A=some ⟨b,o,none⟩∧b<B∧∀ (k:Nat) (hk:k<l.length),w.cell? ⟨b,o+k*2,none⟩=some (.int .i64 l[k].1)∧w.cell? ⟨b,o+k*2+1,none⟩=some (.int .i64 l[k].2):=by
 obtain⟨b,o,e,hb,hc⟩:=h.at_ (by omega);refine⟨b,o,e,hb,fun k hk=>?_⟩;obtain⟨q0,q1⟩:=runsC_at l k hk;exact⟨hc _ _ q0,by rw[Nat.add_assoc];exact hc _ _ q1⟩
theorem rd_int {w:World} {B n c:Nat} {A:Option Addr} {l:List Int} (h:Rd w B 1 A n c (intsC l)) (_:l.length=n) {k:Nat} (hk:k<n) :
  ∃ b o,A=some ⟨b,o,none⟩∧b<B∧∀ (k:Nat) (hk:k<l.length),w.cell? ⟨b,o+k,none⟩=some (.int .i64 l[k]):=by
 obtain⟨b,o,e,hb,hc⟩:=h.at_ (by omega);exact⟨b,o,e,hb,fun k hk=>hc _ _ (intsC_at l k hk)⟩
theorem info_of {t sz by_:Nat} {z:Value} (h:(Tryz.prog.info? t).map (fun i=>(i.zero,i.size,i.bytes))=some (some z,sz,by_)):∃ i,Tryz.prog.info? t=some i∧i.zero=some z∧i.size=sz∧i.bytes=by_:=by
 cases hi:Tryz.prog.info? t with
 | none=>rw[hi]at h;cases h
 | some i=>
  rw[hi]at h;simp only[Option.map_some,Option.some.injEq,Prod.mk.injEq]at h;exact⟨i,rfl,h.1,h.2.1,h.2.2⟩
theorem infoR:(Tryz.prog.info? 184).map (fun i=>(i.zero,i.size,i.bytes))=some (some (.agg #[.int .i64 0,.int .i64 0]),2,16):=by kernel_rfl
theorem infoP:(Tryz.prog.info? 138).map (fun i=>(i.zero,i.size,i.bytes))=some (some (.agg #[.int .i64 0,.int .i64 0]),2,16):=by kernel_rfl
theorem infoI:(Tryz.prog.info? 2).map (fun i=>(i.zero,i.size,i.bytes))=some (some (.int .i64 0),1,8):=by kernel_rfl
theorem run_push {t e sz by_:Nat} {z:Value} (ht:Tryz.prog.underlying t=some (.slice e)) (hi:(Tryz.prog.info? e).map (fun i=>(i.zero,i.size,i.bytes))=some (some z,sz,by_)) (hzs:z.cells.size=sz) (hsz:0<sz) (hby:by_≤1000000)
  (W:World) (base q:Nat) (hq:W.heap.size=q) (hb:base≤W.heap.size) (v:Value) (n:Nat) (xs:List Value) (hown:W.ownsRow base e sz v n xs) (news:List Value) (m:Nat) (hm:news.length=m*sz) (h1:∀ u∈news,u.oneCell'=true) (hn:n+m≤1000000) :
  ∃ v' w',(Builtin.append_ #[t,t] t #[v,.slice (some ⟨q,0,none⟩) m m]).run Tryz.prog (W.alloc (.cells news.toArray e)) = .ok v' w' ∧
   w'.ownsRow base e sz v' (n+m) (xs++news)∧Below base W w':=by
 subst hq;obtain⟨i0,hi0,hz0,hz1,hz2⟩:=info_of hi
 obtain⟨v',w',h1,h2,h3,h4⟩:=run_app (P:=Tryz.prog) (W.alloc (.cells news.toArray e)) base t t e i0 z sz by_ ht hi0 hz0 hz1 hz2 hzs hsz
  (hown.alloc _) (B:=W.heap.size+1) (A:=some ⟨W.heap.size,0,none⟩) (m:=m) (c:=m) (news:=news)
  ⟨hm,by omega,h1,fun _=>⟨_,_,rfl,by omega,fun j u hu=>by
   rw[Nat.zero_add,cell_of_row _ _ j _ _ (0,0) (heap_alloc_new _ _)]
   simpa using hu⟩⟩ hn hby (by simp;omega)
 exact⟨v',w',h1,h2,((Below.refl base W).alloc hb _).grown h3 (by simp;omega) (fun k hk=>(hown.lt k hk).1)⟩
theorem push_run {t e:Nat} (ht:Tryz.prog.underlying t=some (.slice e)) (hi:(Tryz.prog.info? e).map (fun i=>(i.zero,i.size,i.bytes))=some (some (.agg #[.int .i64 0,.int .i64 0]),2,16))
  (W:World) (base q:Nat) (hq:W.heap.size=q) (hb:base≤W.heap.size) (v:Value) (l:List (Int×Int)) (hown:W.ownsRow base e 2 v l.length (runsC l)) (x y:Int) (hn:l.length≤900000) :
  ∃ A' c' w',(Builtin.append_ #[t,t] t #[v,.slice (some ⟨q,0,none⟩) 1 1]).run Tryz.prog (W.alloc (.cells #[.int .i64 x,.int .i64 y] e)) = .ok (.slice A' (l++[(x,y)]).length c') w' ∧
   Own w' base e 2 A' (l++[(x,y)]).length c' (runsC (l++[(x,y)]))∧Below base W w':=by
 obtain⟨v',w',h1,h2,h3⟩:=run_push ht hi rfl (by omega) (by omega) W base q hq hb v l.length (runsC l) hown [.int .i64 x,.int .i64 y] 1 rfl (by intro u hu;simp at hu;rcases hu with rfl | rfl <;> rfl) (by omega)
 have e1:runsC (l++[(x,y)])=runsC l++[.int .i64 x,.int .i64 y]:=by rw[runsC_append];rfl
 have e2:(l++[(x,y)]).length=l.length+1:=by simp
 rw[← e1,← e2]at h2;obtain⟨A',c',rfl,ho⟩:=Own.of_row h2 (runsC_one _);exact⟨A',c',w',h1,ho,h3⟩
theorem ownsRow_set {w:World} {base e sz n cap g:Nat} {xs:List Value} (h:w.ownsRow base e sz (.slice (some ⟨g,0,none⟩) n cap) n xs) (i:Nat) (u:Value):(w.setCell ⟨g,i,none⟩ u).ownsRow base e sz (.slice (some ⟨g,0,none⟩) n cap) n (xs.set i u):=by
 obtain⟨h1,h2⟩:=h;refine⟨by rw[List.length_set];exact h1,?_⟩
 rcases h2 with ⟨h2,_⟩ | ⟨g',cap',cur,hv,hg,hh,hn,hm,hs,hx⟩
 ·cases h2
 ·injection hv with e1 e2 e3
  injection e1 with e1;injection e1 with e1;subst e1;subst e3;refine .inr ⟨g,cap,cur.setIfInBounds i u,rfl,hg,heap_setCell_same w g i cur e u hh,hn,hm,by simpa using hs,?_⟩;rw[← hx];simp[List.take_set]
theorem Own.place {w:World} {base e sz n c:Nat} {A:Option Addr} {xs:List Value} (h:Own w base e sz A n c xs) (hn:0<n):∃ g,A=some ⟨g,0,none⟩∧base≤g∧g<w.heap.size∧(∀ j,w.frozen? ⟨g,j,none⟩=false)∧∀ j u,xs[j]?=some u→w.cell? ⟨g,j,none⟩=some u:=by
 rcases h.row.2 with ⟨_,h0⟩ | ⟨g,cap,cur,hv,hg,hh,_⟩
 ·omega
 ·injection hv with e1 e2 e3
  subst e1;obtain⟨b,o,e4,hb,hc⟩:=h.rd.at_ hn;injection e4 with e4;injection e4 with e4 e5;subst e4;subst e5;exact⟨g,rfl,hg,hb,fun j=>by simp[World.frozen?,hh],fun j u hu=>by have:=hc j u hu;rwa [Nat.zero_add]at this⟩
theorem own_later {w w':World} {base e sz n c:Nat} {A:Option Addr} {xs:List Value} (h:Own w base e sz A n c xs) (hb:Below w.heap.size w w'):Own w' base e sz A n c xs:=⟨ownsRow_later h.row hb,h.one⟩
instance {base sz n c:Nat} {e:TypeId} {A:Option Addr} {xs:List Value} {v v':World} : Las v v' (Own v base e sz A n c xs) (Own v' base e sz A n c xs):=⟨fun h hb=>own_later h hb⟩
theorem own_close {w:World} {base e n c g:Nat} {done:List (Int×Int)} {s t t':Int} (h:Own w base e 2 (some ⟨g,0,none⟩) n c (runsC (done++[(s,t)]))):Own (w.setCell ⟨g,done.length*2+1,none⟩ (.int .i64 t')) base e 2 (some ⟨g,0,none⟩) n c (runsC (done++[(s,t')])):=by
 have e1:(runsC (done++[(s,t)])).set (done.length*2+1) (.int .i64 t')=runsC (done++[(s,t')]):=by
  have e2:¬done.length*2+1<(runsC done).length:=by rw[runsC_len];omega
  rw[runsC_append,runsC_append,List.set_append,if_neg e2,runsC_len,Nat.add_sub_cancel_left];rfl
 refine⟨?_,runsC_one _⟩;rw[← e1];exact ownsRow_set h.row _ _
end Sp
end Go.Proofs.YtcbpgemiffmieaaGreat
namespace Go.Proofs.YtcbpgemiffmieaaGreat
open Go.ChangeShapes Go.WideShapes Go.ChangeAt Go.RowKit
namespace Rw
open Sp
section
variable {α:Type} {f:α→List Value} {k:Nat}
theorem flat_at (hf:∀ a,(f a).length=k):∀ (l:List α) (i j:Nat) (hi:i<l.length),j<k→(l.flatMap f)[i*k+j]?=(f l[i])[j]?
 | [],i,_,hi,_=>by simp at hi
 | a::l,0,j,_,hj=>by
  rw[List.flatMap_cons,Nat.zero_mul,Nat.zero_add,List.getElem?_append_left (by rw[hf];exact hj)];rfl
 | a::l,i+1,j,hi,hj=>by
  have ih:=flat_at hf l i j (by simpa using hi) hj
  have e:(i+1)*k+j=k+(i*k+j):=by rw[Nat.succ_mul];omega
  rw[List.flatMap_cons,e,List.getElem?_append_right (by rw[hf];omega),hf,Nat.add_sub_cancel_left,ih];rfl
theorem rd_elem (hf:∀ a,(f a).length=k) {w:World} {B n c:Nat} {A:Option Addr} {l:List α} (h:Rd w B k A n c (l.flatMap f)) {m:Nat} (hm:m<n) :
  ∃ b o,A=some ⟨b,o,none⟩∧b<B∧∀ (i:Nat) (hi:i<l.length) (j:Nat) (u:Value),(f l[i])[j]?=some u→w.cell? ⟨b,o+i*k+j,none⟩=some u:=by
 obtain⟨b,o,e,hb,hc⟩:=h.at_ (by omega);refine⟨b,o,e,hb,fun i hi j u hu=>?_⟩
 have hj:j<k:=by
  have:=(List.getElem?_eq_some_iff.1 hu).1
  rwa [hf]at this
 rw[Nat.add_assoc];exact hc _ _ ((flat_at hf l i j hi hj).trans hu)
theorem push (hf:∀ a,(f a).length=k) (h1:∀ a,∀ u∈f a,u.oneCell'=true) {t e by_:Nat} {z:Value} (ht:Tryz.prog.underlying t=some (.slice e)) (hi:(Tryz.prog.info? e).map (fun i=>(i.zero,i.size,i.bytes))=some (some z,k,by_)) (hzs:z.cells.size=k) (hk:0<k) (hby:by_≤1000000)
  (W:World) (base q:Nat) (hq:W.heap.size=q) (hb:base≤W.heap.size) (v:Value) (l:List α) (hown:W.ownsRow base e k v l.length (l.flatMap f)) (a:α) (cs:Array Value) (hcs:cs=(f a).toArray) (hn:l.length≤900000) :
  ∃ A' c' w',(Builtin.append_ #[t,t] t #[v,.slice (some ⟨q,0,none⟩) 1 1]).run Tryz.prog (W.alloc (.cells cs e)) = .ok (.slice A' (l++[a]).length c') w' ∧
   Own w' base e k A' (l++[a]).length c' ((l++[a]).flatMap f)∧Below base W w':=by
 subst hcs;obtain⟨v',w',r1,r2,r3⟩:=run_push ht hi hzs hk hby W base q hq hb v l.length (l.flatMap f) hown (f a) 1 (by rw[hf,Nat.one_mul]) (h1 a) (by omega)
 have e1:(l++[a]).flatMap f=l.flatMap f++f a:=by simp
 have e2:(l++[a]).length=l.length+1:=by simp
 rw[← e1,← e2]at r2
 obtain⟨A',c',rfl,ho⟩:=Own.of_row r2 (fun u hu=>by
  obtain⟨b,_,hu⟩:=List.mem_flatMap.1 hu
  exact h1 b u hu)
 exact⟨A',c',w',r1,ho,r3⟩
end
def spC (s:Int×Int×Int):List Value:=[.int .i64 s.1,.int .i64 s.2.1,.int .i64 s.2.2]
theorem spC_len (s:Int×Int×Int):(spC s).length=3:=rfl
theorem spC_one (s:Int×Int×Int):∀ u∈spC s,u.oneCell'=true:=by
 intro u hu;simp[spC]at hu
 rcases hu with rfl | rfl | rfl <;> rfl
def spsC (l:List (Int×Int×Int)):List Value:=l.flatMap spC
theorem rd_span {w:World} {B n c:Nat} {A:Option Addr} {l:List (Int×Int×Int)} (h:Rd w B 3 A n c (spsC l)) {m:Nat} (hm:m<n) :
  ∃ b o,A=some ⟨b,o,none⟩∧b<B∧∀ (i:Nat) (hi:i<l.length),w.cell? ⟨b,o+i*3,none⟩=some (.int .i64 l[i].1)∧w.cell? ⟨b,o+i*3+1,none⟩=some (.int .i64 l[i].2.1)∧w.cell? ⟨b,o+i*3+2,none⟩=some (.int .i64 l[i].2.2):=by
 obtain⟨b,o,e,hb,hc⟩:=rd_elem spC_len h hm;exact⟨b,o,e,hb,fun i hi=>⟨hc i hi 0 _ rfl,hc i hi 1 _ rfl,hc i hi 2 _ rfl⟩⟩
end Rw
end Go.Proofs.YtcbpgemiffmieaaGreat
namespace Go.Proofs.YtcbpgemiffmieaaGreat
open Go.ChangeShapes Go.WideShapes Go.ChangeAt Go.RowKit
namespace Rw
open Sp
structure SV where
 A:Option Addr
 n:Nat
 c:Nat
def SV.val (s:SV):Value:=.slice s.A s.n s.c
def sv0:SV:=⟨none,0,0⟩
def upd {α:Type} (f:Nat→α) (d:Nat) (x:α) (i:Nat):α:=if i=d then x else f i
theorem upd_same {α:Type} (f:Nat→α) (d:Nat) (x:α):upd f d x d=x:=by simp[upd]
theorem upd_other {α:Type} (f:Nat→α) {d i:Nat} (x:α) (h:i≠d):upd f d x i=f i:=by simp[upd,h]
structure Rows4 (W:World) (base e sz g:Nat) (s:Nat→SV) (q:Nat→List Value):Prop where
 low:g<base
 high:base≤W.heap.size
 free:Free g W
 cell:∀ d,d<4→W.cell? ⟨g,d,none⟩=some (.slice (s d).A (s d).n (s d).c)
 own:∀ d,d<4→Own W base e sz (s d).A (s d).n (s d).c (q d)
 apart:∀ d d',d<4→d'<4→d≠d'→∀ b,(s d).val.ownBlock=some b→(s d').val.ownBlock≠some b
namespace Rows4
variable {W:World} {base e sz g:Nat} {s:Nat→SV} {q:Nat→List Value}
theorem later {W':World} (h:Rows4 W base e sz g s q) (hb:Below W.heap.size W W'):Rows4 W' base e sz g s q:=
 ⟨h.low,Nat.le_trans h.high hb.size,h.free.later hb,fun d hd=>(hb.cell (p:=⟨g,d,none⟩) h.free.1).trans (h.cell d hd),fun d hd=>own_later (h.own d hd) hb,h.apart⟩
theorem nil {W:World} {base e sz g:Nat} (low:g<base) (high:base≤W.heap.size) (free:Free g W) (c:∀ d,d<4→W.cell? ⟨g,d,none⟩=some (.slice none 0 0)):Rows4 W base e sz g (fun _=>sv0) (fun _=>[]):=
 ⟨low,high,free,c,fun _ _=>⟨World.ownsRow_nil _ _ _ _,by simp⟩,fun _ _ _ _ _ b h=>by simp[sv0,SV.val,Value.ownBlock]at h⟩
theorem lt (h:Rows4 W base e sz g s q) {d b:Nat} (hd:d<4) (hb:(s d).val.ownBlock=some b):base≤b∧b<W.heap.size:=(h.own d hd).row.lt b hb
theorem rd (h:Rows4 W base e sz g s q) {d:Nat} (hd:d<4):Rd W W.heap.size sz (s d).A (s d).n (s d).c (q d):=(h.own d hd).rd
theorem push {t by_:Nat} {z:Value} (ht:Tryz.prog.underlying t=some (.slice e)) (hi:(Tryz.prog.info? e).map (fun i=>(i.zero,i.size,i.bytes))=some (some z,sz,by_)) (hzs:z.cells.size=sz) (hsz:0<sz) (hby:by_≤1000000)
  (h:Rows4 W base e sz g s q) {d:Nat} (hd:d<4) (p:Nat) (hp:W.heap.size=p) (news:List Value) (hm:news.length=1*sz) (h1:∀ u∈news,u.oneCell'=true) (hn:(s d).n≤900000) :
  ∃ A' c' w',(Builtin.append_ #[t,t] t #[.slice (s d).A (s d).n (s d).c,.slice (some ⟨p,0,none⟩) 1 1]).run Tryz.prog (W.alloc (.cells news.toArray e)) = .ok (.slice A' ((s d).n+1) c') w' ∧
   (∀ b,(s d).val.ownBlock≠some b→b<W.heap.size→∀ j,w'.cell? ⟨b,j,none⟩=W.cell? ⟨b,j,none⟩)∧Free g w'∧Below base W w' ∧
   Rows4 (w'.setCell ⟨g,d,none⟩ (.slice A' ((s d).n+1) c')) base e sz g (upd s d ⟨A',(s d).n+1,c'⟩) (upd q d (q d++news)):=by
 subst hp;obtain⟨i0,hi0,hz0,hz1,hz2⟩:=info_of hi;have hown:=(h.own d hd).row
 obtain⟨v',w',r1,r2,r3,r4⟩:=run_app (P:=Tryz.prog) (W.alloc (.cells news.toArray e)) base t t e i0 z sz by_ ht hi0 hz0 hz1 hz2 hzs hsz
  (hown.alloc _) (B:=W.heap.size+1) (A:=some ⟨W.heap.size,0,none⟩) (m:=1) (c:=1) (news:=news)
  ⟨hm,by omega,h1,fun _=>⟨_,_,rfl,by omega,fun j u hu=>by
   rw[Nat.zero_add,cell_of_row _ _ j _ _ (0,0) (heap_alloc_new _ _)]
   simpa using hu⟩⟩ (by omega) hby (by have:=h.high;simp;omega)
 obtain⟨A',c',rfl,ho⟩:=Own.of_row r2 (fun u hu=>by
  rcases List.mem_append.1 hu with hu | hu
  ·exact (h.own d hd).one u hu
  ·exact h1 u hu)
 have hblk:∀ b,(s d).val.ownBlock≠some b→b<W.heap.size→w'.heap[b]?=W.heap[b]?:=fun b hb hlt=>
  (r3.block b (by simp;omega) (fun e=>hb e.symm)).trans (heap_alloc_old W _ hlt)
 have hsize:W.heap.size≤w'.heap.size:=by have:=r3.size;simp at this;omega
 have hgd:∀ d',d'<4→(s d').val.ownBlock≠some g:=fun d' hd' hb=>by have:=(h.lt hd' hb).1;have:=h.low;omega
 have hfree:Free g w':=⟨Nat.lt_of_lt_of_le h.free.1 hsize,fun j=>(World.frozen?_of_block (a:=⟨g,j,none⟩) (hblk g (hgd d hd) h.free.1)).trans (h.free.2 j)⟩;have hbel:Below base W w':=((Below.refl base W).alloc h.high _).grown r3 (by have:=h.high;simp;omega) (fun k hk=>(h.lt hd hk).1)
 have hnewb:∀ b,(SV.val ⟨A',(s d).n+1,c'⟩).ownBlock=some b→b=W.heap.size+1∨(s d).val.ownBlock=some b:=fun b hb=>by
  rcases r4 with r4 | r4
  ·exact .inr (r4.symm.trans hb)
  ·have:some b=some (W.alloc (.cells news.toArray e)).heap.size:=hb.symm.trans r4
   injection this with this
   simp at this
   exact .inl this
 refine⟨A',c',w',r1,fun b hb hlt j=>World.cell?_of_block (a:=⟨b,j,none⟩) (hblk b hb hlt),hfree,hbel,⟨h.low,by have:=h.high;simpa [World.setCell] using Nat.le_trans this hsize,hfree.set _ _,?_,?_,?_⟩⟩
 ·intro d' hd'
  by_cases he:d'=d
  ·subst he
   rw[upd_same];have k0:w'.cell? ⟨g,d',none⟩=some (.slice (s d').A (s d').n (s d').c):=(World.cell?_of_block (a:=⟨g,d',none⟩) (hblk g (hgd d' hd) h.free.1)).trans (h.cell d' hd);have m0:=hfree.2 d';go_simp
  ·rw[upd_other _ _ he]
   rw[World.cell?_setCell_other w' ⟨g,d,none⟩ ⟨g,d',none⟩ _ (fun e=>by injection e with _ e;exact he e.symm)];exact (World.cell?_of_block (a:=⟨g,d',none⟩) (hblk g (hgd d hd) h.free.1)).trans (h.cell d' hd')
 ·intro d' hd'
  by_cases he:d'=d
  ·subst he
   rw[upd_same,upd_same];exact ho.set_below (a:=⟨g,d',none⟩) h.low _
  ·rw[upd_other _ _ he,upd_other _ _ he]
   refine Own.set_below ⟨?_,(h.own d' hd').one⟩ (a:=⟨g,d,none⟩) h.low _;refine ((h.own d' hd').row.alloc _).kept r3 ?_
   cases hv:(s d').val.ownBlock with
   | none=>exact .inl hv
   | some b=>exact .inr (fun e=>h.apart d' d hd' hd he b hv (e.symm.trans hv))
 ·intro d1 d2 h1 h2 hne b hb
  by_cases e1:d1=d
  ·subst e1
   rw[upd_same]at hb;rw[upd_other _ _ (Ne.symm hne)];intro hb2
   rcases hnewb b hb with hb' | hb'
   ·have:=(h.lt h2 hb2).2;omega
   ·exact h.apart d1 d2 h1 h2 hne b hb' hb2
  ·rw[upd_other _ _ e1]at hb
   by_cases e2:d2=d
   ·subst e2
    rw[upd_same];intro hb2
    rcases hnewb b hb2 with hb' | hb'
    ·have:=(h.lt h1 hb).2;omega
    ·exact h.apart d1 d2 h1 h2 hne b hb hb'
   ·rw[upd_other _ _ e2]
    exact h.apart d1 d2 h1 h2 hne b hb
end Rows4
end Rw
end Go.Proofs.YtcbpgemiffmieaaGreat
namespace Go.Proofs.YtcbpgemiffmieaaGreat
open Go.ChangeShapes Go.WideShapes Go.ChangeAt Go.RowKit
namespace Tr
open Rw
def entC (e:E):List Value:=[.int .i64 e.a,.int .i64 e.n,.string e.s,.int .i64 e.v]
theorem entC_len (e:E):(entC e).length=4:=rfl
theorem entC_one (e:E):∀ u∈entC e,u.oneCell'=true:=by
 intro u hu;simp[entC]at hu
 rcases hu with rfl | rfl | rfl | rfl <;> rfl
def entsC (l:List E):List Value:=l.flatMap entC
theorem at_lt {ks:List (ByteArray×T)} {i:Nat} (h:i<ks.length) (es:List E):SizeOf.sizeOf (ks[i]).2<SizeOf.sizeOf (T.mk es ks):=kid_lt (List.getElem_mem h)
def RdT (w:World) (B:Nat):T→SV→SV→Prop
 | .mk es ks,se,sk=>es.length=se.n∧Rd w B 4 se.A se.n se.c (entsC es)∧ks.length=sk.n∧∃ xs:List Value,Rd w B 3 sk.A sk.n sk.c xs ∧
   ∀ (i:Nat) (h:i<ks.length),∃ se' sk':SV,xs[i*3]?=some (.string (ks[i]).1)∧xs[i*3+1]?=some (.slice se'.A se'.n se'.c)∧xs[i*3+2]?=some (.slice sk'.A sk'.n sk'.c)∧RdT w B (ks[i]).2 se' sk'
termination_by t=>SizeOf.sizeOf t
decreasing_by exact at_lt h es
theorem rdT_mk (w:World) (B:Nat) (es:List E) (ks:List (ByteArray×T)) (se sk:SV):RdT w B (.mk es ks) se sk↔(es.length=se.n∧Rd w B 4 se.A se.n se.c (entsC es)∧ks.length=sk.n∧∃ xs:List Value,Rd w B 3 sk.A sk.n sk.c xs ∧
   ∀ (i:Nat) (h:i<ks.length),∃ se' sk':SV,xs[i*3]?=some (.string (ks[i]).1)∧xs[i*3+1]?=some (.slice se'.A se'.n se'.c)∧xs[i*3+2]?=some (.slice sk'.A sk'.n sk'.c)∧RdT w B (ks[i]).2 se' sk'):=by
 rw[RdT]
theorem RdT.keep {w w':World} {B:Nat} (hk:∀ p:Addr,p.block<B→w'.cell? p=w.cell? p):∀ (t:T) {se sk:SV},RdT w B t se sk→RdT w' B t se sk:=by
 intro t
 induction t using T.ind with
 | h es ks ih=>
  intro se sk h;rw[rdT_mk]at h ⊢;obtain⟨h1,h2,h3,xs,h4,h5⟩:=h;refine⟨h1,h2.keep hk,h3,xs,h4.keep hk,fun i hi=>?_⟩;obtain⟨se',sk',e1,e2,e3,e4⟩:=h5 i hi;exact⟨se',sk',e1,e2,e3,ih _ (List.getElem_mem hi) e4⟩
theorem RdT.more {w:World} {B B':Nat} (hB:B≤B'):∀ (t:T) {se sk:SV},RdT w B t se sk→RdT w B' t se sk:=by
 intro t
 induction t using T.ind with
 | h es ks ih=>
  intro se sk h;rw[rdT_mk]at h ⊢;obtain⟨h1,h2,h3,xs,h4,h5⟩:=h;refine⟨h1,h2.more hB,h3,xs,h4.more hB,fun i hi=>?_⟩;obtain⟨se',sk',e1,e2,e3,e4⟩:=h5 i hi;exact⟨se',sk',e1,e2,e3,ih _ (List.getElem_mem hi) e4⟩
theorem RdT.below {w w':World} {B:Nat} {t:T} {se sk:SV} (h:RdT w B t se sk) (hb:Below B w w'):RdT w' B t se sk:=RdT.keep (fun _ hp=>hb.cell hp) t h
theorem RdT.later {w w':World} {t:T} {se sk:SV} (h:RdT w w.heap.size t se sk) (hb:Below w.heap.size w w'):RdT w' w'.heap.size t se sk:=RdT.more hb.size t (h.below hb)
instance {t:T} {se sk:SV} {v v':World} : Las v v' (RdT v v.heap.size t se sk) (RdT v' v'.heap.size t se sk):=⟨fun h hb=>RdT.later h hb⟩
theorem RdT.none (w:World) (B c c':Nat):RdT w B none_ ⟨none,0,c⟩ ⟨none,0,c'⟩:=by
 unfold none_;rw[rdT_mk];exact⟨rfl,Rd.nil _,rfl,[],Rd.nil _,fun i hi=>by simp at hi⟩
theorem rd_ent {w:World} {B:Nat} {es:List E} {ks:List (ByteArray×T)} {Ae Ak:Option Addr} {ne nk ce ck:Nat} (h:RdT w B (.mk es ks) ⟨Ae,ne,ce⟩ ⟨Ak,nk,ck⟩) (hn:0<ne) :
  ∃ b o,Ae=some ⟨b,o,none⟩∧b<B∧∀ (i:Nat) (hi:i<es.length),w.cell? ⟨b,o+i*4,none⟩=some (.int .i64 es[i].a)∧w.cell? ⟨b,o+i*4+1,none⟩=some (.int .i64 es[i].n)∧w.cell? ⟨b,o+i*4+2,none⟩=some (.string es[i].s)∧w.cell? ⟨b,o+i*4+3,none⟩=some (.int .i64 es[i].v):=by
 rw[rdT_mk]at h;obtain⟨b,o,e,hb,hc⟩:=rd_elem entC_len h.2.1 hn;exact⟨b,o,e,hb,fun i hi=>⟨hc i hi 0 _ rfl,hc i hi 1 _ rfl,hc i hi 2 _ rfl,hc i hi 3 _ rfl⟩⟩
theorem rd_kid {w:World} {B:Nat} {es:List E} {ks:List (ByteArray×T)} {Ae Ak:Option Addr} {ne nk ce ck:Nat} (h:RdT w B (.mk es ks) ⟨Ae,ne,ce⟩ ⟨Ak,nk,ck⟩) (hn:0<nk) :
  ∃ b o,Ak=some ⟨b,o,none⟩∧b<B∧∀ (i:Nat) (hi:i<ks.length),∃ se' sk':SV,w.cell? ⟨b,o+i*3,none⟩=some (.string (ks[i]).1)∧w.cell? ⟨b,o+i*3+1,none⟩=some (.slice se'.A se'.n se'.c)∧w.cell? ⟨b,o+i*3+2,none⟩=some (.slice sk'.A sk'.n sk'.c)∧RdT w B (ks[i]).2 se' sk':=by
 rw[rdT_mk]at h;obtain⟨_,_,_,xs,h4,h5⟩:=h;obtain⟨b,o,e,hb,hc⟩:=h4.at_ hn;refine⟨b,o,e,hb,fun i hi=>?_⟩;obtain⟨se',sk',e1,e2,e3,e4⟩:=h5 i hi;refine⟨se',sk',hc _ _ e1,?_,?_,e4⟩
 ·rw[Nat.add_assoc];exact hc _ _ e2
 ·rw[Nat.add_assoc];exact hc _ _ e3
theorem rd_lens {w:World} {B:Nat} {es:List E} {ks:List (ByteArray×T)} {Ae Ak:Option Addr} {ne nk ce ck:Nat} (h:RdT w B (.mk es ks) ⟨Ae,ne,ce⟩ ⟨Ak,nk,ck⟩):es.length=ne∧ks.length=nk:=by
 rw[rdT_mk]at h;exact⟨h.1,h.2.2.1⟩
def ksum (f:ByteArray×T→Nat) (ks:List (ByteArray×T)) (k:Nat):Nat:=((ks.take k).map f).sum
theorem ksum_zero (f:ByteArray×T→Nat) (ks:List (ByteArray×T)):ksum f ks 0=0:=rfl
theorem ksum_succ (f:ByteArray×T→Nat) {ks:List (ByteArray×T)} {k:Nat} (h:k<ks.length):ksum f ks (k+1)=ksum f ks k+f ks[k]:=by
 unfold ksum;rw[List.take_succ_eq_append_getElem h];simp only[List.map_append,List.sum_append,List.map_cons,List.map_nil,List.sum_cons,List.sum_nil,Nat.add_zero]
theorem ksum_all (f:ByteArray×T→Nat) {ks:List (ByteArray×T)} {n:Nat} (h:ks.length=n):ksum f ks n=(ks.map f).sum:=by
 unfold ksum;rw[List.take_of_length_le (by omega)]
theorem ksum_le (f:ByteArray×T→Nat) (ks:List (ByteArray×T)) (k:Nat):ksum f ks k≤(ks.map f).sum:=by
 unfold ksum
 conv=>rhs;rw[← List.take_append_drop k ks]
 rw[List.map_append,List.sum_append];omega
end Tr
end Go.Proofs.YtcbpgemiffmieaaGreat
namespace Go.Proofs.YtcbpgemiffmieaaGreat
namespace Tr
open Classical
theorem rise_of {α:Type} {lt:α→α→Prop} (tr:∀ a b c,lt a b→lt b c→lt a c) {l:List α} (h:∀ (i:Nat) (_:0<i) (hi:i<l.length),lt (l[i-1]'(by omega)) l[i]):l.Pairwise lt:=by
 rw[List.pairwise_iff_getElem];intro i j hi hj hij
 induction j with
 | zero=>omega
 | succ j ih=>
  have h1:=h (j+1) (by omega) hj
  have e:j+1-1=j:=by omega
  simp only[e]at h1
  rcases Nat.lt_or_ge i j with hlt | hge
  ·exact tr _ _ _ (ih (by omega) hlt) h1
  ·have:i=j:=by omega
   subst this;exact h1
def GoodE (es:List E) (k:Nat):Prop:=∀ (i:Nat) (h:i<es.length),i<k→RightE es[i]∧(0<i→ltE (es[i-1]'(by omega)) es[i])
def OkK (d:Nat) (ks:List (ByteArray×T)) (i:Nat) (h:i<ks.length):Prop:=KeyOk (ks[i]).1∧(0<i→ltS (ks[i-1]'(by omega)).1 (ks[i]).1)∧¬((ks[i]).2.es=[]∧(ks[i]).2.ks=[])∧RightT d (ks[i]).2
def GoodK (d:Nat) (ks:List (ByteArray×T)) (k:Nat):Prop:=∀ (i:Nat) (h:i<ks.length),i<k→OkK d ks i h
theorem GoodE.zero (es:List E):GoodE es 0:=fun _ _ h=>absurd h (Nat.not_lt_zero _)
theorem GoodK.zero (d:Nat) (ks:List (ByteArray×T)):GoodK d ks 0:=fun _ _ h=>absurd h (Nat.not_lt_zero _)
theorem GoodE.succ {es:List E} {k:Nat} (h:GoodE es k) (hk:k<es.length) (h1:RightE es[k]) (h2:0<k→ltE (es[k-1]'(by omega)) es[k]):GoodE es (k+1):=fun i hi hlt=>by
 by_cases he:i=k
 ·subst he;exact⟨h1,h2⟩
 ·exact h i hi (by omega)
theorem GoodK.succ {d:Nat} {ks:List (ByteArray×T)} {k:Nat} (h:GoodK d ks k) (hk:k<ks.length) (h1:OkK d ks k hk):GoodK d ks (k+1):=fun i hi hlt=>by
 by_cases he:i=k
 ·subst he;exact h1
 ·exact h i hi (by omega)
theorem right_iff (d:Nat) (es:List E) (ks:List (ByteArray×T)):RightT (d+1) (.mk es ks)↔GoodE es es.length∧GoodK d ks ks.length:=by
 constructor
 ·rintro⟨h1,h2,h3,h4⟩
  refine⟨fun i hi _=>⟨h1 _ (List.getElem_mem hi),fun h0=>List.pairwise_iff_getElem.1 h2 (i-1) i (by omega) hi (by omega)⟩,fun i hi _=>?_⟩;obtain⟨k1,k2,k3⟩:=h4 _ (List.getElem_mem hi);exact⟨k1,fun h0=>List.pairwise_iff_getElem.1 h3 (i-1) i (by omega) hi (by omega),k2,k3⟩
 ·rintro⟨h1,h2⟩
  refine⟨fun e he=>?_,rise_of (lt:=ltE) (fun _ _ _=>ltE_tr) fun i h0 hi=>(h1 i hi hi).2 h0,?_,fun k hk=>?_⟩
  ·obtain⟨i,hi,rfl⟩:=List.getElem_of_mem he
   exact (h1 i hi hi).1
  ·refine rise_of (lt:=fun x y:ByteArray×T=>ltS x.1 y.1) (fun _ _ _=>tot_str.tr _ _ _) fun i h0 hi=>(h2 i hi hi).2.1 h0
  ·obtain⟨i,hi,rfl⟩:=List.getElem_of_mem hk
   obtain⟨k1,_,k2,k3⟩:=h2 i hi hi;exact⟨k1,k2,k3⟩
noncomputable def rightB (d:Nat) (t:T):Bool:=decide (RightT d t)
theorem rightB_zero (t:T):rightB 0 t=false:=decide_eq_false (by intro h;cases t;exact h)
theorem rightB_yes {d:Nat} {es:List E} {ks:List (ByteArray×T)} (h1:GoodE es es.length) (h2:GoodK d ks ks.length):rightB (d+1) (.mk es ks)=true:=decide_eq_true ((right_iff d es ks).2 ⟨h1,h2⟩)
theorem rightB_noE {d:Nat} {es:List E} {ks:List (ByteArray×T)} (k:Nat) (hk:k<es.length) (h:¬(RightE es[k]∧(0<k→ltE (es[k-1]'(by omega)) es[k]))):rightB (d+1) (.mk es ks)=false:=
 decide_eq_false fun hr=>h (((right_iff d es ks).1 hr).1 k hk hk)
theorem rightB_noK {d:Nat} {es:List E} {ks:List (ByteArray×T)} (k:Nat) (hk:k<ks.length) (h:¬OkK d ks k hk):rightB (d+1) (.mk es ks)=false:=
 decide_eq_false fun hr=>h (((right_iff d es ks).1 hr).2 k hk hk)
theorem rightB_iff {d:Nat} {t:T} : rightB d t=true↔RightT d t:=decide_eq_true_iff
end Tr
end Go.Proofs.YtcbpgemiffmieaaGreat
namespace Go.Proofs.YtcbpgemiffmieaaGreat
open Go.ChangeShapes Go.WideShapes Go.ChangeAt Go.RowKit
namespace Dt
theorem nan_int (a:Int) (w:World):Calls Tryz.prog 156 #[.int .i64 a] w fun e w'=>e = .returned (.bool false)∧w=w':=by
 have f1:(a != a)=false:=by simp
 go_enter Tryz.func156,Tryz.ntmps156;go_wp2;go_ret;exact⟨rfl,rfl⟩
theorem nan_int64 (a:Int) (w:World):Calls Tryz.prog 157 #[.int .i64 a] w fun e w'=>e = .returned (.bool false)∧w=w':=by
 have f1:(a != a)=false:=by simp
 go_enter Tryz.func157,Tryz.ntmps157;go_wp2;go_ret;exact⟨rfl,rfl⟩
theorem cmp_int (a b:Int) (w:World):Calls Tryz.prog 145 #[.int .i64 a,.int .i64 b] w fun e w'=>e = .returned (.int .i64 (cmp1 a b))∧w=w':=by
 rcases Int.lt_trichotomy a b with h | rfl | h
 ·rw[cmp1_lt h]
  have f1:decide (a<b)=true:=by simpa using h
  go_enter Tryz.func145,Tryz.ntmps145;go_wp2_with (go_at_call 156;refine (nan_int _ _).mono ?_;rintro e w' ⟨rfl,rfl⟩);go_ret;exact⟨rfl,rfl⟩
 ·rw[cmp1_eq]
  have f1:decide (a<a)=false:=by simp
  go_enter Tryz.func145,Tryz.ntmps145;go_wp2_with (go_at_call 156;refine (nan_int _ _).mono ?_;rintro e w' ⟨rfl,rfl⟩);go_ret;exact⟨rfl,rfl⟩
 ·rw[cmp1_gt h]
  have f1:decide (a<b)=false:=by simp;omega
  have f2:decide (b<a)=true:=by simpa using h
  go_enter Tryz.func145,Tryz.ntmps145;go_wp2_with (go_at_call 156;refine (nan_int _ _).mono ?_;rintro e w' ⟨rfl,rfl⟩);go_ret;exact⟨rfl,rfl⟩
theorem cmp_int64 (a b:Int) (w:World):Calls Tryz.prog 146 #[.int .i64 a,.int .i64 b] w fun e w'=>e = .returned (.int .i64 (cmp1 a b))∧w=w':=by
 rcases Int.lt_trichotomy a b with h | rfl | h
 ·rw[cmp1_lt h]
  have f1:decide (a<b)=true:=by simpa using h
  go_enter Tryz.func146,Tryz.ntmps146;go_wp2_with (go_at_call 157;refine (nan_int64 _ _).mono ?_;rintro e w' ⟨rfl,rfl⟩);go_ret;exact⟨rfl,rfl⟩
 ·rw[cmp1_eq]
  have f1:decide (a<a)=false:=by simp
  go_enter Tryz.func146,Tryz.ntmps146;go_wp2_with (go_at_call 157;refine (nan_int64 _ _).mono ?_;rintro e w' ⟨rfl,rfl⟩);go_ret;exact⟨rfl,rfl⟩
 ·rw[cmp1_gt h]
  have f1:decide (a<b)=false:=by simp;omega
  have f2:decide (b<a)=true:=by simpa using h
  go_enter Tryz.func146,Tryz.ntmps146;go_wp2_with (go_at_call 157;refine (nan_int64 _ _).mono ?_;rintro e w' ⟨rfl,rfl⟩);go_ret;exact⟨rfl,rfl⟩
theorem or_two (g:Nat) (x y:Int) (w:World) (h0:w.cell? ⟨g,0,none⟩=some (.int .i64 x)) (h1:w.cell? ⟨g,1,none⟩=some (.int .i64 y)) :
  Calls Tryz.prog 144 #[.slice (some ⟨g,0,none⟩) 2 2] w fun e w'=>e = .returned (.int .i64 (if x=0 then y else x))∧w=w':=by
 by_cases hx:x=0
 ·rw[if_pos hx]
  subst hx
  by_cases hy:y=0
  ·subst hy
   go_enter Tryz.func144,Tryz.ntmps144;go_wp2
   go_loop [8] (fun i=>∃ k:Nat,k≤2∧i = .int .i64 k) (fun i=>2-(intOf i).toNat)
   case atStart=>exact⟨0,by omega,rfl⟩
   case round=>
    obtain⟨k,hk,rfl⟩:=hrel
    rcases (by omega:k=0∨k=1∨k=2)with rfl | rfl | rfl
    ·go_wp2
     go_round
     case rel=>exact⟨1,by omega,rfl⟩
     case measure=>simp[intOf]
    ·go_wp2
     go_round
     case rel=>exact⟨2,by omega,rfl⟩
     case measure=>simp[intOf]
    ·go_wp2
     go_ret;exact⟨rfl,rfl⟩
  ·have f1:(y != 0)=true:=by simpa using hy
   go_enter Tryz.func144,Tryz.ntmps144;go_wp2
   go_loop [8] (fun i=>∃ k:Nat,k≤1∧i = .int .i64 k) (fun i=>2-(intOf i).toNat)
   case atStart=>exact⟨0,by omega,rfl⟩
   case round=>
    obtain⟨k,hk,rfl⟩:=hrel
    rcases (by omega:k=0∨k=1)with rfl | rfl
    ·go_wp2
     go_round
     case rel=>exact⟨1,by omega,rfl⟩
     case measure=>simp[intOf]
    ·go_wp2
     go_ret;exact⟨rfl,rfl⟩
 ·rw[if_neg hx]
  have f1:(x != 0)=true:=by simpa using hx
  go_enter Tryz.func144,Tryz.ntmps144;go_wp2
  go_loop [8] (fun i=>i = .int .i64 0) (fun i=>2-(intOf i).toNat)
  case atStart=>rfl
  case round=>
   subst hrel;go_wp2;go_ret;exact⟨rfl,rfl⟩
theorem box2_below (w:World) (x y:Array Value) (t u:TypeId):Below w.heap.size w ((w.alloc (.cells x t)).alloc (.cells y u)):=((Below.refl _ _).alloc (Nat.le_refl _) _).alloc (by simp) _
set_option maxRecDepth 100000 in
set_option maxHeartbeats 400000 in
theorem less_any (a n b m:Int) (w:World):Calls Tryz.prog 121 #[.agg #[.int .i64 a,.int .i64 n],.agg #[.int .i64 b,.int .i64 m]] w fun e w'=>e = .returned (.bool (lessB a n b m))∧Below w.heap.size w w':=by
 by_cases h0:a=b
 ·subst h0
  have g0:(a != a)=false:=by simp
  by_cases h1:n<m
  ·have f1:decide (n<m)=true:=by simpa using h1
   go_enter Tryz.func121,Tryz.ntmps121;go_wp2;go_ret;exact⟨ret_bool (by unfold lessB;simp;omega),box2_below _ _ _ _ _⟩
  ·have f1:decide (n<m)=false:=by simp;omega
   go_enter Tryz.func121,Tryz.ntmps121;go_wp2;go_ret;exact⟨ret_bool (by unfold lessB;simp;omega),box2_below _ _ _ _ _⟩
 ·have g0:(a != b)=true:=by simpa using h0
  by_cases h1:a<b
  ·have f1:decide (a<b)=true:=by simpa using h1
   go_enter Tryz.func121,Tryz.ntmps121;go_wp2;go_ret;exact⟨ret_bool (by unfold lessB;simp;omega),box2_below _ _ _ _ _⟩
  ·have f1:decide (a<b)=false:=by simp;omega
   go_enter Tryz.func121,Tryz.ntmps121;go_wp2;go_ret;exact⟨ret_bool (by unfold lessB;simp;omega),box2_below _ _ _ _ _⟩
theorem cmpI_or (a n b m:Int):(if cmp1 a b=0 then cmp1 n m else cmp1 a b)=cmpI a n b m:=by
 unfold cmp1 cmpI
 repeat' split
 all_goals omega
set_option maxRecDepth 100000 in
set_option maxHeartbeats 400000 in
theorem compare_any (a n b m:Int) (w:World):Calls Tryz.prog 128 #[.agg #[.int .i64 a,.int .i64 n],.agg #[.int .i64 b,.int .i64 m]] w fun e w'=>e = .returned (.int .i64 (cmpI a n b m))∧Below w.heap.size w w':=by
 have HC:=Lib.hid (cmpI_or a n b m);obtain⟨x,hx⟩:∃ x,x=cmp1 a b:=⟨_,rfl⟩;obtain⟨y,hy⟩:∃ y,y=cmp1 n m:=⟨_,rfl⟩;rw[← hx,← hy]at HC
 have H1:∀ W,Hid (Calls Tryz.prog 145 #[.int .i64 a,.int .i64 b] W fun e w'=>e = .returned (.int .i64 x)∧w'=W):=fun W=>by rw[hx];exact (cmp_int a b W).mono fun _ _ h=>⟨h.1,h.2.symm⟩
 have H2:∀ W,Hid (Calls Tryz.prog 146 #[.int .i64 n,.int .i64 m] W fun e w'=>e = .returned (.int .i64 y)∧w'=W):=fun W=>by rw[hy];exact (cmp_int64 n m W).mono fun _ _ h=>⟨h.1,h.2.symm⟩
 clear hx hy;go_enter Tryz.func128,Tryz.ntmps128;go_wp2;have hb:=Lib.hid (box2_below w #[.int .i64 a,.int .i64 n] #[.int .i64 b,.int .i64 m] 114 114);obtain⟨p,hp⟩:∃ p,p=w.heap.size:=⟨_,rfl⟩;obtain⟨W,hW⟩:∃ W,W=(w.alloc (.cells #[.int .i64 a,.int .i64 n] 114)).alloc (.cells #[.int .i64 b,.int .i64 m] 114):=⟨_,rfl⟩
 have k0:W.cell? ⟨p,0,none⟩=some (.int .i64 a):=by rw[hW,hp];go_simp
 have k1:W.cell? ⟨p,1,none⟩=some (.int .i64 n):=by rw[hW,hp];go_simp
 have k2:W.cell? ⟨p+1,0,none⟩=some (.int .i64 b):=by rw[hW,hp];go_simp
 have k3:W.cell? ⟨p+1,1,none⟩=some (.int .i64 m):=by rw[hW,hp];go_simp
 rw[← hW]at hb ⊢;rw[← hp];have HP:=Lib.hid hp;clear hW hp;refine wp_region_still_tail 10 (by kernel_rfl) (by kernel_rfl) ?_;simp only[List.take_succ_cons,List.take_zero,List.drop_succ_cons,List.drop_zero]
 still_step
 still_step
 still_step
 still_step
 still_call (H1 _).out
 still_step
 still_step
 still_step
 still_step
 still_call (H2 _).out
 refine wpStill_nil ?_
 change wpList _ _ _ _ _ W.drew
 have hb2:Hid (Below w.heap.size w (W.drew.alloc (.cells #[.int .i64 x,.int .i64 y] 3))):=((bel_drewN hb.out 1)).alloc (by have:=hb.out.size;simpa using this) _;clear H1 H2 k0 k1 k2 k3 hb
 generalize W.drew=W2 at *
 go_wp2_with (go_at_call 144;refine (or_two W2.heap.size x y _ (by go_simp) (by go_simp)).mono ?_;rw[HC.out];rintro e w' ⟨rfl,rfl⟩);go_ret;exact⟨rfl,hb2.out⟩

end Dt
end Go.Proofs.YtcbpgemiffmieaaGreat
namespace Go.Proofs.YtcbpgemiffmieaaGreat
open Go.ChangeShapes Go.WideShapes Go.ChangeAt Go.RowKit
namespace Tr
open Sp Rw
theorem upon_append {P:Program} {o:Oper} {a:Go.Act} {K:Go.Act→World→Prop} {Q:Exit→Go.Act→World→Prop} {w w':World} {v xv v':Value} (s x:Operand) (t:TypeId)
  (ho:o.op = .call { callee:=.builtin .append,args:=#[s,x],argTypes:=#[t,t] }) (hs:a.eval s=v) (hx:a.eval x=xv)
  (hr:(Builtin.append_ #[t,t] o.type #[v,xv]).run P w = .ok v' w') (h:K (a.put o.dst v') w'):Oper.upon P o a K Q ((execOp a.eval o).run P w):=by
 unfold execOp;simp only[ho,resolve,invoke,builtin,Sem.run_bind,Sem.run_pure,Result.andThen_ok,List.map_toArray,List.map_cons,List.map_nil,hs,hx,hr];exact h
theorem empty_any (Ae Ak:Option Addr) (ne nk ce ck:Nat) (w:World):Calls Tryz.prog 130 #[.agg #[.slice Ae ne ce,.slice Ak nk ck]] w fun e w'=>e = .returned (.bool (decide (ne=0∧nk=0)))∧Below w.heap.size w w':=by
 by_cases h0:ne=0
 ·by_cases h1:nk=0
  ·have f0:((ne:Int)==0)=true:=by simpa using h0
   have f1:((nk:Int)==0)=true:=by simpa using h1
   go_enter Tryz.func130,Tryz.ntmps130;go_wp2;go_ret;exact⟨Dt.ret_bool (by simp[h0,h1]),Dt.box_below _ _ _⟩
  ·have f0:((ne:Int)==0)=true:=by simpa using h0
   have f1:((nk:Int)==0)=false:=by simpa using h1
   go_enter Tryz.func130,Tryz.ntmps130;go_wp2;go_ret;exact⟨Dt.ret_bool (by simp[h1]),Dt.box_below _ _ _⟩
 ·have f0:((ne:Int)==0)=false:=by simpa using h0
  go_enter Tryz.func130,Tryz.ntmps130;go_wp2;go_ret;exact⟨Dt.ret_bool (by simp[h0]),Dt.box_below _ _ _⟩
def keyB (k:ByteArray):Bool:=decide (1≤k.size∧k.size≤30)
theorem keyB_iff {k:ByteArray} : keyB k=true↔KeyOk k:=decide_eq_true_iff (p:=1≤k.size∧k.size≤30)
theorem rightKey_any (k:ByteArray) (w:World):Calls Tryz.prog 129 #[.string k] w fun e w'=>e = .returned (.bool (keyB k))∧w=w':=by
 by_cases h0:1≤k.size
 ·by_cases h1:k.size≤30
  ·have f0:decide ((1:Int)≤(k.size:Int))=true:=by simp;omega
   have f1:decide ((k.size:Int)≤30)=true:=by simp;omega
   go_enter Tryz.func129,Tryz.ntmps129;go_wp2;go_ret;exact⟨Dt.ret_bool (by unfold keyB;simp[h0,h1]),rfl⟩
  ·have f0:decide ((1:Int)≤(k.size:Int))=true:=by simp;omega
   have f1:decide ((k.size:Int)≤30)=false:=by simp;omega
   go_enter Tryz.func129,Tryz.ntmps129;go_wp2;go_ret;exact⟨Dt.ret_bool (by unfold keyB;simp[h1]),rfl⟩
 ·have f0:decide ((1:Int)≤(k.size:Int))=false:=by simp;omega
  go_enter Tryz.func129,Tryz.ntmps129;go_wp2;go_ret;exact⟨Dt.ret_bool (by unfold keyB;simp[h0]),rfl⟩
theorem refkey_any (k:ByteArray) (w:World):Calls Tryz.prog 61 #[.string k] w fun e w'=>e = .returned (.bool (keyB k))∧w=w':=by
 by_cases h0:1≤k.size
 ·by_cases h1:k.size≤30
  ·have f0:decide ((1:Int)≤(k.size:Int))=true:=by simp;omega
   have f1:decide ((k.size:Int)≤30)=true:=by simp;omega
   go_enter Tryz.func61,Tryz.ntmps61;go_wp2;go_ret;exact⟨Dt.ret_bool (by unfold keyB;simp[h0,h1]),rfl⟩
  ·have f0:decide ((1:Int)≤(k.size:Int))=true:=by simp;omega
   have f1:decide ((k.size:Int)≤30)=false:=by simp;omega
   go_enter Tryz.func61,Tryz.ntmps61;go_wp2;go_ret;exact⟨Dt.ret_bool (by unfold keyB;simp[h1]),rfl⟩
 ·have f0:decide ((1:Int)≤(k.size:Int))=false:=by simp;omega
  go_enter Tryz.func61,Tryz.ntmps61;go_wp2;go_ret;exact⟨Dt.ret_bool (by unfold keyB;simp[h0]),rfl⟩
def entB (e:E):Bool:=Dt.rightB e.a e.n&&decide (e.s.size≤30 ∧ -1099511627776≤e.v∧e.v≤1099511627776)
theorem entB_iff {e:E} : entB e=true↔RightE e:=by
 unfold entB RightE;rw[Bool.and_eq_true,decide_eq_true_iff]
theorem entB_no {e:E} (h:Dt.rightB e.a e.n=false):entB e=false:=by unfold entB;rw[h,Bool.false_and]
theorem entB_bad {e:E} (h:¬(e.s.size≤30 ∧ -1099511627776≤e.v∧e.v≤1099511627776)):entB e=false:=by unfold entB;rw[decide_eq_false h,Bool.and_false]
set_option maxHeartbeats 800000 in
theorem rightEntry_any (e:E) (w:World):Calls Tryz.prog 127 #[.agg #[.int .i64 e.a,.int .i64 e.n,.string e.s,.int .i64 e.v]] w fun r w'=>r = .returned (.bool (entB e))∧Below w.heap.size w w':=by
 have HR:=fun W=>Lib.hid (Dt.right_any e.a e.n W);obtain⟨a,n,s,v⟩:=e;dsimp only at HR ⊢
 cases hd:Dt.rightB a n with
 | false=>
  rw[hd]at HR;have hz:entB ⟨a,n,s,v⟩=false:=entB_no hd;rw[hz];clear hz hd;go_enter Tryz.func127,Tryz.ntmps127;go_wp2_with (go_at_call 143;refine (HR _).out.mono ?_;rintro e w1 ⟨rfl,hb⟩;have HB:=Lib.hid hb;clear hb);go_ret;exact⟨rfl,(Dt.box_below _ _ _).trans (HB.out.mono (by simp))⟩
 | true=>
  rw[hd]at HR
  by_cases h1:s.size≤30
  ·have f1:decide ((s.size:Int)≤30)=true:=by simp;omega
   by_cases h2 : -1099511627776≤v
   ·have f2:decide (-1099511627776≤v)=true:=decide_eq_true h2
    by_cases h3:v≤1099511627776
    ·have f3:decide (v≤1099511627776)=true:=decide_eq_true h3
     have hz:entB ⟨a,n,s,v⟩=true:=entB_iff.2 ⟨hd,h1,h2,h3⟩;rw[hz];clear hz hd h1 h2 h3;go_enter Tryz.func127,Tryz.ntmps127;go_wp2_with (go_at_call 143;have hk:=Lib.hid (((((Kept.nil w).alloc (.cells #[.int .i64 a,.int .i64 n,.string s,.int .i64 v] 116)).cons_of (p:=⟨w.heap.size,2,none⟩) (v:=.string s) (by go_simp)).cons_of (p:=⟨w.heap.size,3,none⟩) (v:=.int .i64 v) (by go_simp)));refine (HR _).out.mono ?_;rintro e w1 ⟨rfl,hb⟩;have HK:=Lib.hid (hk.out.later hb);have k0:=HK.out.c0;have k1:=HK.out.c1;clear hb hk);go_ret;exact⟨rfl,HK.out.below⟩
    ·have f3:decide (v≤1099511627776)=false:=decide_eq_false h3
     have hz:entB ⟨a,n,s,v⟩=false:=entB_bad (by rintro⟨_,_,h⟩;exact h3 h);rw[hz];clear hz hd h1 h2 h3;go_enter Tryz.func127,Tryz.ntmps127;go_wp2_with (go_at_call 143;have hk:=Lib.hid (((((Kept.nil w).alloc (.cells #[.int .i64 a,.int .i64 n,.string s,.int .i64 v] 116)).cons_of (p:=⟨w.heap.size,2,none⟩) (v:=.string s) (by go_simp)).cons_of (p:=⟨w.heap.size,3,none⟩) (v:=.int .i64 v) (by go_simp)));refine (HR _).out.mono ?_;rintro e w1 ⟨rfl,hb⟩;have HK:=Lib.hid (hk.out.later hb);have k0:=HK.out.c0;have k1:=HK.out.c1;clear hb hk);go_ret;exact⟨rfl,HK.out.below⟩
   ·have f2:decide (-1099511627776≤v)=false:=decide_eq_false h2
    have hz:entB ⟨a,n,s,v⟩=false:=entB_bad (by rintro⟨_,h,_⟩;exact h2 h);rw[hz]
    by_cases h3:v≤1099511627776
    ·have f3:decide (v≤1099511627776)=true:=decide_eq_true h3
     clear hz hd h1 h2 h3;go_enter Tryz.func127,Tryz.ntmps127;go_wp2_with (go_at_call 143;have hk:=Lib.hid (((((Kept.nil w).alloc (.cells #[.int .i64 a,.int .i64 n,.string s,.int .i64 v] 116)).cons_of (p:=⟨w.heap.size,2,none⟩) (v:=.string s) (by go_simp)).cons_of (p:=⟨w.heap.size,3,none⟩) (v:=.int .i64 v) (by go_simp)));refine (HR _).out.mono ?_;rintro e w1 ⟨rfl,hb⟩;have HK:=Lib.hid (hk.out.later hb);have k0:=HK.out.c0;have k1:=HK.out.c1;clear hb hk);go_ret;exact⟨rfl,HK.out.below⟩
    ·omega
  ·have f1:decide ((s.size:Int)≤30)=false:=by simp;omega
   have hz:entB ⟨a,n,s,v⟩=false:=entB_bad (by rintro⟨h,_⟩;exact h1 h);rw[hz];clear hz hd h1;go_enter Tryz.func127,Tryz.ntmps127;go_wp2_with (go_at_call 143;have hk:=Lib.hid (((((Kept.nil w).alloc (.cells #[.int .i64 a,.int .i64 n,.string s,.int .i64 v] 116)).cons_of (p:=⟨w.heap.size,2,none⟩) (v:=.string s) (by go_simp)).cons_of (p:=⟨w.heap.size,3,none⟩) (v:=.int .i64 v) (by go_simp)));refine (HR _).out.mono ?_;rintro e w1 ⟨rfl,hb⟩;have HK:=Lib.hid (hk.out.later hb);have k0:=HK.out.c0;have k1:=HK.out.c1;clear hb hk);go_ret;exact⟨rfl,HK.out.below⟩
set_option maxHeartbeats 800000 in
theorem refentry_any (e:E) (w:World):Calls Tryz.prog 120 #[.agg #[.int .i64 e.a,.int .i64 e.n,.string e.s,.int .i64 e.v]] w fun r w'=>r = .returned (.bool (entB e))∧Below w.heap.size w w':=by
 have HR:=fun W=>Lib.hid (Dt.refright_any e.a e.n W);obtain⟨a,n,s,v⟩:=e;dsimp only at HR ⊢
 cases hd:Dt.rightB a n with
 | false=>
  rw[hd]at HR;have hz:entB ⟨a,n,s,v⟩=false:=entB_no hd;rw[hz];clear hz hd;go_enter Tryz.func120,Tryz.ntmps120;go_wp2_with (go_at_call 139;refine (HR _).out.mono ?_;rintro e w1 ⟨rfl,hb⟩;have HB:=Lib.hid hb;clear hb);go_ret;exact⟨rfl,(Dt.box_below _ _ _).trans (HB.out.mono (by simp))⟩
 | true=>
  rw[hd]at HR
  by_cases h1:s.size≤30
  ·have f1:decide ((s.size:Int)≤30)=true:=by simp;omega
   by_cases h2 : -1099511627776≤v
   ·have f2:decide (-1099511627776≤v)=true:=decide_eq_true h2
    by_cases h3:v≤1099511627776
    ·have f3:decide (v≤1099511627776)=true:=decide_eq_true h3
     have hz:entB ⟨a,n,s,v⟩=true:=entB_iff.2 ⟨hd,h1,h2,h3⟩;rw[hz];clear hz hd h1 h2 h3;go_enter Tryz.func120,Tryz.ntmps120;go_wp2_with (go_at_call 139;have hk:=Lib.hid (((((Kept.nil w).alloc (.cells #[.int .i64 a,.int .i64 n,.string s,.int .i64 v] 116)).cons_of (p:=⟨w.heap.size,2,none⟩) (v:=.string s) (by go_simp)).cons_of (p:=⟨w.heap.size,3,none⟩) (v:=.int .i64 v) (by go_simp)));refine (HR _).out.mono ?_;rintro e w1 ⟨rfl,hb⟩;have HK:=Lib.hid (hk.out.later hb);have k0:=HK.out.c0;have k1:=HK.out.c1;clear hb hk);go_ret;exact⟨rfl,HK.out.below⟩
    ·have f3:decide (v≤1099511627776)=false:=decide_eq_false h3
     have hz:entB ⟨a,n,s,v⟩=false:=entB_bad (by rintro⟨_,_,h⟩;exact h3 h);rw[hz];clear hz hd h1 h2 h3;go_enter Tryz.func120,Tryz.ntmps120;go_wp2_with (go_at_call 139;have hk:=Lib.hid (((((Kept.nil w).alloc (.cells #[.int .i64 a,.int .i64 n,.string s,.int .i64 v] 116)).cons_of (p:=⟨w.heap.size,2,none⟩) (v:=.string s) (by go_simp)).cons_of (p:=⟨w.heap.size,3,none⟩) (v:=.int .i64 v) (by go_simp)));refine (HR _).out.mono ?_;rintro e w1 ⟨rfl,hb⟩;have HK:=Lib.hid (hk.out.later hb);have k0:=HK.out.c0;have k1:=HK.out.c1;clear hb hk);go_ret;exact⟨rfl,HK.out.below⟩
   ·have f2:decide (-1099511627776≤v)=false:=decide_eq_false h2
    have hz:entB ⟨a,n,s,v⟩=false:=entB_bad (by rintro⟨_,h,_⟩;exact h2 h);rw[hz]
    by_cases h3:v≤1099511627776
    ·have f3:decide (v≤1099511627776)=true:=decide_eq_true h3
     clear hz hd h1 h2 h3;go_enter Tryz.func120,Tryz.ntmps120;go_wp2_with (go_at_call 139;have hk:=Lib.hid (((((Kept.nil w).alloc (.cells #[.int .i64 a,.int .i64 n,.string s,.int .i64 v] 116)).cons_of (p:=⟨w.heap.size,2,none⟩) (v:=.string s) (by go_simp)).cons_of (p:=⟨w.heap.size,3,none⟩) (v:=.int .i64 v) (by go_simp)));refine (HR _).out.mono ?_;rintro e w1 ⟨rfl,hb⟩;have HK:=Lib.hid (hk.out.later hb);have k0:=HK.out.c0;have k1:=HK.out.c1;clear hb hk);go_ret;exact⟨rfl,HK.out.below⟩
    ·omega
  ·have f1:decide ((s.size:Int)≤30)=false:=by simp;omega
   have hz:entB ⟨a,n,s,v⟩=false:=entB_bad (by rintro⟨h,_⟩;exact h1 h);rw[hz];clear hz hd h1;go_enter Tryz.func120,Tryz.ntmps120;go_wp2_with (go_at_call 139;have hk:=Lib.hid (((((Kept.nil w).alloc (.cells #[.int .i64 a,.int .i64 n,.string s,.int .i64 v] 116)).cons_of (p:=⟨w.heap.size,2,none⟩) (v:=.string s) (by go_simp)).cons_of (p:=⟨w.heap.size,3,none⟩) (v:=.int .i64 v) (by go_simp)));refine (HR _).out.mono ?_;rintro e w1 ⟨rfl,hb⟩;have HK:=Lib.hid (hk.out.later hb);have k0:=HK.out.c0;have k1:=HK.out.c1;clear hb hk);go_ret;exact⟨rfl,HK.out.below⟩
end Tr
end Go.Proofs.YtcbpgemiffmieaaGreat
namespace Go.Proofs.YtcbpgemiffmieaaGreat
open Go.ChangeShapes Go.WideShapes Go.ChangeAt Go.RowKit
namespace Tr
open Sp Rw
theorem tree_box (w:World) (Ae Ak:Option Addr) (ne nk ce ck:Nat):Kept [(⟨w.heap.size,0,none⟩,.slice Ae ne ce),(⟨w.heap.size,1,none⟩,.slice Ak nk ck)] w (w.alloc (.cells #[.slice Ae ne ce,.slice Ak nk ck] 35)):=
 (((Kept.nil w).alloc _).cons_of (by go_simp)).cons_of (by go_simp)
end Tr
end Go.Proofs.YtcbpgemiffmieaaGreat
namespace Go.Proofs.YtcbpgemiffmieaaGreat
open Go.ChangeShapes Go.WideShapes Go.ChangeAt Go.RowKit
namespace Tr
open Sp Rw
end Tr
end Go.Proofs.YtcbpgemiffmieaaGreat
namespace Go.Proofs.YtcbpgemiffmieaaGreat
open Go.ChangeShapes Go.WideShapes Go.ChangeAt Go.RowKit
namespace Tr
open Rw Sp
structure RO (w:World) (ok:Nat→Prop) (sz:Nat) (A:Option Addr) (n c:Nat) (xs:List Value):Prop where
 len:xs.length=n*sz
 cap:n≤c
 one:∀ u∈xs,u.oneCell'=true
 at_:0<n→∃ b o,A=some ⟨b,o,none⟩∧ok b∧b<w.heap.size∧(∀ j,w.frozen? ⟨b,j,none⟩=false)∧∀ j u,xs[j]?=some u→w.cell? ⟨b,o+j,none⟩=some u
namespace RO
variable {w w':World} {ok ok':Nat→Prop} {sz n c:Nat} {A:Option Addr} {xs:List Value}
theorem nil (w:World) (ok:Nat→Prop) (sz:Nat) (A:Option Addr) (c:Nat):RO w ok sz A 0 c []:=⟨by simp,Nat.zero_le _,by simp,fun h=>absurd h (by omega)⟩
theorem rd (h:RO w ok sz A n c xs):Rd w w.heap.size sz A n c xs:=⟨h.len,h.cap,h.one,fun hn=>by obtain⟨b,o,e,_,hb,_,hc⟩:=h.at_ hn;exact⟨b,o,e,hb,hc⟩⟩
theorem mono (h:RO w ok sz A n c xs) (ho:∀ b,ok b→b<w.heap.size→ok' b):RO w ok' sz A n c xs:=
 ⟨h.len,h.cap,h.one,fun hn=>by obtain⟨b,o,e,h1,hb,h2,hc⟩:=h.at_ hn;exact⟨b,o,e,ho b h1 hb,hb,h2,hc⟩⟩
theorem keep (h:RO w ok sz A n c xs) (hs:w.heap.size≤w'.heap.size) (hk:∀ b,ok b→b<w.heap.size→w'.heap[b]?=w.heap[b]?):RO w' ok sz A n c xs:=
 ⟨h.len,h.cap,h.one,fun hn=>by
  obtain⟨b,o,e,h1,hb,h2,hc⟩:=h.at_ hn
  exact⟨b,o,e,h1,Nat.lt_of_lt_of_le hb hs,fun j=>(World.frozen?_of_block (a:=⟨b,j,none⟩) (hk b h1 hb)).trans (h2 j),fun j u hu=>(World.cell?_of_block (a:=⟨b,o+j,none⟩) (hk b h1 hb)).trans (hc j u hu)⟩⟩
theorem of_own {base e:Nat} (h:Own w base e sz A n c xs):RO w (fun b=>base≤b∧(Value.slice A n c).ownBlock=some b) sz A n c xs:=
 ⟨h.rd.len,h.rd.cap,h.one,fun hn=>by
  obtain⟨g,rfl,h1,h2,h3,h4⟩:=Sp.Own.place h hn
  exact⟨g,0,rfl,⟨h1,by simp[Value.ownBlock]⟩,h2,h3,fun j u hu=>by rw[Nat.zero_add];exact h4 j u hu⟩⟩
end RO
def RdO (w:World) (ok:Nat→Prop):T→SV→SV→Prop
 | .mk es ks,se,sk=>es.length=se.n∧RO w ok 4 se.A se.n se.c (entsC es)∧ks.length=sk.n∧∃ xs:List Value,RO w ok 3 sk.A sk.n sk.c xs ∧
   ∀ (i:Nat) (h:i<ks.length),∃ se' sk':SV,xs[i*3]?=some (.string (ks[i]).1)∧xs[i*3+1]?=some (.slice se'.A se'.n se'.c)∧xs[i*3+2]?=some (.slice sk'.A sk'.n sk'.c)∧RdO w ok (ks[i]).2 se' sk'
termination_by t=>SizeOf.sizeOf t
decreasing_by exact at_lt h es
theorem rdO_mk (w:World) (ok:Nat→Prop) (es:List E) (ks:List (ByteArray×T)) (se sk:SV):RdO w ok (.mk es ks) se sk↔(es.length=se.n∧RO w ok 4 se.A se.n se.c (entsC es)∧ks.length=sk.n∧∃ xs:List Value,RO w ok 3 sk.A sk.n sk.c xs ∧
   ∀ (i:Nat) (h:i<ks.length),∃ se' sk':SV,xs[i*3]?=some (.string (ks[i]).1)∧xs[i*3+1]?=some (.slice se'.A se'.n se'.c)∧xs[i*3+2]?=some (.slice sk'.A sk'.n sk'.c)∧RdO w ok (ks[i]).2 se' sk'):=by
 rw[RdO]
theorem RdO.rd {w:World} {ok:Nat→Prop} : ∀ (t:T) {se sk:SV},RdO w ok t se sk→RdT w w.heap.size t se sk:=by
 intro t
 induction t using T.ind with
 | h es ks ih=>
  intro se sk h;rw[rdO_mk]at h;rw[rdT_mk];obtain⟨h1,h2,h3,xs,h4,h5⟩:=h;refine⟨h1,h2.rd,h3,xs,h4.rd,fun i hi=>?_⟩;obtain⟨se',sk',e1,e2,e3,e4⟩:=h5 i hi;exact⟨se',sk',e1,e2,e3,ih _ (List.getElem_mem hi) e4⟩
theorem RdO.mono {w:World} {ok ok':Nat→Prop} (ho:∀ b,ok b→b<w.heap.size→ok' b):∀ (t:T) {se sk:SV},RdO w ok t se sk→RdO w ok' t se sk:=by
 intro t
 induction t using T.ind with
 | h es ks ih=>
  intro se sk h;rw[rdO_mk]at h ⊢;obtain⟨h1,h2,h3,xs,h4,h5⟩:=h;refine⟨h1,h2.mono ho,h3,xs,h4.mono ho,fun i hi=>?_⟩;obtain⟨se',sk',e1,e2,e3,e4⟩:=h5 i hi;exact⟨se',sk',e1,e2,e3,ih _ (List.getElem_mem hi) e4⟩
theorem RdO.keep {w w':World} {ok:Nat→Prop} (hs:w.heap.size≤w'.heap.size) (hk:∀ b,ok b→b<w.heap.size→w'.heap[b]?=w.heap[b]?):∀ (t:T) {se sk:SV},RdO w ok t se sk→RdO w' ok t se sk:=by
 intro t
 induction t using T.ind with
 | h es ks ih=>
  intro se sk h;rw[rdO_mk]at h ⊢;obtain⟨h1,h2,h3,xs,h4,h5⟩:=h;refine⟨h1,h2.keep hs hk,h3,xs,h4.keep hs hk,fun i hi=>?_⟩;obtain⟨se',sk',e1,e2,e3,e4⟩:=h5 i hi;exact⟨se',sk',e1,e2,e3,ih _ (List.getElem_mem hi) e4⟩
theorem RdO.later {w w':World} {ok:Nat→Prop} {t:T} {se sk:SV} (h:RdO w ok t se sk) (hb:Below w.heap.size w w'):RdO w' ok t se sk:=RdO.keep hb.size (fun b _ hlt=>hb.block b hlt) t h
instance {ok:Nat→Prop} {t:T} {se sk:SV} {v v':World} : Las v v' (RdO v ok t se sk) (RdO v' ok t se sk):=⟨fun h hb=>RdO.later h hb⟩
theorem RdO.none (w:World) (ok:Nat→Prop) (A A':Option Addr) (c c':Nat):RdO w ok none_ ⟨A,0,c⟩ ⟨A',0,c'⟩:=by
 unfold none_;rw[rdO_mk];exact⟨rfl,RO.nil _ _ _ _ _,rfl,[],RO.nil _ _ _ _ _,fun i hi=>by simp at hi⟩
def kidC (k:ByteArray×SV×SV):List Value:=[.string k.1,.slice k.2.1.A k.2.1.n k.2.1.c,.slice k.2.2.A k.2.2.n k.2.2.c]
theorem kidC_len (k:ByteArray×SV×SV):(kidC k).length=3:=rfl
theorem kidC_one (k:ByteArray×SV×SV):∀ u∈kidC k,u.oneCell'=true:=by
 intro u hu;simp[kidC]at hu
 rcases hu with rfl | rfl | rfl <;> rfl
structure KidRow (w:World) (base e:Nat) (A:Option Addr) (n c:Nat) (ks:List (ByteArray×T)) (kr:List (ByteArray×SV×SV)):Prop where
 len:ks.length=n
 lenr:kr.length=n
 own:Own w base e 3 A n c (kr.flatMap kidC)
 kid:∀ (i:Nat) (h:i<ks.length) (h':i<kr.length),kr[i].1=ks[i].1∧RdO w (fun b=>base≤b∧(Value.slice A n c).ownBlock≠some b) ks[i].2 kr[i].2.1 kr[i].2.2
namespace KidRow
variable {w w':World} {base e n c:Nat} {A:Option Addr} {ks:List (ByteArray×T)} {kr:List (ByteArray×SV×SV)}
theorem nil (w:World) (base e:Nat):KidRow w base e none 0 0 [] []:=⟨rfl,rfl,⟨World.ownsRow_nil _ _ _ _,by simp⟩,fun i h=>by simp at h⟩
theorem later (h:KidRow w base e A n c ks kr) (hb:Below w.heap.size w w'):KidRow w' base e A n c ks kr:=
 ⟨h.len,h.lenr,own_later h.own hb,fun i hi hi'=>⟨(h.kid i hi hi').1,(h.kid i hi hi').2.later hb⟩⟩
theorem tree (h:KidRow w base e A n c ks kr) {ok:Nat→Prop} (hok:∀ b,base≤b→b<w.heap.size→ok b) {es:List E} {se:SV} (hes:es.length=se.n) (hse:RO w ok 4 se.A se.n se.c (entsC es)):RdO w ok (.mk es ks) se ⟨A,n,c⟩:=by
 rw[rdO_mk];refine⟨hes,hse,h.len,kr.flatMap kidC,(RO.of_own h.own).mono fun b hb hlt=>hok b hb.1 hlt,fun i hi=>?_⟩
 have hi':i<kr.length:=by have h1:=h.len;have h2:=h.lenr;omega
 obtain⟨e1,e2⟩:=h.kid i hi hi';have f0:=flat_at kidC_len kr i 0 hi' (by omega);have f1:=flat_at kidC_len kr i 1 hi' (by omega);have f2:=flat_at kidC_len kr i 2 hi' (by omega);refine⟨kr[i].2.1,kr[i].2.2,?_,f1,f2,RdO.mono (fun b hb hlt=>hok b hb.1 hlt) _ e2⟩;rw[← e1];exact f0
theorem push {t by_:Nat} {z:Value} (ht:Tryz.prog.underlying t=some (.slice e)) (hi:(Tryz.prog.info? e).map (fun i=>(i.zero,i.size,i.bytes))=some (some z,3,by_)) (hzs:z.cells.size=3) (hby:by_≤1000000)
  (h:KidRow w base e A n c ks kr) (p:Nat) (hp:w.heap.size=p) (hb:base≤w.heap.size) {k:ByteArray×SV×SV} {u:T} (hu:RdO w (fun b=>base≤b∧(Value.slice A n c).ownBlock≠some b) u k.2.1 k.2.2) (hn:n≤900000) (cs:Array Value) (hcs:cs=(kidC k).toArray) :
  ∃ A' c' w',(Builtin.append_ #[t,t] t #[.slice A n c,.slice (some ⟨p,0,none⟩) 1 1]).run Tryz.prog (w.alloc (.cells cs e)) = .ok (.slice A' (n+1) c') w' ∧
   KidRow w' base e A' (n+1) c' (ks++[(k.1,u)]) (kr++[k])∧Below base w w'∧∀ b,(Value.slice A n c).ownBlock≠some b→b<w.heap.size→w'.heap[b]?=w.heap[b]?:=by
 subst hp;subst hcs;obtain⟨i0,hi0,hz0,hz1,hz2⟩:=info_of hi;have hown:=h.own.row
 obtain⟨v',w',r1,r2,r3,r4⟩:=run_app (P:=Tryz.prog) (w.alloc (.cells (kidC k).toArray e)) base t t e i0 z 3 by_ ht hi0 hz0 hz1 hz2 hzs (by omega)
  (hown.alloc _) (B:=w.heap.size+1) (A:=some ⟨w.heap.size,0,none⟩) (m:=1) (c:=1) (news:=kidC k)
  ⟨rfl,by omega,kidC_one k,fun _=>⟨_,_,rfl,by omega,fun j u hu=>by
   rw[Nat.zero_add,cell_of_row _ _ j _ _ (0,0) (heap_alloc_new _ _)]
   simpa using hu⟩⟩ (by omega) hby (by simp;omega)
 obtain⟨A',c',rfl,ho⟩:=Own.of_row r2 (fun u hu=>by
  rcases List.mem_append.1 hu with hu | hu
  ·exact h.own.one u hu
  ·exact kidC_one k u hu)
 have hbel:Below base w w':=((Below.refl base w).alloc hb _).grown r3 (by simp;omega) (fun k hk=>(hown.lt k hk).1)
 have hsize:w.heap.size≤w'.heap.size:=by have:=r3.size;simp at this;omega
 have hnew:∀ b,(base≤b∧(Value.slice A n c).ownBlock≠some b)→b<w.heap.size→base≤b∧(Value.slice A' (n+1) c').ownBlock≠some b:=fun b hb hlt=>⟨hb.1,fun he=>by
  rcases r4 with r4 | r4
  ·exact hb.2 (r4.symm.trans he)
  ·have:some b=some (w.alloc (.cells (kidC k).toArray e)).heap.size:=he.symm.trans r4
   injection this with this
   simp at this
   omega⟩
 have hto:∀ {t:T} {se sk:SV},RdO w (fun b=>base≤b∧(Value.slice A n c).ownBlock≠some b) t se sk→RdO w' (fun b=>base≤b∧(Value.slice A' (n+1) c').ownBlock≠some b) t se sk:=fun {t se sk} ht=>
  RdO.keep hsize (fun b hb hlt=>(r3.block b (by simp;omega) (fun e=>hb.2.2 e.symm)).trans (heap_alloc_old w _ hlt)) t (RdO.mono (ok':=fun b=>(base≤b∧(Value.slice A' (n+1) c').ownBlock≠some b)∧(base≤b∧(Value.slice A n c).ownBlock≠some b)) (fun b hb hlt=>⟨hnew b hb hlt,hb⟩) t ht) |> RdO.mono (fun b hb _=>hb.1) t
 refine⟨A',c',w',r1,⟨by simp[h.len],by simp[h.lenr],?_,fun i hi hi'=>?_⟩,hbel,fun b hb hlt=>(r3.block b (by simp;omega) (fun e=>hb e.symm)).trans (heap_alloc_old w _ hlt)⟩
 ·have e1:(kr++[k]).flatMap kidC=kr.flatMap kidC++kidC k:=by simp
  rw[e1];exact ho
 ·by_cases hlt:i<n
  ·have h1:i<ks.length:=by rw[h.len];exact hlt
   have h2:i<kr.length:=by rw[h.lenr];exact hlt
   rw[List.getElem_append_left h1,List.getElem_append_left h2];exact⟨(h.kid i h1 h2).1,hto (h.kid i h1 h2).2⟩
  ·have e0:i=n:=by simp[h.len]at hi;omega
   have e1:(ks++[(k.1,u)])[i]=(k.1,u):=by rw[List.getElem_append_right (by rw[h.len];omega)];simp
   have e2:(kr++[k])[i]=k:=by rw[List.getElem_append_right (by rw[h.lenr];omega)];simp
   rw[e1,e2];exact⟨rfl,hto hu⟩
end KidRow
end Tr
end Go.Proofs.YtcbpgemiffmieaaGreat
set_option maxRecDepth 100000
set_option maxHeartbeats 4000000
namespace Go.Proofs.YtcbpgemiffmieaaGreat
open Go.ChangeShapes Go.WideShapes Go.ChangeAt Go.RowKit
namespace Tr
open Sp Rw
def levels:T→Nat
 | .mk _ ks=>1+(ks.attach.map fun k=>levels k.1.2).foldl max 0
termination_by t=>SizeOf.sizeOf t
decreasing_by exact kid_lt k.2
theorem RightT.le {d d':Nat} {t:T} (h:RightT d t) (hd:d≤d'):RightT d' t:=by
 obtain⟨m,rfl⟩:∃ m,d'=d+m:=⟨_,(Nat.add_sub_cancel' hd).symm⟩;clear hd
 induction m with
 | zero=>exact h
 | succ m ih=>exact ih.more
theorem room_any:∀ (t:T) (Ae Ak:Option Addr) (ne nk ce ck:Nat) (left deep:Int) (w:World),0≤left→left≤1000→0≤deep→deep≤1000→LenT reachBytes t→RdT w w.heap.size t ⟨Ae,ne,ce⟩ ⟨Ak,nk,ck⟩ →
  Calls Tryz.prog 108 #[.agg #[.slice Ae ne ce,.slice Ak nk ck],.int .i64 left,.int .i64 deep] w fun e w'=>∃ r:Int,e = .returned (.int .i64 r) ∧ -1000000000000000≤r∧r≤left∧(0≤r→(nodes t:Int)+r=left)∧Below w.heap.size w w':=by
 intro t
 induction t using T.ind with
 | h es ks ih=>
  intro Ae Ak ne nk ce ck left deep w h0 h1 h2 h3 hl hr;obtain⟨hle,hlk⟩:=rd_lens hr;have HR:=Lib.hid hr;have HLE:=Lib.hid hle;have HLK:=Lib.hid hlk;clear hle hlk hr;have hle:=hl.es;have hlk:=hl.ks;rw[HLE.out]at hle;rw[HLK.out]at hlk;unfold reachBytes at hle hlk;have IH:=Lib.hid ih;have HL:=Lib.hid hl;obtain⟨d,rfl⟩:∃ m:Nat,deep=(m:Int):=⟨deep.toNat,by omega⟩
  have HN:Hid (nodes (.mk es ks)=ne+nk+(ks.map fun k=>nodes k.2).sum):=by unfold Hid;rw[nodes_mk,HLE.out,HLK.out]
  clear ih hl;obtain⟨g,hg⟩:∃ g,g=w.heap.size:=⟨_,rfl⟩;have HK:=Lib.hid (tree_box w Ae Ak ne nk ce ck);rw[← hg]at HK;obtain⟨W0,hW0⟩:∃ W,W=w.alloc (.cells #[.slice Ae ne ce,.slice Ak nk ck] 35):=⟨_,rfl⟩;rw[← hW0]at HK;have HG:=Lib.hid hg;have HW0:=Lib.hid hW0;have k0:=HK.out.c0;have k1:=HK.out.c1;clear hg hW0
  have hw1:IntKind.i64.wrap (left-(ne:Int))=left-ne:=by rw[IntKind.wrap_i64];omega
  have hw2:IntKind.i64.wrap (left-(ne:Int)-(nk:Int))=left-ne-nk:=by rw[IntKind.wrap_i64];omega
  go_enter Tryz.func108,Tryz.ntmps108;go_wp2_with fail;rw[← HG.out,← HW0.out];go_wp2_with fail
  go_loopw [1,20] (fun n i wr=>∃ (k:Nat) (x:Int),k≤nk∧i = .int .i64 k∧n = .int .i64 x ∧ -1000000000000000≤x∧x≤left∧Hid (0≤x→((ne+nk+ksum (fun k=>nodes k.2) ks k:Nat):Int)+x=left)∧Hid (Kept [(⟨g,0,none⟩,.slice Ae ne ce),(⟨g,1,none⟩,.slice Ak nk ck)] w wr)) (fun _ i _=>nk-(intOf i).toNat)
  case atStart=>exact⟨0,left-ne-nk,by omega,rfl,rfl,by omega,by omega,fun _=>by rw[ksum_zero];omega,HK.out⟩
  case round=>
   obtain⟨k,x,hk,rfl,rfl,hx1,hx2,HX,HKW⟩:=hrel;clear k0 k1;have k0:=HKW.out.c0;have k1:=HKW.out.c1
   by_cases hlt:k<nk
   ·by_cases hx:x<0
    ·have f1:decide (x<0)=true:=decide_eq_true hx
     go_wp2_with fail;go_ret;exact⟨-1,rfl,by omega,by omega,fun h=>by omega,HKW.out.below⟩
    have f1:decide (x<0)=false:=decide_eq_false hx
    by_cases hd:d=0
    ·subst hd
     go_wp2_with fail;go_ret;exact⟨-1,rfl,by omega,by omega,fun h=>by omega,HKW.out.below⟩
    have f2:((d:Int)==0)=false:=by simpa using hd
    have hkl:k<ks.length:=by rw[HLK.out];exact hlt
    obtain⟨b,o,rfl,hb,hc⟩:=rd_kid HR.out (by omega);obtain⟨⟨Ae',ne',ce'⟩,⟨Ak',nk',ck'⟩,c0,c1,c2,hkid⟩:=hc k hkl;dsimp only at c0 c1 c2;have c0:=(HKW.out.below.cell (p:=⟨b,o+k*3,none⟩) hb).trans c0;have c1:=(HKW.out.below.cell (p:=⟨b,o+k*3+1,none⟩) hb).trans c1;have c2:=(HKW.out.below.cell (p:=⟨b,o+k*3+2,none⟩) hb).trans c2;obtain⟨key,hkey⟩:∃ key,key=(ks[k]).1:=⟨_,rfl⟩;rw[← hkey]at c0;clear hc;have hk1:=HKW.out;have hrd1:=RdT.more hk1.below.size _ (RdT.below hkid hk1.below);have hs1:=ksum_succ (fun k=>nodes k.2) hkl;have hcall:=IH.out _ (List.getElem_mem hkl) Ae' Ak' ne' nk' ce' ck' x ((d:Int)-1) wr (by omega) (by omega) (by omega) (by omega) (HL.out.kid (List.getElem_mem hkl)) hrd1;have HC:=Lib.hid hcall;have HS:=Lib.hid hs1;clear hrd1 hkey hk1 hcall hs1 hkid;go_wp2_with fail;refine HC.out.mono ?_
    rintro e w2 ⟨y,rfl,hy1,hy2,hy3,hb2⟩;have HK2:=Lib.hid (HKW.out.later hb2);have HY:=Lib.hid hy3;clear hb2 hy3;go_wp2_with fail;go_roundw
    case rel=>
     refine⟨k+1,y,by omega,by go_num,rfl,by omega,by omega,fun h=>?_,HK2.out⟩;have h1:=HY.out h;have h2:=HX.out (by omega);rw[HS.out];omega
    case measure=>simp[intOf];omega
   ·obtain rfl:k=nk:=by omega
    go_wp2_with fail;go_ret;refine⟨x,rfl,by omega,by omega,fun h=>?_,HKW.out.below⟩;have h1:=HX.out h;rw[HN.out,← ksum_all _ HLK.out];exact h1
theorem small_any (t:T) (Ae Ak:Option Addr) (ne nk ce ck:Nat) (most:Nat) (w:World) (h1:most≤1000) (hl:LenT reachBytes t) (hr:RdT w w.heap.size t ⟨Ae,ne,ce⟩ ⟨Ak,nk,ck⟩) :
  Calls Tryz.prog 74 #[.agg #[.slice Ae ne ce,.slice Ak nk ck],.int .i64 most] w fun e w'=>∃ b:Bool,e = .returned (.bool b)∧(b=true→nodes t≤most)∧Below w.heap.size w w':=by
 have hb1:Below w.heap.size w (w.alloc (.cells #[.slice Ae ne ce,.slice Ak nk ck] 35)):=Dt.box_below _ _ _;have HC:=Lib.hid (room_any t Ae Ak ne nk ce ck most 8 _ (by omega) (by omega) (by omega) (by omega) hl (RdT.more hb1.size _ (RdT.below hr hb1)));have HB:=Lib.hid hb1;clear hl hr hb1;go_enter Tryz.func74,Tryz.ntmps74;go_wp2_with fail;refine HC.out.mono ?_;rintro e w2 ⟨r,rfl,hr1,hr2,hr3,hb2⟩;have HB2:=Lib.hid (HB.out.trans (hb2.mono HB.out.size));have HR3:=Lib.hid hr3;clear hb2 hr3;go_wp2_with fail;go_ret;refine⟨_,rfl,fun h=>?_,HB2.out⟩
 have h2:0≤r:=by simpa using h
 have:=HR3.out h2;omega
end Tr
end Go.Proofs.YtcbpgemiffmieaaGreat
namespace Go.Proofs.YtcbpgemiffmieaaGreat
open Go.Shelf
namespace Tr
end Tr
end Go.Proofs.YtcbpgemiffmieaaGreat
namespace Go.Proofs.YtcbpgemiffmieaaGreat
open Go.RowKit
namespace Codec
theorem add_step (a x i:Nat) (y:Int) (hy:y=((128 ^ i:Nat):Int)) :
  IntKind.u64.wrap (((a % 18446744073709551616:Nat):Int)+IntKind.u64.wrap ((x:Int) % 128*y))=(((a+128 ^ i*(x % 128)) % 18446744073709551616:Nat):Int):=by
 subst hy
 have e2:(x:Int) % 128*((128 ^ i:Nat):Int)=((x % 128*128 ^ i:Nat):Int):=by push_cast;rfl
 have e3:128 ^ i*(x % 128)=x % 128*128 ^ i:=Nat.mul_comm _ _;rw[e2,e3,IntKind.wrap_u64,IntKind.wrap_u64];omega
theorem str_beq {a b:List UInt8} : ((strOf a).toList==(strOf b).toList)=true↔a=b:=by
 rw[ByteArray.toList_eq,ByteArray.toList_eq,strOf_list,strOf_list];simp
def TakeIs (bs:List UInt8) (w:World) (e:Ending) (w':World):Prop:=
 Below w.heap.size w w'∧∃ (v:Int) (k:Nat) (ok:Bool),e = .returned (.tuple #[.int .i64 v,.int .i64 k,.bool ok])∧(ok=true→Begins bs (foldN v) k ∧ -9223372036854775808≤v∧v≤9223372036854775807)∧(ok=false→∀ u n,¬Begins bs u n)
set_option maxRecDepth 100000 in
set_option maxHeartbeats 400000 in
theorem take_any (bs:List UInt8) (n:Nat) (A:Option Addr) (c:Nat) (w:World) (hl:bs.length=n) (hn:n≤900000) (hr:Rd w w.heap.size 1 A n c (u8s bs)) :
  Calls Tryz.prog 119 #[.slice A n c] w (TakeIs bs w):=by
 have HR:=Lib.hid hr;have HL:=Lib.hid hl;clear hr hl;go_enter Tryz.func119,Tryz.ntmps119;go_wp2
 go_loop [5,10] (fun x q=>∃ (i:Nat) (u:Nat),q = .int .i64 i∧i≤n∧i≤10∧x = .int .u64 u∧Hid (u=val (bs.take i) % 18446744073709551616)∧Hid (On bs i)) (fun _ q=>(n-intOf q).toNat)
 case atStart=>exact⟨0,0,rfl,Nat.zero_le _,by omega,rfl,by simp[val,Hid],On.zero _⟩
 case round=>
  obtain⟨i,u,rfl,hi,hi10,rfl,hu,hon⟩:=hrel
  by_cases hlt:i<n
  ·have hib:i<bs.length:=by rw[HL.out];exact hlt
   obtain⟨b,o,rfl,hbw,hcl⟩:=HR.out.at_ (by omega);have k0:w.cell? ⟨b,o+i,none⟩=some (.int .u8 bs[i].toNat):=hcl i _ (u8s_get bs i hib);obtain⟨x,hx⟩:∃ x,x=bs[i].toNat:=⟨_,rfl⟩;rw[← hx]at k0;have HX:=Lib.hid hx
   have hx256:x<256:=by rw[hx];exact bs[i].toNat_lt
   have hin:(i:Int)<n:=by omega
   clear hx hcl
   by_cases h10:i=10
   ·have f1:decide ((9:Int)<i)=true:=by simp;omega
    have f2:decide (9<i)=true:=by simp;omega
    have hno:Hid (∀ u n,¬Begins bs u n):=by
     intro u n hb;obtain⟨q,rfl,hoq,hq,h1,_,h3⟩:=hb.ends;have h10':=sev_ten hb.1;have hl:=hb.len;have:=hon.out q hq (by omega);omega
    clear h10;go_wp2;go_ret3;exact⟨Below.refl _ _,0,0,false,rfl,(fun h=>Bool.noConfusion h),fun _=>hno.out⟩
   ·have f1:decide ((9:Int)<i)=false:=by simp;omega
    have f2:decide (9<i)=false:=by simp;omega
    obtain⟨u2,hu2⟩:∃ u2,u2=val (bs.take (i+1)) % 18446744073709551616:=⟨_,rfl⟩
    have hadd:Hid (IntKind.u64.wrap ((u:Int)+IntKind.u64.wrap ((x:Int) % 128*2 ^ (7*i)))=(u2:Int)):=by
     unfold Hid
     have ep:(2:Int) ^ (7*i)=((128 ^ i:Nat):Int):=by
      have:2 ^ (7*i)=128 ^ i:=by rw[Nat.pow_mul]
      rw[← this];push_cast;rfl
     rw[hu,add_step _ x i _ ep,hu2,val_take_succ _ _ hib,HX.out]
    have hadd':=hadd.out
    have hu2lt:u2<18446744073709551616:=by rw[hu2];exact Nat.mod_lt _ (by decide)
    have HU2:=Lib.hid hu2;clear hu2
    by_cases h128:128≤x
    ·have hon2:Hid (On bs (i+1)):=hon.out.step hib (by rw[← HX.out];exact h128)
     go_wp2
     go_round
     case rel=>exact⟨i+1,u2,by go_num,by omega,by omega,rfl,HU2.out,hon2⟩
     case measure=>simp[intOf];omega
    ·obtain⟨v,hv⟩:∃ v,v=unfoldN u2:=⟨_,rfl⟩
     have hvr:=unfold_in hu2lt;rw[← hv]at hvr;obtain⟨hv1,hv2⟩:=hvr
     have hok:Hid ((numB v=bs.take (i+1)→Begins bs (foldN v) (i+1))∧(numB v≠bs.take (i+1)→∀ u n,¬Begins bs u n)):=by
      refine⟨fun h=>begins_numB hv1 hv2 (by omega) h,fun h u n hb=>h ?_⟩;obtain⟨h1,h2,_⟩:=hb.at_ hon.out hib (by rw[← HX.out];omega)
      have h3:u2=u:=by rw[HU2.out,← h2];exact Nat.mod_eq_of_lt hb.1
      rw[hv,h3];unfold numB;rw[fold_unfold,← hb.2.2,h1]
     obtain⟨m,hm⟩:∃ m,m=i+1:=⟨_,rfl⟩
     have hm1:Hid (IntKind.i64.wrap ((i:Int)+1)=(m:Int)):=by unfold Hid;rw[IntWalk.i64_in _ (by omega)];omega
     have hm1':=hm1.out;have hwm:IntKind.i64.wrap (m:Int)=(m:Int):=IntWalk.i64_in _ (by omega)
     have hm2:Hid ((i:Int)+1=(m:Int)):=by unfold Hid;omega
     have hm2':=hm2.out
     have hml:m≤n:=by omega
     have hmi:(m:Int)≤n:=by omega
     rw[← hm]at hok;clear hm
     have hmc:m≤c:=by have:=HR.out.cap;omega
     have hcut:=fun W=>run_cut_to (P:=Tryz.prog) 25 5 1 Tryz.underlying25 (Classical.choose_spec info_parts8).1 (Classical.choose_spec info_parts8).2.2.1 (some ⟨b,o,none⟩) n c m hmc W
     have HTO:Hid (Rd w w.heap.size 1 (some ⟨b,o,none⟩) m c (u8s (bs.take m))):=by
      have h1:=HR.out.to_ hml;rw[Nat.mul_one,← u8s_take]at h1;exact h1
     have hs0:=run_str (P:=Tryz.prog) w.drew 25 9 5 Tryz.underlying25 Tryz.underlying5 Tryz.underlying9 HTO.out.drew
     by_cases hodd:u2 % 2=1
     ·have e1:Hid (-((u2:Int) / 2)-1=v):=by unfold Hid;rw[hv];unfold unfoldN;rw[if_pos hodd];omega
      have e1':=e1.out
      have e2:((u2:Int) % 2==1)=true:=by simp;omega
      clear hv;go_wp2
      go_region_law (go_simp;go_at_call 111;refine (refnum_any v _ hv1 hv2).mono ?_;rintro e w1 ⟨A1,c1,rfl,ho1,hb1⟩;(have hs1:=run_str (P:=Tryz.prog) w1 25 9 5 Tryz.underlying25 Tryz.underlying5 Tryz.underlying9 ho1.rd);(have hs2:=run_str (P:=Tryz.prog) w1 25 9 5 Tryz.underlying25 Tryz.underlying5 Tryz.underlying9 (HTO.out.drew.later hb1)))
      all_goals
       go_wp2;go_ret3;exact⟨(Below.refl w.heap.size w).drew.trans hb1,v,m,_,rfl,fun h=>⟨hok.out.1 (str_beq.1 h),hv1,hv2⟩,fun h=>hok.out.2 fun h2=>by rw[str_beq.2 h2]at h;cases h⟩
     ·have e1:Hid ((u2:Int) / 2=v):=by unfold Hid;rw[hv];unfold unfoldN;rw[if_neg hodd];omega
      have e1':=e1.out
      have e2:((u2:Int) % 2==1)=false:=by simp;omega
      clear hv;go_wp2
      go_region_law (go_simp;go_at_call 111;refine (refnum_any v _ hv1 hv2).mono ?_;rintro e w1 ⟨A1,c1,rfl,ho1,hb1⟩;(have hs1:=run_str (P:=Tryz.prog) w1 25 9 5 Tryz.underlying25 Tryz.underlying5 Tryz.underlying9 ho1.rd);(have hs2:=run_str (P:=Tryz.prog) w1 25 9 5 Tryz.underlying25 Tryz.underlying5 Tryz.underlying9 (HTO.out.drew.later hb1)))
      all_goals
       go_wp2;go_ret3;exact⟨(Below.refl w.heap.size w).drew.trans hb1,v,m,_,rfl,fun h=>⟨hok.out.1 (str_beq.1 h),hv1,hv2⟩,fun h=>hok.out.2 fun h2=>by rw[str_beq.2 h2]at h;cases h⟩
  ·have hno:Hid (∀ u n,¬Begins bs u n):=by
    have he:i=bs.length:=by rw[HL.out];omega
    rw[he]at hon;exact no_begins_end hon
   go_wp2;go_ret3;exact⟨Below.refl _ _,0,0,false,rfl,(fun h=>Bool.noConfusion h),fun _=>hno.out⟩
end Codec
end Go.Proofs.YtcbpgemiffmieaaGreat
namespace Go.Proofs.YtcbpgemiffmieaaGreat
open Go.RowKit
namespace Codec
def RNum (B:Nat) (bs:List UInt8) (bad:Bool) (most:Int) (w:World) (e:Ending) (w':World):Prop:=
 Below w.heap.size w w' ∧
 ((bad=false∧∃ v rest A c,bs=numB v++rest ∧ -most≤v∧v≤most∧e = .returned (.tuple #[.int .i64 v,.agg #[.slice A rest.length c,.bool false]])∧Rd w' B 1 A rest.length c (u8s rest)) ∨
 ((bad=true∨∀ v rest,-most≤v→v≤most→bs≠numB v++rest)∧e = .returned (.tuple #[.int .i64 0,.agg #[.slice none 0 0,.bool true]])))
theorem rnum_cells {w w1:World} {S:Value} {bad:Bool} {T:Nat} (hb:Below ((w.alloc (.cells #[S,.bool bad] T)).alloc (.cells #[.slice none 0 0,.bool false] T)).heap.size ((w.alloc (.cells #[S,.bool bad] T)).alloc (.cells #[.slice none 0 0,.bool false] T)) w1) :
  w1.cell? ⟨w.heap.size,0,none⟩=some S∧w1.cell? ⟨w.heap.size,1,none⟩=some (.bool bad)∧w1.cell? ⟨w.heap.size+1,0,none⟩=some (.slice none 0 0)∧w1.cell? ⟨w.heap.size+1,1,none⟩=some (.bool false) ∧
  w1.frozen? ⟨w.heap.size+1,0,none⟩=false∧w1.frozen? ⟨w.heap.size+1,1,none⟩=false∧Below w.heap.size w w1∧w.heap.size+1<w1.heap.size:=by
 have hs:=hb.size;simp only[World.size_alloc]at hs;refine⟨(hb.cell (by simp;omega)).trans (by go_simp),(hb.cell (by simp;omega)).trans (by go_simp),(hb.cell (by simp)).trans (by go_simp),(hb.cell (by simp)).trans (by go_simp),(hb.frozen (by simp)).trans (by go_simp),(hb.frozen (by simp)).trans (by go_simp),?_,by omega⟩;exact (((Below.refl _ _).alloc (Nat.le_refl _) _).alloc (by simp) _).trans (hb.mono (by simp;omega))
set_option maxRecDepth 100000 in
set_option maxHeartbeats 1000000 in
theorem rnum_any (bs:List UInt8) (n:Nat) (A:Option Addr) (c:Nat) (bad:Bool) (most:Int) (w:World) (hl:bs.length=n) (hn:n≤900000) {B:Nat} (hBw:B≤w.heap.size) (hr:Rd w B 1 A n c (u8s bs)) (h1 : -9223372036854775808≤most) (h2:most≤9223372036854775807) :
  Calls Tryz.prog 86 #[.agg #[.slice A n c,.bool bad],.int .i64 most] w (RNum B bs bad most w):=by
 have HR:=Lib.hid hr;have HL:=Lib.hid hl;clear hr hl;have HT:=Lib.hid (take_any bs n A c ((w.alloc (.cells #[.slice A n c,.bool bad] 51)).alloc (.cells #[.slice none 0 0,.bool false] 51)) HL.out hn (((HR.out.alloc hBw _).alloc (by simp;omega) _).more (by simp;omega)))
 by_cases hok:bad=false∧∃ v rest,bs=numB v++rest ∧ -most≤v∧v≤most
 ·obtain⟨rfl,v,rest,e0,g1,g2⟩:=hok
  have hlen:Hid (n=(numB v).length+rest.length):=by
   unfold Hid;rw[← HL.out,e0,List.length_append]
  have hnum:=numB_pos v;obtain⟨k,hk⟩:∃ k,k=(numB v).length:=⟨_,rfl⟩
  have hkn:k≤n:=by have:=hlen.out;omega
  have hrest:Hid (rest=bs.drop k):=by unfold Hid;rw[e0,hk];simp
  have hrl:Hid (rest.length=n-k):=by unfold Hid;have:=hlen.out;omega
  have HT2:Hid (Calls Tryz.prog 119 #[.slice A n c] ((w.alloc (.cells #[.slice A n c,.bool false] 51)).alloc (.cells #[.slice none 0 0,.bool false] 51)) fun e w'=>
    e = .returned (.tuple #[.int .i64 v,.int .i64 k,.bool true])∧Below ((w.alloc (.cells #[.slice A n c,.bool false] 51)).alloc (.cells #[.slice none 0 0,.bool false] 51)).heap.size ((w.alloc (.cells #[.slice A n c,.bool false] 51)).alloc (.cells #[.slice none 0 0,.bool false] 51)) w'):=by
   refine HT.out.mono fun e w' hh=>?_;obtain⟨hb,v',k',ok,he,ht,hf⟩:=hh
   have hbe:Begins bs (foldN v) k:=by rw[e0,hk];exact begins_of (fold_lt (by omega) (by omega)) rest
   cases ok with
   | false=>exact absurd hbe (hf rfl _ _)
   | true=>
    obtain⟨hb1,_⟩:=ht rfl;obtain⟨hu,rfl⟩:=hb1.uniq hbe
    have hv:v'=v:=by rw[← unfold_fold v',hu,unfold_fold]
    exact⟨by rw[he,hv],hb⟩
  have f1:decide (most<0)=false:=by simp;omega
  have f2:decide (v < -most)=false:=by simp;omega
  have f3:decide (most<v)=false:=by simp;omega
  have f4:IntKind.i64.wrap (-most) = -most:=IntWalk.i64_in _ (by omega);have hcut:=fun W=>run_cut_from (P:=Tryz.prog) 25 5 1 Tryz.underlying25 (Classical.choose_spec info_parts8).1 (Classical.choose_spec info_parts8).2.2.1 A n c k hkn W;have hfrom:=HR.out.from_ hkn
  obtain⟨V,hV⟩:∃ V,V=(if c=k then A else A.map (·.add (k*1))):=⟨_,rfl⟩
  rw[← hV]at hfrom;simp only[← hV]at hcut;have HF:=Lib.hid hfrom;have HE:=Lib.hid e0
  have hki:(k:Int)≤n:=by omega
  clear hV hfrom hk e0 HT hnum;go_enter Tryz.func86,Tryz.ntmps86;go_wp2_with (go_at_call 119;refine HT2.out.mono ?_;rintro e w1 ⟨rfl,hb1⟩;obtain⟨c0,c1,c2,c3,z0,z1,hB,hsz⟩:=rnum_cells hb1;have HB:=Lib.hid hB;clear hb1 hB)
  go_region
  all_goals
   go_wp2;have hB':Below w.heap.size w ((w1.setCell ⟨w.heap.size+1,0,none⟩ (.slice V (n-k) (c-k))).setCell ⟨w.heap.size+1,1,none⟩ (.bool false)):=(HB.out.setCell (p:=⟨w.heap.size+1,0,none⟩) (by simp) _).setCell (p:=⟨w.heap.size+1,1,none⟩) (by simp) _
   have hrd:Rd ((w1.setCell ⟨w.heap.size+1,0,none⟩ (.slice V (n-k) (c-k))).setCell ⟨w.heap.size+1,1,none⟩ (.bool false)) B 1 V rest.length (c-k) (u8s rest):=by
    have h3:=HF.out.below (hB'.mono hBw);rw[hrl.out,hrest.out,u8s_drop]
    simpa only [Nat.mul_one] using h3
   refine bodyPost_ret (v:=.tuple #[.int .i64 v,.agg #[.slice V (n-k) (c-k),.bool false]]) (by simp[results,Tryz.results86,go_sem,c2,c3]) rfl ⟨hB'.drew,.inl ⟨rfl,v,rest,V,c-k,HE.out,g1,g2,?_,hrd.drew⟩⟩;rw[hrl.out]
 ·have hno:Hid (bad=true∨∀ v rest,-most≤v→v≤most→bs≠numB v++rest):=by
   unfold Hid
   cases bad with
   | true=>exact .inl rfl
   | false=>exact .inr fun v rest g1 g2 e=>hok ⟨rfl,v,rest,e,g1,g2⟩
  have key:∀ (v:Int) (k:Nat) (ok:Bool),(ok=true→Begins bs (foldN v) k ∧ -9223372036854775808≤v∧v≤9223372036854775807)→bad=true∨(bad=false∧ok=false)∨(bad=false∧ok=true∧decide (most<0)=true)∨(bad=false∧ok=true∧decide (most<0)=false∧decide (most<v)=true)∨(bad=false∧ok=true∧decide (most<0)=false∧decide (most<v)=false∧IntKind.i64.wrap (-most) = -most∧decide (v < -most)=true):=by
   intro v k ok hk
   cases bad with
   | true=>exact .inl rfl
   | false=>
    cases ok with
    | false=>exact .inr (.inl ⟨rfl,rfl⟩)
    | true=>
     obtain⟨hb,h3,h4⟩:=hk rfl
     by_cases g1:most<0
     ·exact .inr (.inr (.inl ⟨rfl,rfl,by simpa using g1⟩))
     ·by_cases g2:most<v
      ·exact .inr (.inr (.inr (.inl ⟨rfl,rfl,by simpa using g1,by simpa using g2⟩)))
      ·refine .inr (.inr (.inr (.inr ⟨rfl,rfl,by simpa using g1,by simpa using g2,IntWalk.i64_in _ (by omega),?_⟩)))
       have hs:=hb.split;have:¬ -most≤v:=fun g3=>hok ⟨rfl,v,_,hs,g3,by omega⟩
       simp;omega
  have KEY:=Lib.hid key;clear key hok;go_enter Tryz.func86,Tryz.ntmps86;go_wp2_with (go_at_call 119;refine HT.out.mono ?_;rintro e w1 ⟨hb1,v,k,ok,rfl,hk1,hk2⟩;obtain⟨c0,c1,c2,c3,z0,z1,hB,hsz⟩:=rnum_cells hb1;have HB:=Lib.hid hB;have HK:=Lib.hid (KEY.out v k ok hk1);clear hb1 hB hk1 hk2;rcases HK.out with rfl | ⟨rfl,rfl⟩ | ⟨rfl,rfl,q1⟩ | ⟨rfl,rfl,q1,q2⟩ | ⟨rfl,rfl,q1,q2,q3,q4⟩)
  all_goals
   have hB':Below w.heap.size w ((w1.setCell ⟨w.heap.size+1,0,none⟩ (.slice none 0 0)).setCell ⟨w.heap.size+1,1,none⟩ (.bool true)):=(HB.out.setCell (p:=⟨w.heap.size+1,0,none⟩) (by simp) _).setCell (p:=⟨w.heap.size+1,1,none⟩) (by simp) _;refine bodyPost_ret (v:=.tuple #[.int .i64 0,.agg #[.slice none 0 0,.bool true]]) (by simp[results,Tryz.results86,go_sem,c2,c3]) rfl ⟨hB',.inr ⟨(by first | exact hno.out | exact .inl rfl),rfl⟩⟩
def RText (B:Nat) (bs:List UInt8) (bad:Bool) (most:Int) (w:World) (e:Ending) (w':World):Prop:=
 Below w.heap.size w w' ∧
 ((bad=false∧∃ s rest A c,bs=textB s++rest∧(s.length:Int)≤most∧e = .returned (.tuple #[.string (strOf s),.agg #[.slice A rest.length c,.bool false]])∧Rd w' B 1 A rest.length c (u8s rest)) ∨
 ((bad=true∨∀ s rest,(s.length:Int)≤most→bs≠textB s++rest)∧e = .returned (.tuple #[.string ⟨#[]⟩,.agg #[.slice none 0 0,.bool true]])))
theorem rtext_facts {rest:List UInt8} {W:World} {B:Nat} {A:Option Addr} {c k:Nat} (hr:Rd W B 1 A rest.length c (u8s rest)) (hk:k≤rest.length) :
  ∃ V,(∀ W,(Instr.slice 25 (.slice A rest.length c) (some (.int .i64 (k:Nat))) none none).run Tryz.prog W = .ok (.slice V (rest.length-k) (c-k)) W) ∧
   (∀ W,(Instr.slice 25 (.slice A rest.length c) none (some (.int .i64 (k:Nat))) none).run Tryz.prog W = .ok (.slice A k c) W) ∧
   (convert 25 9 (.slice A k c)).run Tryz.prog W = .ok (.string (strOf (rest.take k))) W ∧
   Hid (Rd W B 1 V (rest.length-k) (c-k) (u8s (rest.drop k))):=by
 have hkc:k≤c:=by have:=hr.cap;omega
 have hto:=hr.to_ hk;rw[Nat.mul_one,← u8s_take]at hto;have hfrom:=hr.from_ hk
 exact⟨_,fun W=>run_cut_from (P:=Tryz.prog) 25 5 1 Tryz.underlying25 (Classical.choose_spec info_parts8).1 (Classical.choose_spec info_parts8).2.2.1 A rest.length c k hk W,
  fun W=>run_cut_to (P:=Tryz.prog) 25 5 1 Tryz.underlying25 (Classical.choose_spec info_parts8).1 (Classical.choose_spec info_parts8).2.2.1 A rest.length c k hkc W,
  run_str (P:=Tryz.prog) W 25 9 5 Tryz.underlying25 Tryz.underlying5 Tryz.underlying9 hto,
  by unfold Hid;rw[u8s_drop];simpa only [Nat.mul_one] using hfrom⟩
theorem rtext_cut {rest:List UInt8} {W:World} {B:Nat} {A V:Option Addr} {c k:Nat} (hr:Rd W B 1 A rest.length c (u8s rest)) (hk:k≤rest.length)
  (hV:∀ W,(Instr.slice 25 (.slice A rest.length c) (some (.int .i64 (k:Nat))) none none).run Tryz.prog W = .ok (.slice V (rest.length-k) (c-k)) W):Rd W B 1 V (rest.length-k) (c-k) (u8s (rest.drop k)):=by
 have h1:=run_cut_from (P:=Tryz.prog) 25 5 1 Tryz.underlying25 (Classical.choose_spec info_parts8).1 (Classical.choose_spec info_parts8).2.2.1 A rest.length c k hk W;rw[hV W]at h1;injection h1 with h1 _;injection h1 with h1;rw[h1,u8s_drop];have hfrom:=hr.from_ hk
 simpa only [Nat.mul_one] using hfrom
set_option maxRecDepth 100000 in
set_option maxHeartbeats 1000000 in
theorem rtext_any (bs:List UInt8) (n:Nat) (A:Option Addr) (c:Nat) (bad:Bool) (most:Int) (w:World) (hl:bs.length=n) (hn:n≤900000) {B:Nat} (hBw:B≤w.heap.size) (hr:Rd w B 1 A n c (u8s bs)) (h1 : -9223372036854775808≤most) (h2:most≤9223372036854775807) :
  Calls Tryz.prog 88 #[.agg #[.slice A n c,.bool bad],.int .i64 most] w (RText B bs bad most w):=by
 have HN:=Lib.hid (rnum_any bs n A c bad most ((w.alloc (.cells #[.slice A n c,.bool bad] 51)).alloc (.cells #[.slice none 0 0,.bool false] 51)) hl hn (B:=B) (by simp;omega) ((hr.alloc hBw _).alloc (by simp;omega) _) h1 h2);have HL:=Lib.hid hl;have HR:=Lib.hid hr;clear hr hl
 by_cases hok:bad=false∧∃ s rest,bs=textB s++rest∧(s.length:Int)≤most
 ·obtain⟨rfl,s,rest,e0,g1⟩:=hok
  obtain⟨mid,hmid⟩:∃ mid,mid=s++rest:=⟨_,rfl⟩;obtain⟨k,hk⟩:∃ k,k=s.length:=⟨_,rfl⟩
  have hkm:k≤mid.length:=by rw[hmid,hk,List.length_append];omega
  have e1:bs=numB (s.length:Int)++mid:=by rw[e0,hmid];unfold textB;rw[List.append_assoc]
  have HT:Hid (mid.take k=s∧mid.drop k=rest∧rest.length=mid.length-k):=by
   unfold Hid;rw[hmid,hk];simp
  have HN2:Hid (Calls Tryz.prog 86 #[.agg #[.slice A n c,.bool false],.int .i64 most] ((w.alloc (.cells #[.slice A n c,.bool false] 51)).alloc (.cells #[.slice none 0 0,.bool false] 51)) fun e w'=>
    ∃ A1 c1,e = .returned (.tuple #[.int .i64 k,.agg #[.slice A1 mid.length c1,.bool false]])∧Rd w' B 1 A1 mid.length c1 (u8s mid)∧Below ((w.alloc (.cells #[.slice A n c,.bool false] 51)).alloc (.cells #[.slice none 0 0,.bool false] 51)).heap.size ((w.alloc (.cells #[.slice A n c,.bool false] 51)).alloc (.cells #[.slice none 0 0,.bool false] 51)) w'):=by
   refine HN.out.mono fun e w' hh=>?_;obtain⟨hb,⟨_,v,r,A1,c1,e2,g2,g3,he,hrd⟩ | ⟨hno,_⟩⟩:=hh
   ·obtain⟨hv,rfl⟩:=numB_prefix (e1.symm.trans e2)
    subst hv;rw[hk];exact⟨A1,c1,he,hrd,hb⟩
   ·rcases hno with h | h
    ·cases h
    ·exact absurd e1 (h _ _ (by omega) g1)
  have f0:decide ((k:Int)<0)=false:=by simp
  have f1:decide ((mid.length:Int)<k)=false:=by simp;omega
  have f2:decide (mid.length<k)=false:=by simp;omega
  have HE:=Lib.hid e0;clear e0 e1 hmid hk HN;go_enter Tryz.func88,Tryz.ntmps88;go_wp2_with (go_at_call 86;refine HN2.out.mono ?_;rintro e w1 ⟨A1,c1,rfl,hr1,hb1⟩;obtain⟨c0,c1',c2,c3,z0,z1,hB,hsz⟩:=rnum_cells hb1;have HB:=Lib.hid hB;obtain⟨V,hcut,hcut2,hs2,hrd2⟩:=rtext_facts (((hr1.alloc (Nat.le_trans hBw hB.size) (.cells #[.slice A1 mid.length c1,.bool false] 51))).drew) hkm;have HRD:=Lib.hid (rtext_cut hr1 hkm hcut);clear hb1 hB hr1)
  go_region
  all_goals
   go_wp2;have hB0:Below w.heap.size w ((w1.setCell ⟨w.heap.size+1,0,none⟩ (.slice V (mid.length-k) (c1-k))).setCell ⟨w.heap.size+1,1,none⟩ (.bool false)):=(HB.out.setCell (p:=⟨w.heap.size+1,0,none⟩) (by simp) _).setCell (p:=⟨w.heap.size+1,1,none⟩) (by simp) _;have hB':=hB0.alloc hB0.size (.cells #[.slice A1 mid.length c1,.bool false] 51);have hrd:=((HRD.out.setCell (p:=⟨w.heap.size+1,0,none⟩) (show B≤w.heap.size+1 by omega) (.slice V (mid.length-k) (c1-k))).setCell (p:=⟨w.heap.size+1,1,none⟩) (show B≤w.heap.size+1 by omega) (.bool false)).alloc (Nat.le_trans hBw hB0.size) (.cells #[.slice A1 mid.length c1,.bool false] 51)
   have hto:∀ W,Rd W B 1 V (mid.length-k) (c1-k) (u8s (mid.drop k))→Rd W B 1 V rest.length (c1-k) (u8s rest):=fun W h=>by
    rw[HT.out.2.1,← HT.out.2.2]at h;exact h
   refine bodyPost_ret (v:=.tuple #[.string (strOf s),.agg #[.slice V (mid.length-k) (c1-k),.bool false]]) (by simp[results,Tryz.results88,go_sem,c2,c3,hsz,HT.out.1]) rfl ⟨hB'.drew,.inl ⟨rfl,s,rest,V,c1-k,HE.out,g1,?_,hto _ hrd.drew⟩⟩;rw[HT.out.2.2]
 ·have key:∀ (e:Ending) (w':World),RNum B bs bad most ((w.alloc (.cells #[.slice A n c,.bool bad] 51)).alloc (.cells #[.slice none 0 0,.bool false] 51)) e w' →
    ∃ (v:Int) (A1:Option Addr) (m c1:Nat) (bad':Bool),e = .returned (.tuple #[.int .i64 v,.agg #[.slice A1 m c1,.bool bad']])∧Below ((w.alloc (.cells #[.slice A n c,.bool bad] 51)).alloc (.cells #[.slice none 0 0,.bool false] 51)).heap.size ((w.alloc (.cells #[.slice A n c,.bool bad] 51)).alloc (.cells #[.slice none 0 0,.bool false] 51)) w' ∧
     (bad'=true∨(bad'=false∧decide (v<0)=true)∨(bad'=false∧decide (v<0)=false∧decide ((m:Int)<v)=true)):=by
   intro e w' hh;obtain⟨hb,⟨hbf,v,r,A1,c1,e2,g2,g3,he,hrd⟩ | ⟨hno,he⟩⟩:=hh
   ·refine⟨v,A1,r.length,c1,false,he,hb,.inr ?_⟩
    by_cases g1:v<0
    ·exact .inl ⟨rfl,by simpa using g1⟩
    ·refine .inr ⟨rfl,by simpa using g1,?_⟩
     simp only[decide_eq_true_eq]
     apply Classical.byContradiction
     intro g4;obtain⟨k,rfl⟩:∃ k:Nat,v=(k:Int):=⟨v.toNat,by omega⟩
     apply hok
     refine⟨hbf,r.take k,r.drop k,?_,?_⟩
     ·unfold textB
      rw[List.length_take,Nat.min_eq_left (by omega),List.append_assoc,List.take_append_drop];exact e2
     ·rw[List.length_take,Nat.min_eq_left (by omega)];exact g3
   ·exact⟨0,none,0,0,true,he,hb,.inl rfl⟩
  have hno:Hid (bad=true∨∀ s rest,(s.length:Int)≤most→bs≠textB s++rest):=by
   unfold Hid
   cases bad with
   | true=>exact .inl rfl
   | false=>exact .inr fun s rest g1 e=>hok ⟨rfl,s,rest,e,g1⟩
  have KEY:=Lib.hid key;clear key hok;go_enter Tryz.func88,Tryz.ntmps88;go_wp2_with (go_at_call 86;refine HN.out.mono ?_;intro e w1 hh;obtain⟨v,A1,m,c1,bad',rfl,hb1,hq⟩:=KEY.out e w1 hh;obtain⟨c0,c1',c2,c3,z0,z1,hB,hsz⟩:=rnum_cells hb1;have HB:=Lib.hid hB;clear hb1 hB hh;rcases hq with rfl | ⟨rfl,q1⟩ | ⟨rfl,q1,q2⟩)
  all_goals
   have hB0:Below w.heap.size w ((w1.setCell ⟨w.heap.size+1,0,none⟩ (.slice none 0 0)).setCell ⟨w.heap.size+1,1,none⟩ (.bool true)):=(HB.out.setCell (p:=⟨w.heap.size+1,0,none⟩) (by simp) _).setCell (p:=⟨w.heap.size+1,1,none⟩) (by simp) _;have hB':=fun bad'=>hB0.alloc hB0.size (.cells #[.slice A1 m c1,.bool bad'] 51);refine bodyPost_ret (v:=.tuple #[.string ⟨#[]⟩,.agg #[.slice none 0 0,.bool true]]) (by simp[results,Tryz.results88,go_sem,c2,c3,hsz]) rfl ⟨hB' _,.inr ⟨(by first | exact hno.out | exact .inl rfl),rfl⟩⟩
theorem rdone_any (n:Nat) (A:Option Addr) (c:Nat) (bad:Bool) (w:World) :
  Calls Tryz.prog 18 #[.agg #[.slice A n c,.bool bad]] w fun e w'=>e = .returned (.bool (!bad&&((n:Int)==0)))∧Below w.heap.size w w':=by
 cases bad with
 | true=>
  go_enter Tryz.func18,Tryz.ntmps18;go_wp2;go_ret;exact⟨rfl,(Below.refl _ _).alloc (Nat.le_refl _) _⟩
 | false=>
  go_enter Tryz.func18,Tryz.ntmps18;go_wp2;go_ret;exact⟨rfl,(Below.refl _ _).alloc (Nat.le_refl _) _⟩
end Codec
end Go.Proofs.YtcbpgemiffmieaaGreat
namespace Go.Proofs.YtcbpgemiffmieaaGreat
open Go.ChangeShapes Go.WideShapes Go.ChangeAt Go.RowKit
namespace Pk
open Tr Cx Sp Codec
theorem num_one_eq (v:Int):[v].flatMap numB=numB v:=by simp
theorem num_two_eq (v u:Int):[v,u].flatMap numB=numB v++numB u:=by simp
theorem num_three_eq (a b c:Int):[a,b,c].flatMap numB=numB a++numB b++numB c:=by simp
theorem run_rows (W:World) (base:Nat) (v:Value) (acc bs:List UInt8) (hown:W.ownsRow base 5 1 v acc.length (u8s acc)) {A:Option Addr} {n c B:Nat} (hn:bs.length=n) (hr:Rd W B 1 A n c (u8s bs)) (h6:acc.length+n≤1000000) (hb:base≤W.heap.size) :
  ∃ v' w',(Builtin.append_ #[25,25] 25 #[v,.slice A n c]).run Tryz.prog W = .ok v' w'∧w'.ownsRow base 5 1 v' (acc++bs).length (u8s (acc++bs))∧Below base W w':=by
 obtain⟨i0,hi0,hz0,hz1,hz2⟩:=info_parts8;obtain⟨v',w',h1,h2,h3,h4⟩:=run_app (P:=Tryz.prog) W base 25 25 5 i0 _ 1 1 Tryz.underlying25 hi0 hz0 hz1 hz2 rfl (by omega) hown hr (by omega) (by omega) hb;refine⟨v',w',h1,?_,(Below.refl base W).grown h3 hb (fun k hk=>(hown.lt k hk).1)⟩;rw[u8s_append,List.length_append,hn];exact h2
set_option maxRecDepth 100000 in
set_option maxHeartbeats 1000000 in
theorem nums_any (l:List Int) (n:Nat) (A:Option Addr) (c:Nat) (w:World) (hn:l.length=n) (hb:n≤100) (hl:∀ v∈l,I64 v) (hr:Rd w w.heap.size 1 A n c (l.map fun v=>.int .i64 v)) :
  Calls Tryz.prog 78 #[.slice A n c] w (NewRow 5 1 (u8s (l.flatMap numB)) (l.flatMap numB).length w):=by
 subst hn;have HR:=Lib.hid hr;have HL:=Lib.hid hl;clear hr hl;go_enter Tryz.func78,Tryz.ntmps78;go_wp2
 go_loopw [3,7] (fun v q wr=>∃ (k:Nat) (acc:List UInt8),q = .int .i64 k∧k≤l.length∧wr.ownsRow w.heap.size 5 1 v acc.length (u8s acc)∧Below w.heap.size w wr∧Hid (acc=(l.take k).flatMap numB)) (fun _ q _=>(l.length-intOf q).toNat)
 case atStart=>exact⟨0,[],rfl,Nat.zero_le _,World.ownsRow_nil _ _ _ _,Below.refl _ _,rfl⟩
 case round=>
  obtain⟨k,acc,rfl,hk,hown,hB,hacc⟩:=hrel
  by_cases hlt:k<l.length
  ·obtain⟨b,o,rfl,hbw,hcl⟩:=HR.out.at_ (by omega)
   have kN:wr.cell? ⟨b,o+k,none⟩=some (.int .i64 l[k]):=(hB.cell (p:=⟨b,o+k,none⟩) hbw).trans (hcl _ _ (by simp[hlt]));obtain⟨v,hv⟩:∃ v,v=l[k]:=⟨_,rfl⟩;have h64:I64 v:=hv▸HL.out _ (List.getElem_mem hlt)
   have hT:Hid (acc++numB v=(l.take (k+1)).flatMap numB):=by unfold Hid;rw[flat_take numB hlt,← hacc.out,hv]
   have h10:=num_le h64
   have hsz:acc.length+(numB v).length≤1000000:=by
    have h1:=nums_le (l:=l.take k) fun u hu=>HL.out u (List.mem_of_mem_take hu);rw[← hacc.out,List.length_take]at h1;omega
   have hki:(k:Int)<l.length:=by omega
   rw[← hv]at kN;clear hcl hv
   go_wp2_with (first
    | (go_at_call 111;refine (refnum_any v wr h64.1 h64.2).mono ?_;rintro e w1 ⟨A1,c1,rfl,ho1,hb1⟩;obtain⟨v2,w2,hrun,hown2,hb2⟩:=run_rows w1 w.heap.size _ acc _ (ownsRow_later hown hb1) rfl ho1.rd hsz (Nat.le_trans hB.size hb1.size);have Hrun:=Lib.hid hrun;clear hrun)
    | (at_builtin;refine Lib.wpList_append_run _ rfl _ _ _ _ rfl _ _ rfl rfl _ _ Hrun.out ?_))
   go_roundw
   case rel=>exact⟨k+1,acc++numB v,by go_num,by omega,hown2,(hB.trans (hb1.mono hB.size)).trans hb2,hT.out⟩
   case measure=>simp[intOf];omega
  ·have hfin:Hid (l.flatMap numB=acc):=by
    have:k=l.length:=by omega
    subst this;rw[List.take_length]at hacc;exact hacc.out.symm
   obtain⟨A2,c2,rfl,ho2⟩:=Own.of_row hown (u8s_one _);go_wp2;go_ret;rw[hfin.out];exact⟨A2,c2,rfl,ho2,hB⟩
theorem rd_lit (W:World) (vs:Array Value) (T n:Nat) (l:List Int) (hn:l.length=n) (hv:vs.toList=l.map fun v=>.int .i64 v):Rd (W.alloc (.cells vs T)) (W.alloc (.cells vs T)).heap.size 1 (some ⟨W.heap.size,0,none⟩) n n (l.map fun v=>.int .i64 v):=by
 refine⟨by simp[hn],Nat.le_refl _,fun u hu=>?_,fun _=>⟨_,_,rfl,by simp,fun j u hu=>?_⟩⟩
 ·obtain⟨v,_,rfl⟩:=List.mem_map.1 hu
  rfl
 ·rw[Nat.zero_add,cell_of_row _ _ j _ _ (0,0) (heap_alloc_new _ _)]
  rw[← hv]at hu
  simpa using hu
theorem nums_lit (l:List Int) (n:Nat) (W W':World) (p:Nat) (vs:Array Value) (T:Nat) (hW:W'=W.alloc (.cells vs T)) (hp:p=W.heap.size) (hn:l.length=n) (hb:n≤100) (hl:∀ v∈l,I64 v) (hv:vs.toList=l.map fun v=>.int .i64 v) :
  Calls Tryz.prog 78 #[.slice (some ⟨p,0,none⟩) n n] W' fun e w'=>∃ A m c,e = .returned (.slice A m c)∧Hid ((l.flatMap numB).length=m)∧Hid (Own w' W.heap.size 5 1 A m c (u8s (l.flatMap numB)))∧Hid (Below W.heap.size W w'):=by
 subst hp
 have hb1:Below W.heap.size W W':=by rw[hW];exact Dt.box_below _ _ _
 have hr:=rd_lit W vs T n l hn hv;rw[← hW]at hr;refine (nums_any l n _ n W' hn hb hl hr).mono ?_;rintro e w' ⟨A,c,rfl,ho,hb2⟩;exact⟨A,_,c,rfl,rfl,ho.mono hb1.size,hb1.trans (hb2.mono hb1.size)⟩
theorem text_lit (s:ByteArray) (W:World) (hs:s.size≤900000) :
  Calls Tryz.prog 84 #[.string s] W fun e w'=>∃ A m c,e = .returned (.slice A m c)∧Hid ((txtB s).length=m)∧Hid (Own w' W.heap.size 5 1 A m c (u8s (txtB s)))∧Hid (Below W.heap.size W w'):=by
 refine (reftext_any s W hs).mono ?_;rintro e w' ⟨A,c,rfl,ho,hb2⟩
 have h:txtB s=textB s.data.toList:=by unfold txtB textB;rw[text_len]
 rw[h];exact⟨A,_,c,rfl,rfl,ho,hb2⟩
structure OutR (w0:World) (l:List (Addr×Value)) (w:World) (v:Value) (acc:List UInt8):Prop where
 row:w.ownsRow w0.heap.size 5 1 v acc.length (u8s acc)
 kept:Kept l w0 w
 ne:∀ x∈l,v.ownBlock≠some x.1.block
namespace OutR
variable {w0 w w':World} {l:List (Addr×Value)} {v:Value} {acc:List UInt8}
theorem later (h:OutR w0 l w v acc) (hb:Below w.heap.size w w'):OutR w0 l w' v acc:=⟨ownsRow_later h.row hb,h.kept.later hb,h.ne⟩
theorem cell (h:OutR w0 l w v acc) {p:Addr} {u:Value} (hp:∀ b,v.ownBlock=some b→b<p.block) (hv:w.cell? p=some u):OutR w0 ((p,u)::l) w v acc:=
 ⟨h.row,h.kept.cons_of hv,fun x hx=>by
  rcases List.mem_cons.1 hx with rfl | hx
  ·intro e
   have:=hp _ e;dsimp only at this;omega
  ·exact h.ne x hx⟩
theorem lt (h:OutR w0 l w v acc):∀ b,v.ownBlock=some b→b<w.heap.size:=fun b hb=>(h.row.lt b hb).2
theorem tail {x:Addr×Value} (h:OutR w0 (x::l) w v acc):OutR w0 l w v acc:=⟨h.row,h.kept.tail,fun y hy=>h.ne y (List.mem_cons_of_mem _ hy)⟩
theorem put {W:World} {bs acc2:List UInt8} (h:OutR w0 l w v acc) (hb0:Hid (Below w.heap.size w W)) {A:Option Addr} {m c B:Nat} (hn:Hid (bs.length=m)) (hr:Hid (Own W B 5 1 A m c (u8s bs))) (h6:acc2.length≤800000) (ha:Hid (acc++bs=acc2)) :
  ∃ v' w',Hid ((Builtin.append_ #[25,25] 25 #[v,.slice A m c]).run Tryz.prog W = .ok v' w')∧Hid (OutR w0 l w' v' acc2):=by
 have h:=h.later hb0.out;have ha2:acc++bs=acc2:=ha;have hl:=congrArg List.length ha2;rw[List.length_append,hn.out]at hl;obtain⟨i0,hi0,hz0,hz1,hz2⟩:=info_parts8;have hw:=h.kept.below.size;obtain⟨v',w',h1,h2,h3,h4⟩:=run_app (P:=Tryz.prog) W w0.heap.size 25 25 5 i0 _ 1 1 Tryz.underlying25 hi0 hz0 hz1 hz2 rfl (by omega) h.row hr.out.rd (by omega) (by omega) hw;rw[← u8s_append,ha2,hl]at h2;have hbl:=h.kept.below.grown h3 hw (fun k hk=>(h.row.lt k hk).1);refine⟨v',w',h1,h2,⟨hbl,fun x hx=>?_⟩,fun x hx=>?_⟩
 ·obtain⟨k1,k2⟩:=h.kept.2 x hx
  exact⟨Nat.lt_of_lt_of_le k1 h3.size,(World.cell?_of_block (h3.block _ k1 fun e=>h.ne x hx e.symm)).trans k2⟩
 ·have k1:=(h.kept.2 x hx).1
  rcases h4 with e | e
  ·rw[e];exact h.ne x hx
  ·rw[e]
   intro e2;injection e2 with e2;omega
theorem rdfirst (h:OutR w0 l w v acc) {sz n c:Nat} {A:Option Addr} {xs:List Value} (hr:Rd w0 w0.heap.size sz A n c xs):Rd w w.heap.size sz A n c xs:=(hr.below h.kept.below).more h.kept.below.size
end OutR
end Pk
end Go.Proofs.YtcbpgemiffmieaaGreat
namespace Go.Proofs.YtcbpgemiffmieaaGreat
open Go.ChangeShapes Go.WideShapes Go.ChangeAt Go.RowKit
namespace Tr
open Rw Sp
namespace KidRow
variable {w w':World} {base e n c:Nat} {A:Option Addr} {ks:List (ByteArray×T)} {kr:List (ByteArray×SV×SV)}
theorem push2 {t by_:Nat} {z:Value} (ht:Tryz.prog.underlying t=some (.slice e)) (hi:(Tryz.prog.info? e).map (fun i=>(i.zero,i.size,i.bytes))=some (some z,3,by_)) (hzs:z.cells.size=3) (hby:by_≤1000000)
  (h:KidRow w base e A n c ks kr) (p:Nat) (hp:w.heap.size=p) (hb:base≤w.heap.size) {k:ByteArray×SV×SV} {u:T} (hu:RdO w (fun b=>base≤b∧(Value.slice A n c).ownBlock≠some b) u k.2.1 k.2.2) (hn:n≤900000) (cs:Array Value) (hcs:cs=(kidC k).toArray) :
  ∃ A' c' w',(Builtin.append_ #[t,t] t #[.slice A n c,.slice (some ⟨p,0,none⟩) 1 1]).run Tryz.prog (w.alloc (.cells cs e)) = .ok (.slice A' (n+1) c') w' ∧
   KidRow w' base e A' (n+1) c' (ks++[(k.1,u)]) (kr++[k])∧Below base w w'∧∀ b,(Value.slice A n c).ownBlock≠some b→b<w.heap.size→(w'.heap[b]?=w.heap[b]?∧(Value.slice A' (n+1) c').ownBlock≠some b):=by
 subst hp;subst hcs;obtain⟨i0,hi0,hz0,hz1,hz2⟩:=info_of hi;have hown:=h.own.row
 obtain⟨v',w',r1,r2,r3,r4⟩:=run_app (P:=Tryz.prog) (w.alloc (.cells (kidC k).toArray e)) base t t e i0 z 3 by_ ht hi0 hz0 hz1 hz2 hzs (by omega)
  (hown.alloc _) (B:=w.heap.size+1) (A:=some ⟨w.heap.size,0,none⟩) (m:=1) (c:=1) (news:=kidC k)
  ⟨rfl,by omega,kidC_one k,fun _=>⟨_,_,rfl,by omega,fun j u hu=>by
   rw[Nat.zero_add,cell_of_row _ _ j _ _ (0,0) (heap_alloc_new _ _)]
   simpa using hu⟩⟩ (by omega) hby (by simp;omega)
 obtain⟨A',c',rfl,ho⟩:=Own.of_row r2 (fun u hu=>by
  rcases List.mem_append.1 hu with hu | hu
  ·exact h.own.one u hu
  ·exact kidC_one k u hu)
 have hbel:Below base w w':=((Below.refl base w).alloc hb _).grown r3 (by simp;omega) (fun k hk=>(hown.lt k hk).1)
 have hsize:w.heap.size≤w'.heap.size:=by have:=r3.size;simp at this;omega
 have hnew2:∀ b,(Value.slice A n c).ownBlock≠some b→b<w.heap.size→(Value.slice A' (n+1) c').ownBlock≠some b:=fun b hb hlt he=>by
  rcases r4 with r4 | r4
  ·exact hb (r4.symm.trans he)
  ·have:some b=some (w.alloc (.cells (kidC k).toArray e)).heap.size:=he.symm.trans r4
   injection this with this
   simp at this
   omega
 have hnew:∀ b,(base≤b∧(Value.slice A n c).ownBlock≠some b)→b<w.heap.size→base≤b∧(Value.slice A' (n+1) c').ownBlock≠some b:=fun b hb hlt=>⟨hb.1,fun he=>by
  rcases r4 with r4 | r4
  ·exact hb.2 (r4.symm.trans he)
  ·have:some b=some (w.alloc (.cells (kidC k).toArray e)).heap.size:=he.symm.trans r4
   injection this with this
   simp at this
   omega⟩
 have hto:∀ {t:T} {se sk:SV},RdO w (fun b=>base≤b∧(Value.slice A n c).ownBlock≠some b) t se sk→RdO w' (fun b=>base≤b∧(Value.slice A' (n+1) c').ownBlock≠some b) t se sk:=fun {t se sk} ht=>
  RdO.keep hsize (fun b hb hlt=>(r3.block b (by simp;omega) (fun e=>hb.2.2 e.symm)).trans (heap_alloc_old w _ hlt)) t (RdO.mono (ok':=fun b=>(base≤b∧(Value.slice A' (n+1) c').ownBlock≠some b)∧(base≤b∧(Value.slice A n c).ownBlock≠some b)) (fun b hb hlt=>⟨hnew b hb hlt,hb⟩) t ht) |> RdO.mono (fun b hb _=>hb.1) t
 refine⟨A',c',w',r1,⟨by simp[h.len],by simp[h.lenr],?_,fun i hi hi'=>?_⟩,hbel,fun b hb hlt=>⟨(r3.block b (by simp;omega) (fun e=>hb e.symm)).trans (heap_alloc_old w _ hlt),hnew2 b hb hlt⟩⟩
 ·have e1:(kr++[k]).flatMap kidC=kr.flatMap kidC++kidC k:=by simp
  rw[e1];exact ho
 ·by_cases hlt:i<n
  ·have h1:i<ks.length:=by rw[h.len];exact hlt
   have h2:i<kr.length:=by rw[h.lenr];exact hlt
   rw[List.getElem_append_left h1,List.getElem_append_left h2];exact⟨(h.kid i h1 h2).1,hto (h.kid i h1 h2).2⟩
  ·have e0:i=n:=by simp[h.len]at hi;omega
   have e1:(ks++[(k.1,u)])[i]=(k.1,u):=by rw[List.getElem_append_right (by rw[h.len];omega)];simp
   have e2:(kr++[k])[i]=k:=by rw[List.getElem_append_right (by rw[h.lenr];omega)];simp
   rw[e1,e2];exact⟨rfl,hto hu⟩
end KidRow
end Tr
end Go.Proofs.YtcbpgemiffmieaaGreat
