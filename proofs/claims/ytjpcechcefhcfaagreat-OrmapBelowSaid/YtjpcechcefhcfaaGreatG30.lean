/- Texts of the lower layers, and of layer 9, put together. -/
import Derived.Test.YtjpcechcefhcfaaGreatG10
import Derived.Test.YtjpcechcefhcfaaGreatTreeUnder
namespace Go.Proofs.YtjpcechcefhcfaaGreat
open Go.ChangeShapes Go.WideShapes Go.ChangeAt Go.RowKit
namespace Tr
open Sp Rw
def zeroE:E:=⟨0,0,⟨#[]⟩,0⟩
def bestE (r:Option E):E:=match r with | none=>zeroE | some e=>e
def bestK (r:Option ByteArray):ByteArray:=match r with | none=>⟨#[]⟩ | some k=>k
section
variable {α:Type} {lt:α→α→Prop} {ab:α→Prop} {m:List α} {x b:α} {r:Option α}
theorem least_skip (h:¬ab x) (hr:LeastOf lt m ab r):LeastOf lt (m++[x]) ab r:=by
 cases r with
 | none=>
  intro y hy
  rcases List.mem_append.1 hy with hy | hy
  ·exact hr y hy
  ·rw[List.mem_singleton.1 hy];exact h
 | some b=>
  refine⟨List.mem_append_left _ hr.1,hr.2.1,fun y hy ha=>?_⟩
  rcases List.mem_append.1 hy with hy | hy
  ·exact hr.2.2 y hy ha
  ·rw[List.mem_singleton.1 hy]at ha;exact absurd ha h
theorem least_new (irr:∀ a,¬lt a a) (h:ab x) (hr:LeastOf lt m ab none):LeastOf lt (m++[x]) ab (some x):=by
 refine⟨List.mem_append_right _ List.mem_cons_self,h,fun y hy ha=>?_⟩
 rcases List.mem_append.1 hy with hy | hy
 ·exact absurd ha (hr y hy)
 ·rw[List.mem_singleton.1 hy];exact irr x
theorem least_less (irr:∀ a,¬lt a a) (tr:∀ a b c,lt a b→lt b c→lt a c) (h:ab x) (hl:lt x b) (hr:LeastOf lt m ab (some b)):LeastOf lt (m++[x]) ab (some x):=by
 refine⟨List.mem_append_right _ List.mem_cons_self,h,fun y hy ha=>?_⟩
 rcases List.mem_append.1 hy with hy | hy
 ·exact fun hyx=>hr.2.2 y hy ha (tr _ _ _ hyx hl)
 ·rw[List.mem_singleton.1 hy];exact irr x
theorem least_not (hl:¬lt x b) (hr:LeastOf lt m ab (some b)):LeastOf lt (m++[x]) ab (some b):=by
 refine⟨List.mem_append_left _ hr.1,hr.2.1,fun y hy ha=>?_⟩
 rcases List.mem_append.1 hy with hy | hy
 ·exact hr.2.2 y hy ha
 ·rw[List.mem_singleton.1 hy];exact hl
end
theorem rootE_succ {ls:List Lf} {k:Nat} (h:k<ls.length):rootE (ls.take (k+1))=rootE (ls.take k)++rootE [ls[k]]:=by
 rw[List.take_succ_eq_append_getElem h];unfold rootE;rw[List.filterMap_append]
theorem heads_succ {ls:List Lf} {k:Nat} (h:k<ls.length):heads (ls.take (k+1))=heads (ls.take k)++heads [ls[k]]:=by
 rw[List.take_succ_eq_append_getElem h];unfold heads;rw[List.filterMap_append]
theorem kidAt_nth:∀ {ks:List (ByteArray×T)},ks.Pairwise (fun x y=>ltS x.1 y.1)→∀ (j:Nat) (h:j<ks.length),kidAt ks (ks[j]).1=(ks[j]).2
 | k::ks,hp,0,_=>by
  show kidAt (k::ks) k.1=k.2;unfold kidAt;rw[if_pos rfl]
 | k::ks,hp,j+1,h=>by
  rw[List.pairwise_cons]at hp
  have hj:j<ks.length:=by simpa using h
  have hlt:=hp.1 (ks[j]) (List.getElem_mem hj);show kidAt (k::ks) (ks[j]).1=(ks[j]).2;unfold kidAt;rw[if_neg (fun e=>tot_str.irr (ks[j]).1 (by rw[e]at hlt;exact hlt))];exact kidAt_nth hp.2 j hj
theorem heads_ok {d:Nat} {es:List E} {ks:List (ByteArray×T)} (h:RightT (d+1) (.mk es ks)) {k:ByteArray} (hk:k∈heads (leaves (.mk es ks))):1≤k.size:=by
 obtain⟨x,hx,rfl⟩:=List.mem_map.1 ((heads_leaves h k).1 hk);exact (h.2.2.2 x hx).1.1
theorem _root_.Go.Proofs.YtjpcechcefhcfaaGreat.Free.low {g B:Nat} {w w':World} (h:Free g w) (hb:Below B w w') (hg:g<B) (hs:w.heap.size≤w'.heap.size):Free g w':=⟨Nat.lt_of_lt_of_le h.1 hs,fun j=>(hb.frozen (p:=⟨g,j,none⟩) hg).trans (h.2 j)⟩
theorem push_ent (W:World) (base q:Nat) (hq:W.heap.size=q) {A:Option Addr} {n c:Nat} {l:List E} (h:Own W base 61 4 A n c (entsC l)) (hl:l.length=n) (hb:base≤W.heap.size) (e:E) (hn:n≤800000) :
  ∃ A' c' w',(Builtin.append_ #[22,22] 22 #[.slice A n c,.slice (some ⟨q,0,none⟩) 1 1]).run Tryz.prog (W.alloc (.cells #[.int .i64 e.a,.int .i64 e.n,.string e.s,.int .i64 e.v] 61)) = .ok (.slice A' (n+1) c') w'∧Own w' base 61 4 A' (n+1) c' (entsC (l++[e]))∧Below base W w':=by
 subst hl;obtain⟨A',c',w',r1,r2,r3⟩:=Rw.push (f:=entC) entC_len entC_one (t:=22) Tryz.underlying22 infoE rfl (by omega) (by omega) W base q hq hb (.slice A l.length c) l h.row e _ rfl (by omega)
 have e1:(l++[e]).length=l.length+1:=by simp
 rw[e1]at r1 r2;exact⟨A',c',w',r1,r2,r3⟩
def lastK (ks:List (ByteArray×T)) (j:Nat):ByteArray:=match j with | 0=>⟨#[]⟩ | j+1=>((ks.map fun x=>x.1)[j]?).getD ⟨#[]⟩
theorem str_cons {k:ByteArray} (h:1≤k.size):∃ a l,k.toList=a::l:=by
 rcases hk:k.toList with _ | ⟨a,l⟩
 ·have h1:k.toList.length=k.size:=by rw[ByteArray.toList_eq];simp
  rw[hk]at h1
  simp at h1
  omega
 ·exact⟨a,l,rfl⟩
theorem str_isEmpty {k:ByteArray} (h:1≤k.size):k.toList.isEmpty=false:=by
 obtain⟨a,l,e⟩:=str_cons h;rw[e];rfl
theorem nil_isEmpty:(⟨#[]⟩:ByteArray).toList.isEmpty=true:=by
 rw[ByteArray.toList_eq];rfl
theorem above_key {ks:List (ByteArray×T)} {j:Nat} {k:ByteArray} (h:1≤k.size) (hj:j≤ks.length):Abv ltS (ks.map fun x=>x.1) j k↔Op.bytesLess (lastK ks j).toList k.toList=true:=by
 cases j with
 | zero=>
  obtain⟨a,l,e⟩:=str_cons h;refine⟨fun _=>?_,fun _ h0 _=>absurd h0 (by omega)⟩;show Op.bytesLess (⟨#[]⟩:ByteArray).toList k.toList=true;rw[e,ByteArray.toList_eq];rfl
 | succ j=>
  have hl:j<(ks.map fun x=>x.1).length:=by rw[List.length_map];omega
  have e:lastK ks (j+1)=(ks.map fun x=>x.1)[j]:=by show ((ks.map fun x=>x.1)[j]?).getD ⟨#[]⟩=_;rw[List.getElem?_eq_getElem hl];rfl
  rw[e];exact⟨fun h1=>h1 (by omega) hl,fun h1 _ _=>h1⟩
def cntOf:Option Value→Nat | some (.slice _ n _)=>n | _=>0
end Tr
end Go.Proofs.YtjpcechcefhcfaaGreat
namespace Go.Proofs.YtjpcechcefhcfaaGreat
open Go.ChangeShapes Go.WideShapes Go.ChangeAt Go.RowKit
namespace Tr
open Sp Rw
def deepN (ls:List Lf):Nat:=(ls.map fun x=>1+x.1.length).foldl max 0
theorem deepN_succ {ls:List Lf} {k:Nat} (h:k<ls.length):deepN (ls.take (k+1))=max (deepN (ls.take k)) (1+(ls[k]).1.length):=by
 unfold deepN;rw[List.take_succ_eq_append_getElem h,List.map_append,List.foldl_append];rfl
theorem le_foldl:∀ (l:List Nat) (m a:Nat),a≤l.foldl max m↔a≤m∨∃ x∈l,a≤x
 | [],m,a=>by simp
 | b::l,m,a=>by
  rw[List.foldl_cons,le_foldl l (max m b) a];constructor
  ·rintro (h | ⟨x,h1,h2⟩)
   ·rcases Nat.le_total m b with h3 | h3
    ·rw[Nat.max_eq_right h3]at h;exact .inr ⟨b,List.mem_cons_self,h⟩
    ·rw[Nat.max_eq_left h3]at h;exact .inl h
   ·exact .inr ⟨x,List.mem_cons_of_mem _ h1,h2⟩
  ·rintro (h | ⟨x,h1,h2⟩)
   ·exact .inl (Nat.le_trans h (Nat.le_max_left _ _))
   ·rcases List.mem_cons.1 h1 with rfl | h1
    ·exact .inl (Nat.le_trans h2 (Nat.le_max_right _ _))
    ·exact .inr ⟨x,h1,h2⟩
theorem le_deep (ls:List Lf) (a:Nat):a≤deepN ls↔a=0∨∃ x∈ls,a≤1+x.1.length:=by
 unfold deepN;rw[le_foldl];constructor
 ·rintro (h | ⟨x,h1,h2⟩)
  ·exact .inl (by omega)
  ·obtain⟨y,hy,rfl⟩:=List.mem_map.1 h1
   exact .inr ⟨y,hy,h2⟩
 ·rintro (h | ⟨x,h1,h2⟩)
  ·exact .inl (by omega)
  ·exact .inr ⟨_,List.mem_map.2 ⟨x,h1,rfl⟩,h2⟩
theorem deep_levels:∀ {d:Nat} {t:T},RightT d t→¬(t.es=[]∧t.ks=[])→deepN (leaves t)=levels t
 | d+1,.mk es ks,h,hn=>by
  have ih:∀ k∈ks,deepN (leaves k.2)=levels k.2:=fun k hk=>deep_levels (h.2.2.2 k hk).2.2 (h.2.2.2 k hk).2.1
  have key:∀ a,a≤deepN (leaves (.mk es ks))↔a≤levels (.mk es ks):=fun a=>by
   rw[le_deep,levels_mk];unfold kmax;rw[List.take_length];constructor
   ·rintro (h1 | ⟨x,h1,h2⟩)
    ·omega
    ·rw[leaves_mk]at h1
     rcases List.mem_append.1 h1 with h1 | h1
     ·obtain⟨e,_,rfl⟩:=List.mem_map.1 h1
      simp at h2
      omega
     ·obtain⟨k,hk,h1⟩:=List.mem_flatMap.1 h1
      obtain⟨y,hy,rfl⟩:=List.mem_map.1 h1
      have h3:1+y.1.length≤levels k.2:=by rw[← ih k hk];exact (le_deep _ _).2 (.inr ⟨y,hy,Nat.le_refl _⟩)
      have h4:levels k.2≤(ks.map fun k=>levels k.2).foldl max 0:=(le_foldl _ _ _).2 (.inr ⟨_,List.mem_map.2 ⟨k,hk,rfl⟩,Nat.le_refl _⟩)
      simp at h2
      omega
   ·intro h1
    rcases Nat.eq_zero_or_pos a with h0 | h0
    ·exact .inl h0
    ·refine .inr ?_
     by_cases hle:a≤1
     ·obtain⟨x,hx⟩:=List.exists_mem_of_ne_nil _ (leaves_some h hn)
      exact⟨x,hx,by omega⟩
     ·have h2:a-1≤(ks.map fun k=>levels k.2).foldl max 0:=by omega
      rcases (le_foldl _ _ _).1 h2 with h3 | ⟨m,h3,h4⟩
      ·omega
      ·obtain⟨k,hk,rfl⟩:=List.mem_map.1 h3
       rw[← ih k hk,le_deep]at h4
       rcases h4 with h4 | ⟨y,hy,h4⟩
       ·omega
       ·refine⟨(k.1::y.1,y.2),?_,?_⟩
        ·rw[leaves_mk]
         exact List.mem_append_right _ (List.mem_flatMap.2 ⟨k,hk,List.mem_map.2 ⟨y,hy,rfl⟩⟩)
        ·simp
         omega
  have h1:=(key _).1 (Nat.le_refl _);have h2:=(key _).2 (Nat.le_refl _);omega
set_option maxRecDepth 100000 in
set_option maxHeartbeats 4000000 in
theorem deep_any (ls:List Lf) (n:Nat) (A:Option Addr) (c:Nat) (w:World) (hn:n≤100000) (hm:∀ x∈ls,x.1.length≤100000) (h:LfRd w w.heap.size A n c ls) :
  Calls Tryz.prog 46 #[.slice A n c] w fun e w'=>e = .returned (.int .i64 ((deepN ls:Nat):Int))∧w=w':=by
 have HL:=Lib.hid h;have HN:=Lib.hid hn;have HLN:=Lib.hid h.1;have HM:=Lib.hid hm;have hn5:n≤100000:=HN.out;clear h hn hm;go_enter Tryz.func46,Tryz.ntmps46;go_wp2_with fail
 go_loopw [3,7] (fun s i wr=>∃ (k:Nat),k≤n∧i = .int .i64 k∧s = .int .i64 ((deepN (ls.take k):Nat):Int)∧w=wr) (fun _ i _=>n-(intOf i).toNat)
 case atStart=>exact⟨0,by omega,by first | rfl | trivial,by first | rfl | trivial,by first | rfl | trivial⟩
 case round=>
  obtain⟨k,hk,rfl,rfl,rfl⟩:=hrel
  by_cases hlt:k<n
  ·have hkl:k<ls.length:=by rw[HLN.out];exact hlt
   obtain⟨b,o,rfl,hb,hc⟩:=LfRd.at_ HL.out (by omega);obtain⟨⟨Ap,np,cp⟩,c0,c1,c2,c3,c4,hpl,_⟩:=hc k hkl;dsimp only at c0 hpl;have hsuc:=deepN_succ hkl;rw[hpl]at hsuc
   have hnp5:np≤100000:=by rw[← hpl];exact HM.out _ (List.getElem_mem hkl)
   obtain⟨S,hS⟩:∃ S,S=deepN (ls.take k):=⟨_,rfl⟩;obtain⟨S',hS'⟩:∃ S,S=deepN (ls.take (k+1)):=⟨_,rfl⟩;rw[← hS,← hS']at hsuc;rw[← hS]
   have hw:IntKind.i64.wrap (1+(np:Int))=((1+np:Nat):Int):=by rw[IntKind.wrap_i64];omega
   have hmax:max (S:Int) ((1+np:Nat):Int)=(S':Int):=by omega
   have hmax2:max (S:Int) (1+(np:Int))=(S':Int):=by omega
   have HS':=Lib.hid hS';clear hS hS' hsuc hpl hc c1 c2 c3 c4;go_wp2_with fail;go_roundw
   case rel=>exact⟨k+1,by omega,by go_num,by rw[HS'.out],by first | rfl | trivial⟩
   case measure=>simp[intOf];omega
  ·obtain rfl:n=k:=by omega
   rw[List.take_of_length_le (by rw[HLN.out];omega)];go_wp2_with fail;go_ret;exact⟨rfl,rfl⟩
end Tr
end Go.Proofs.YtjpcechcefhcfaaGreat
