/- Changes: what is read: the document's. -/
import Derived.Test.YtgeafpaognhokaaGreatG60
import Derived.Test.YtgeafpaognhokaaGreatG20
import Derived.Test.YtgeafpaognhokaaGreatG50
import Derived.Test.YtgeafpaognhokaaGreatTreeRefRight
namespace Go.Proofs.YtgeafpaognhokaaGreat
open Go.ChangeShapes Go.WideShapes Go.ChangeAt Go.RowKit
namespace Cs
open Tr Cx Sp Rw Classical
structure Vw where
 kd:Nat
 on:Bool
 n:Int
 l:List ByteArray
def zeroV:Vw:=⟨0,false,0,[]⟩
noncomputable def readE (t:T) (p:List ByteArray):Int:=if Tr.rightB 5 t=false then 1 else pathE p
structure ReadOk (x:T) (k9:Nat) (v:Vw):Prop where
 kd:v.kd=k9
 on:v.on=decide (k9=1∧0<x.es.length)
 n:v.n=if k9=3 then sumE x.es else 0
 l2:k9=2→v.l=elemsT x
 l4:k9=4→SortIs (x.es.map E.s) v.l
 l5:k9=5→v.l=keysOf x.ks
 l0:¬(k9=2∨k9=4∨k9=5)→v.l=[]
def ViewIs (v:Vw) (er:Int) (w:World) (e:Ending) (w':World):Prop:=∃ (A:Option Addr) (c:Nat),e = .returned (.tuple #[.agg #[.int .i64 v.kd,.bool v.on,.int .i64 v.n,.slice A v.l.length c],.int .i64 er])∧Hid (Rd w' w'.heap.size 1 A v.l.length c (Tr.strs v.l))∧Below w.heap.size w w'
theorem kindK_le (k:ByteArray):kindK k≤5:=by
 unfold kindK
 split <;> omega
theorem path_last {p:List ByteArray} {m:Nat} (h:PathOk p) (hm:p.length=m+1):1≤lastK p∧lastK p≤5:=by
 have hk:m<p.length:=by omega
 rw[lastK_get hk hm];exact⟨Nat.pos_of_ne_zero (h.each _ (List.getElem_mem hk)).2,kindK_le _⟩
theorem boxTV (w:World) (Ae Ak:Option Addr) (ne nk ce ck:Nat):∃ (W:World) (p9 r:Nat),Hid (W=(w.alloc (.cells #[.slice Ae ne ce,.slice Ak nk ck] 35)).alloc (.cells #[.int .i64 0,.bool false,.int .i64 0,.slice none 0 0] 51))∧Hid (p9=w.heap.size)∧Hid (r=p9+1)∧Hid (Kept [(⟨p9,0,none⟩,.slice Ae ne ce),(⟨p9,1,none⟩,.slice Ak nk ck)] w W)∧Hid (Kept [(⟨r,0,none⟩,.int .i64 0),(⟨r,1,none⟩,.bool false),(⟨r,2,none⟩,.int .i64 0),(⟨r,3,none⟩,.slice none 0 0)] w W)∧Hid (Free r W):=by
 refine⟨_,_,_,rfl,rfl,rfl,?_,?_,⟨by simp,fun j=>by go_simp⟩⟩
 ·have h0:=Kept.nil_of (show Below w.heap.size w ((w.alloc (.cells #[.slice Ae ne ce,.slice Ak nk ck] 35)).alloc (.cells #[.int .i64 0,.bool false,.int .i64 0,.slice none 0 0] 51)) from ((Below.refl _ _).alloc (Nat.le_refl _) _).alloc (by simp) _)
  refine (h0.cons_of ?_).cons_of ?_ <;> go_simp
 ·have h0:=Kept.nil_of (show Below w.heap.size w ((w.alloc (.cells #[.slice Ae ne ce,.slice Ak nk ck] 35)).alloc (.cells #[.int .i64 0,.bool false,.int .i64 0,.slice none 0 0] 51)) from ((Below.refl _ _).alloc (Nat.le_refl _) _).alloc (by simp) _)
  refine (((h0.cons_of ?_).cons_of ?_).cons_of ?_).cons_of ?_ <;> go_simp
end Cs
end Go.Proofs.YtgeafpaognhokaaGreat
