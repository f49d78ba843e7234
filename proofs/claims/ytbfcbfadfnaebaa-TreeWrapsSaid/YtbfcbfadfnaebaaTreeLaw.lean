/- What layer 8's laws have in common: trees and texts that come in; few keys; what is wrapped. -/
import Derived.Test.YtbfcbfadfnaebaaTreeAwake
import Derived.Test.YtbfcbfadfnaebaaTreeArgs
import Derived.SizedLaws
import Derived.ProofKit
import Derived.OpenShut
import Derived.ChangeMaps5
namespace Go.Proofs.Ytbfcbfadfnaebaa
open Go.ChangeShapes Go.WideShapes Go.ChangeAt Go.RowKit
namespace Tr
open Sp Rw
set_option maxRecDepth 100000
theorem types : Types Try.prog 25 67 56 22 23 65 3 2 9 :=
  ⟨⟨_, _, Try.underlying25, rfl, rfl, rfl, rfl⟩, ⟨_, _, _, Try.underlying67, rfl, rfl, rfl, rfl, rfl, rfl⟩, ⟨_, _, Try.underlying65, rfl, rfl, rfl, rfl⟩, ⟨_, _, Try.underlying56, rfl, rfl, rfl, rfl⟩,
    Try.underlying22, Try.underlying23, Try.underlying3, Try.underlying2, Try.underlying9,
    by kernel_rfl, by kernel_rfl, by kernel_rfl, by kernel_rfl, by kernel_rfl, by kernel_rfl, by kernel_rfl, by kernel_rfl, by kernel_rfl,
    of_decide_eq_true (by kernel_rfl), of_decide_eq_true (by kernel_rfl)⟩
theorem weights_head {H : Type} {P : Program} {t : TypeId} {ts : List TypeId} {d : DataW H} {ds : List (DataW H)} (h : (DataW.weightsEach P (t :: ts) (d :: ds)).all (· ≤ reachBytes) = true) : (∀ m ∈ d.weights P t, m ≤ reachBytes) ∧ (DataW.weightsEach P ts ds).all (· ≤ reachBytes) = true := by
  unfold DataW.weightsEach at h
  rw [List.all_append, Bool.and_eq_true] at h
  exact ⟨fun m hm => of_decide_eq_true (List.all_eq_true.1 h.1 m hm), h.2⟩
theorem treeV_of_trod {H : Type} {enc : TypeId × Value → H} {W : World} {b0 : Nat} {v : Value} {d : DataW H} {p : List MemPlace}
    (hv : Value.okWide Try.prog W .any b0 25 v) (h : DataW.Trod enc Try.prog W 0 (fun _ => true) true 25 v d p) (hw : ∀ m ∈ d.weights Try.prog 25, m ≤ reachBytes) :
    ∃ (t : T) (Ae Ak : Option Addr) (ne nk ce ck : Nat), v = .agg #[.slice Ae ne ce, .slice Ak nk ck] ∧ RdT W W.heap.size t ⟨Ae, ne, ce⟩ ⟨Ak, nk, ck⟩ ∧ LenT reachBytes t := by
  obtain ⟨cs, rfl, hsz⟩ : ∃ cs, v = .agg cs ∧ cs.size = Try.prog.cellsOf 25 := by
    simp only [Value.okWide, Try.underlying25] at hv
    obtain ⟨cs, h1, h2, _⟩ := hv
    exact ⟨cs, h1, h2⟩
  obtain ⟨fuel, hf⟩ := h
  obtain ⟨t, ⟨Ae, ne, ce⟩, ⟨Ak, nk, ck⟩, he, hr, hl⟩ := tree_of_trod types fuel hf hw
  refine ⟨t, Ae, Ak, ne, nk, ce, ck, ?_, hr, hl⟩
  have : cs.toList = [.slice Ae ne ce, .slice Ak nk ck] := he
  rw [← Array.toArray_toList (xs := cs), this]
theorem strs_of_trod {H : Type} {enc : TypeId × Value → H} {W : World} {A : Option Addr} {len cap fuel : Nat} {x : DataW H × List MemPlace}
    (h : DataW.trod enc Try.prog W 0 (fun _ => true) true fuel 39 (Value.slice A len cap).cells.toList = some x) :
    ∃ l : List ByteArray, l.length = len ∧ Rd W W.heap.size 1 A len cap (strs l) ∧ len ≤ maxLen := by
  have hfl : ∀ l : List ByteArray, l.flatMap (fun s => [Value.string s]) = strs l := fun l => by
    unfold strs
    induction l with
    | nil => rfl
    | cons a l ih => rw [List.flatMap_cons, ih]; rfl
  obtain ⟨l, h1, h2, h3⟩ := rd_of_trod (sz := 1) (fun s : ByteArray => [Value.string s]) (fun _ => rfl) (fun _ u hu => by rw [List.mem_singleton.1 hu]; rfl) (by omega) Try.underlying39 (by kernel_rfl) (fun n cs y hy => by
    obtain ⟨s, e, _, _⟩ := DataW.trod_string Try.underlying9 hy
    exact ⟨s, e⟩) h
  rw [hfl] at h2
  exact ⟨l, h1, h2, h3⟩
theorem small_to (t : T) (Ae Ak : Option Addr) (ne nk ce ck : Nat) (most : Nat) (m : Int) (hm : (most : Int) = m) (w : World) (h1 : most ≤ 1000) (hl : LenT reachBytes t) (hr : RdT w w.heap.size t ⟨Ae, ne, ce⟩ ⟨Ak, nk, ck⟩) :
    Calls Try.prog 12 #[.agg #[.slice Ae ne ce, .slice Ak nk ck], .int .i64 m] w fun e w' => ∃ b : Bool, e = .returned (.bool b) ∧ (b = true → nodes t ≤ most) ∧ Below w.heap.size w w' := by
  subst hm
  exact small_any t Ae Ak ne nk ce ck most w h1 hl hr
theorem few_any (l : List ByteArray) (n : Nat) (A : Option Addr) (c : Nat) (w : World) (z : Bool) (hz : decide (n ≤ 20) = z) (_ : l.length = n) : Calls Try.prog 21 #[.slice A n c] w fun e w' => e = .returned (.bool z) ∧ w' = w := by
  have f1 : decide ((n : Int) ≤ 20) = z := by rw [← hz]; exact decide_eq_decide.2 ⟨fun h => by omega, fun h => by omega⟩
  go_enter Try.func21, Try.ntmps21
  go_wp2
  go_ret
  exact ⟨Dt.ret_bool (by first | rfl | exact f1), rfl⟩
theorem LenT.of_nodes {m : Nat} : ∀ {t : T}, nodes t ≤ m → LenT m t := by
  intro t
  induction t using T.ind with
  | h es ks ih =>
    intro h
    have := nodes_es es ks
    exact .mk (by omega) (by omega) fun k hk => ih k hk (Nat.le_trans (nodes_kid hk) h)
theorem LenT.mono {m m' : Nat} (hm : m ≤ m') : ∀ {t : T}, LenT m t → LenT m' t := by
  intro t
  induction t using T.ind with
  | h es ks ih => exact fun h => .mk (Nat.le_trans h.es hm) (Nat.le_trans h.ks hm) fun k hk => ih k hk (h.kid hk)
theorem LenT.few {t : T} (h : nodes t ≤ 100000) : LenT reachBytes t := (LenT.of_nodes h).mono (by unfold reachBytes; omega)
theorem nodes_wrap (t : T) : ∀ p : List ByteArray, nodes (wrapT t p) = nodes t + p.length
  | [] => rfl
  | k :: p => by
    unfold wrapT
    rw [nodes_mk, List.map_cons, List.map_nil, List.sum_cons, List.sum_nil, nodes_wrap t p]
    simp
    omega
theorem right_none : rightB 5 none_ = true := rightB_iff.2 (RightT.none (d := 4))
theorem nodes_none : nodes none_ = 0 := by unfold none_; rw [nodes_mk]; rfl
/-- what is so, once it is wrapped -/
structure WrapOk (t : T) (l : List ByteArray) (x : T) : Prop where
  rx : rightB 5 x = true
  rt : rightB 5 t = true
  get : getT x l = t
  len : (leaves x).length = (leaves t).length
  nodes : nodes x ≤ nodes t + l.length
  other : ∀ (k o : ByteArray) (l' : List ByteArray), l = k :: l' → ¬ o = k → kidAt x.ks o = none_
theorem wrap_ok {t : T} {l : List ByteArray} (h : wrapE t l = 0) : WrapOk t l (wrapR t l) := by
  have h0 := h
  unfold wrapE at h
  by_cases h1 : (!rightB 5 t || badB l) = true
  · rw [if_pos h1] at h; cases h
  rw [if_neg h1] at h
  obtain ⟨h2, h3⟩ : rightB 5 t = true ∧ badB l = false := by
    cases hr : rightB 5 t <;> cases hb : badB l <;> simp_all
  by_cases h5 : 5 < l.length
  · rw [if_pos h5] at h; cases h
  rw [if_neg h5] at h
  by_cases he : t.es = [] ∧ t.ks = []
  · have ht : t = none_ := by rw [← T.eta t, he.1, he.2]; rfl
    have hx : wrapR t l = none_ := by unfold wrapR; rw [if_neg (fun h => h.2 he)]
    rw [hx, ht]
    exact ⟨right_none, right_none, getT_none l, rfl, by rw [nodes_none]; omega, fun _ _ _ _ _ => rfl⟩
  · rw [if_neg he] at h
    by_cases h6 : 5 < levels t + l.length
    · rw [if_pos h6] at h; cases h
    have hx : wrapR t l = wrapT t l := by unfold wrapR; rw [if_pos ⟨h0, he⟩]
    rw [hx]
    refine ⟨rightB_iff.2 ((RightT.wrap (right_levels (rightB_iff.1 h2)) he (badB_iff.1 h3)).le (by omega)), h2, get_wrap t l, by rw [leaves_wrap, List.length_map], Nat.le_of_eq (nodes_wrap t l), ?_⟩
    rintro k o l' rfl ho
    show kidAt [(k, wrapT t l')] o = none_
    unfold kidAt
    rw [if_neg (fun e => ho e.symm)]
    rfl
theorem wrap_not {t : T} {l : List ByteArray} (h : ¬ wrapE t l = 0) : wrapR t l = none_ := by unfold wrapR; rw [if_neg (fun h2 => h h2.1)]
/-- an empty tree in memory -/
theorem rd_none {w : World} {B : Nat} {Ae Ak : Option Addr} {ne nk ce ck : Nat} (h : RdT w B none_ ⟨Ae, ne, ce⟩ ⟨Ak, nk, ck⟩) : ne = 0 ∧ nk = 0 := by
  have := rd_lens (show RdT w B (.mk [] []) _ _ from h)
  exact ⟨this.1.symm, this.2.symm⟩
end Tr
end Go.Proofs.Ytbfcbfadfnaebaa
