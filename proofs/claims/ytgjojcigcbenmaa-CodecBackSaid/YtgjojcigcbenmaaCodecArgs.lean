/- The arguments of layer 2's laws: bytes, items, what is asked for. -/
import Derived.Test.YtgjojcigcbenmaaCodecIn2
import Derived.Test.YtgjojcigcbenmaaCodecAwake
import Derived.Test.YtgjojcigcbenmaaLaw
import Derived.ChangeMaps5
namespace Go.Proofs.Ytgjojcigcbenmaa
open Go.ChangeShapes Go.WideShapes Go.ChangeAt Go.RowKit Go.ChangeMaps
theorem wf_i64 {n : Int} (h : (Lit.int .i64 n).wf = true) : -9223372036854775808 ≤ n ∧ n ≤ 9223372036854775807 := by
  have e1 : IntKind.i64.min = -9223372036854775808 := by decide
  have e2 : IntKind.i64.max = 9223372036854775807 := by decide
  simp [Lit.wf, e1, e2] at h
  exact h
theorem wf_u8 {n : Int} (h : (Lit.int .u8 n).wf = true) : 0 ≤ n ∧ n ≤ 255 := by
  have e1 : IntKind.u8.min = 0 := by decide
  have e2 : IntKind.u8.max = 255 := by decide
  simp [Lit.wf, e1, e2] at h
  exact h
theorem flat_one1 {α : Type} (f : α → Value) : ∀ l : List α, l.map f = l.flatMap fun b => [f b]
  | [] => rfl
  | b :: l => by simp [flat_one1 f l]
/-- bytes that came in -/
theorem bytes_of_trod {H : Type} {enc : TypeId × Value → H} {W : World} {A : Option Addr} {len cap fuel : Nat} {x : DataW H × List MemPlace}
    (h : DataW.trod enc Try.prog W 0 (fun _ => true) true fuel 25 (Value.slice A len cap).cells.toList = some x) :
    ∃ bs : List UInt8, bs.length = len ∧ Rd W W.heap.size 1 A len cap (u8s bs) ∧ len ≤ maxLen := by
  obtain ⟨l, h1, h2, h3⟩ := rd_of_trod (fun b : UInt8 => [Value.int .u8 b.toNat]) (fun _ => rfl) (fun _ u hu => by simp at hu; subst hu; rfl) (Nat.zero_lt_one) Try.underlying25 (by kernel_rfl)
    (fun n cs y hy => by
      obtain ⟨v, e, _, hw⟩ := DataW.trod_int Try.underlying5 hy
      have := wf_u8 hw
      refine ⟨UInt8.ofNat v.toNat, ?_⟩
      rw [e, UInt8.toNat_ofNat']
      congr 2
      omega) h
  refine ⟨l, h1, ?_, h3⟩
  have e : u8s l = l.flatMap fun b : UInt8 => [Value.int .u8 b.toNat] := flat_one1 _ l
  rw [e]; exact h2
namespace Codec
/-- what is asked for -/
structure Asked where
  text : Bool
  most : Int
  lo : -9223372036854775808 ≤ most
  hi : most ≤ 9223372036854775807
def Asked.cells (a : Asked) : List Value := [.bool a.text, .int .i64 a.most]
def askC (l : List Asked) : List Value := l.flatMap Asked.cells
theorem flat_get {α : Type} (f : α → List Value) (sz : Nat) (hf : ∀ a, (f a).length = sz) : ∀ (l : List α) (k : Nat) (h : k < l.length) (j : Nat), j < sz → (l.flatMap f)[k * sz + j]? = (f l[k])[j]?
  | a :: l, 0, _, j, hj => by
    rw [List.flatMap_cons, Nat.zero_mul, Nat.zero_add, List.getElem?_append_left (by rw [hf]; exact hj)]; rfl
  | a :: l, k + 1, h, j, hj => by
    rw [List.flatMap_cons, List.getElem?_append_right (by rw [hf, Nat.succ_mul]; omega), hf]
    have e : (k + 1) * sz + j - sz = k * sz + j := by rw [Nat.succ_mul]; omega
    rw [e, flat_get f sz hf l k (by simpa using h) j hj]; rfl
theorem ask_of {H : Type} {enc : TypeId × Value → H} {W : World} {base : Nat} {sp : Nat → Bool} {hd : Bool} (n : Nat) (cs : List Value) (y : DataW H × List MemPlace)
    (h : DataW.trod enc Try.prog W base sp hd n 41 cs = some y) : ∃ a : Asked, cs = a.cells := by
  obtain ⟨xs, m, _, _, hlen, hxl, hg⟩ := DataW.trod_struct Try.underlying41 h
  have hc : cs.length = 2 := hlen.trans (by kernel_rfl)
  match cs, hc with
  | [c0, c1], _ =>
    have hx : xs.length = 2 := hxl
    match xs, hx with
    | [y0, y1], _ =>
      have k1 : Try.prog.cellsOf 4 = 1 := by kernel_rfl
      have k2 : Try.prog.cellsOf 2 = 1 := by kernel_rfl
      have g0 : DataW.trod enc Try.prog W base sp hd m 4 [c0] = some y0 := by
        have h0 := hg 0 _ rfl
        change DataW.trod enc Try.prog W base sp hd m 4 (List.take (Try.prog.cellsOf 4) (List.drop 0 [c0, c1])) = some y0 at h0
        rw [k1] at h0; exact h0
      have g1 : DataW.trod enc Try.prog W base sp hd m 2 [c1] = some y1 := by
        have h0 := hg 1 _ rfl
        change DataW.trod enc Try.prog W base sp hd m 2 (List.take (Try.prog.cellsOf 2) (List.drop 1 [c0, c1])) = some y1 at h0
        rw [k2] at h0; exact h0
      obtain ⟨b, e0, _⟩ := DataW.trod_bool Try.underlying4 g0
      obtain ⟨v, e1, _, hw⟩ := DataW.trod_int Try.underlying2 g1
      injection e0 with e0; injection e1 with e1
      obtain ⟨hlo, hhi⟩ := wf_i64 hw
      exact ⟨⟨b, v, hlo, hhi⟩, by rw [e0, e1]; rfl⟩
theorem asks_of_trod {H : Type} {enc : TypeId × Value → H} {W : World} {A : Option Addr} {len cap fuel : Nat} {x : DataW H × List MemPlace}
    (h : DataW.trod enc Try.prog W 0 (fun _ => true) true fuel 35 (Value.slice A len cap).cells.toList = some x) :
    ∃ l : List Asked, l.length = len ∧ Rd W W.heap.size 2 A len cap (askC l) ∧ len ≤ maxLen :=
  rd_of_trod Asked.cells (fun _ => rfl) (fun a u hu => by simp [Asked.cells] at hu; rcases hu with rfl | rfl <;> rfl) (by decide) Try.underlying35 (by kernel_rfl) (fun n cs y hy => ask_of n cs y hy) h
/-- an item -/
structure Itm where
  text : Bool
  n : Int
  s : ByteArray
  lo : -9223372036854775808 ≤ n
  hi : n ≤ 9223372036854775807
  small : s.size ≤ maxLen
def Itm.cells (a : Itm) : List Value := [.bool a.text, .int .i64 a.n, .string a.s]
def itemC (l : List Itm) : List Value := l.flatMap Itm.cells
theorem item_of {H : Type} {enc : TypeId × Value → H} {W : World} {base : Nat} {sp : Nat → Bool} {hd : Bool} (n : Nat) (cs : List Value) (y : DataW H × List MemPlace)
    (h : DataW.trod enc Try.prog W base sp hd n 51 cs = some y) : ∃ a : Itm, cs = a.cells := by
  obtain ⟨xs, m, _, _, hlen, hxl, hg⟩ := DataW.trod_struct Try.underlying51 h
  have hc : cs.length = 3 := hlen.trans (by kernel_rfl)
  match cs, hc with
  | [c0, c1, c2], _ =>
    have hx : xs.length = 3 := hxl
    match xs, hx with
    | [y0, y1, y2], _ =>
      have k1 : Try.prog.cellsOf 4 = 1 := by kernel_rfl
      have k2 : Try.prog.cellsOf 2 = 1 := by kernel_rfl
      have k3 : Try.prog.cellsOf 9 = 1 := by kernel_rfl
      have g0 : DataW.trod enc Try.prog W base sp hd m 4 [c0] = some y0 := by
        have h0 := hg 0 _ rfl
        change DataW.trod enc Try.prog W base sp hd m 4 (List.take (Try.prog.cellsOf 4) (List.drop 0 [c0, c1, c2])) = some y0 at h0
        rw [k1] at h0; exact h0
      have g1 : DataW.trod enc Try.prog W base sp hd m 2 [c1] = some y1 := by
        have h0 := hg 1 _ rfl
        change DataW.trod enc Try.prog W base sp hd m 2 (List.take (Try.prog.cellsOf 2) (List.drop 1 [c0, c1, c2])) = some y1 at h0
        rw [k2] at h0; exact h0
      have g2 : DataW.trod enc Try.prog W base sp hd m 9 [c2] = some y2 := by
        have h0 := hg 2 _ rfl
        change DataW.trod enc Try.prog W base sp hd m 9 (List.take (Try.prog.cellsOf 9) (List.drop 2 [c0, c1, c2])) = some y2 at h0
        rw [k3] at h0; exact h0
      obtain ⟨b, e0, _⟩ := DataW.trod_bool Try.underlying4 g0
      obtain ⟨v, e1, _, hw⟩ := DataW.trod_int Try.underlying2 g1
      obtain ⟨s, e2, _, hs⟩ := DataW.trod_string Try.underlying9 g2
      injection e0 with e0; injection e1 with e1; injection e2 with e2
      obtain ⟨hlo, hhi⟩ := wf_i64 hw
      exact ⟨⟨b, v, s, hlo, hhi, hs⟩, by rw [e0, e1, e2]; rfl⟩
theorem items_of_trod {H : Type} {enc : TypeId × Value → H} {W : World} {A : Option Addr} {len cap fuel : Nat} {x : DataW H × List MemPlace}
    (h : DataW.trod enc Try.prog W 0 (fun _ => true) true fuel 22 (Value.slice A len cap).cells.toList = some x) :
    ∃ l : List Itm, l.length = len ∧ Rd W W.heap.size 3 A len cap (itemC l) ∧ len ≤ maxLen :=
  rd_of_trod Itm.cells (fun _ => rfl) (fun a u hu => by simp [Itm.cells] at hu; rcases hu with rfl | rfl | rfl <;> rfl) (by decide) Try.underlying22 (by kernel_rfl) (fun n cs y hy => item_of n cs y hy) h
end Codec
end Go.Proofs.Ytgjojcigcbenmaa
