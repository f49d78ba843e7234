/- Texts of the lower layers, and of layer 9, put together. -/
import Derived.Test.YtcbclefemcmhpaaGreatG00
import Derived.Deep.Strs
import Derived.Lib.SmallJoins
import Derived.ChangeSame
import Derived.ChangeArms
import Derived.Deep.Slices
namespace Go.Proofs.YtcbclefemcmhpaaGreat
open Go.ChangeShapes Go.WideShapes Go.ChangeAt Go.RowKit
namespace Tr
open Rw
theorem weights_all {H : Type} (P : Program) (e : TypeId) : ∀ {l : List (DataW H)} {d : DataW H}, d ∈ l → ∀ {m : Nat}, m ∈ d.weights P e → m ∈ DataW.weightsAll P e l
  | c :: l, d, h, m, hm => by
    unfold DataW.weightsAll
    rcases List.mem_cons.1 h with rfl | h
    · exact List.mem_append_left _ hm
    · exact List.mem_append_right _ (weights_all P e h hm)
section
variable {H : Type} {enc : TypeId × Value → H} {P : Program} {W : World}
/-- a slice that came in, row by row: each element's cells, and that they are told with less fuel -/
theorem row_of_trod {t e : TypeId} {sz fuel : Nat} {cs : List Value} {x : DataW H × List MemPlace} (ht : P.underlying t = some (.slice e)) (hce : P.cellsOf e = sz) (hsz : 0 < sz)
    (h1 : ∀ n cs y, n < fuel → DataW.trod enc P W 0 (fun _ => true) true n e cs = some y → ∀ u ∈ cs, u.oneCell' = true)
    (h : DataW.trod enc P W 0 (fun _ => true) true fuel t cs = some x) :
    ∃ (s : SV) (f : Nat → List Value), cs = [.slice s.A s.n s.c] ∧ (∀ i, (f i).length = sz) ∧ (∀ i, i < s.n → ∃ n y, n < fuel ∧ DataW.trod enc P W 0 (fun _ => true) true n e (f i) = some y ∧ ∀ m ∈ y.1.weights P e, m ∈ x.1.weights P t) ∧ (0 < s.n → ∃ m ∈ x.1.weights P t, s.n * P.bytesOf e ≤ m) ∧
      Rd W W.heap.size sz s.A s.n s.c ((List.range s.n).flatMap f) ∧ s.n ≤ maxLen := by
  rcases DataW.trod_slice ht h with ⟨rfl, _⟩ | ⟨a, len, cap, elems, rest, n, rfl, rfl, rfl, _, hl, hm, hlen, hel, _⟩
  · exact ⟨⟨none, 0, 0⟩, fun _ => List.replicate sz (.int .i64 0), rfl, fun _ => by simp, fun i hi => absurd hi (Nat.not_lt_zero _), fun h => absurd h (Nat.not_lt_zero _), Rd.nil _, by simp [maxLen]⟩
  · have hex : ∀ i, ∃ c : List Value, c.length = sz ∧ (i < len → (∃ y, DataW.trod enc P W 0 (fun _ => true) true n e c = some y ∧ y ∈ elems) ∧ ∀ j, j < sz → W.cell? (a.add (i * sz + j)) = c[j]?) := by
      intro i
      by_cases hi : i < len
      · have := hel i hi
        rw [List.getElem?_eq_getElem (by omega)] at this
        obtain ⟨c, hc, hy⟩ := Option.bind_eq_some_iff.1 this
        obtain ⟨_, hcl, hat⟩ := World.cells?_some hc
        rw [hce] at hcl hat
        refine ⟨c, hcl, fun _ => ⟨⟨_, hy, List.getElem_mem _⟩, fun j hj => ?_⟩⟩
        have := hat j hj
        rwa [add_add'] at this
      · exact ⟨List.replicate sz (.int .i64 0), by simp, fun h => absurd h hi⟩
    obtain ⟨f, hf⟩ := Classical.axiomOfChoice hex
    have hfl : ∀ i, (f i).length = sz := fun i => (hf i).1
    refine ⟨⟨some a, len, cap⟩, f, rfl, hfl, fun i hi => ?_, fun _ => ?_, ?_, Nat.le_trans hl hm⟩
    · obtain ⟨y, hy, hmem⟩ := ((hf i).2 hi).1
      refine ⟨n, y, Nat.lt_succ_self n, hy, fun m hm => ?_⟩
      simp only [DataW.weights, ht]
      exact List.mem_cons_of_mem _ (List.mem_append_left _ (weights_all P e (List.mem_map.2 ⟨y, hmem, rfl⟩) hm))
    · have hx : (elems.length + rest.length) * P.bytesOf e ∈ (DataW.slice (elems.map (·.1)) (rest.map (·.1))).weights P t := by
        simp only [DataW.weights, ht, List.length_map]
        exact List.mem_cons_self
      exact ⟨_, hx, Nat.mul_le_mul_right _ (by rw [hlen]; exact Nat.le_add_right _ _)⟩
    · refine rd_of_cells (by rw [flatMap_len hfl, List.length_range]) hl (fun u hu => ?_) hsz (fun k u hu => ?_)
      · obtain ⟨i, hi, hu⟩ := List.mem_flatMap.1 hu
        obtain ⟨y, hy, _⟩ := ((hf i).2 (List.mem_range.1 hi)).1
        exact h1 n (f i) y (Nat.lt_succ_self n) hy u hu
      · have hk : k < len * sz := by
          have := (List.getElem?_eq_some_iff.1 hu).1
          rwa [flatMap_len hfl, List.length_range] at this
        have hq : k / sz < len := Nat.div_lt_of_lt_mul (by rw [Nat.mul_comm]; exact hk)
        have hr : k % sz < sz := Nat.mod_lt _ hsz
        have he : k / sz * sz + k % sz = k := by rw [Nat.mul_comm]; exact Nat.div_add_mod k sz
        have h3 := flat_at (f := f) (k := sz) hfl (List.range len) (k / sz) (k % sz) (by rw [List.length_range]; exact hq) hr
        rw [he, List.getElem_range] at h3
        have h4 := ((hf (k / sz)).2 hq).2 (k % sz) hr
        rw [he] at h4
        rw [h4, ← h3]
        exact hu
/-- the types of trees, by number -/
structure Types (P : Program) (tT tE tK tEs tKs tD tI tL tS : TypeId) : Prop where
  T : ∃ f0 f1 : Field, P.underlying tT = some (.struct #[f0, f1]) ∧ f0.type = tEs ∧ f0.offset = 0 ∧ f1.type = tKs ∧ f1.offset = 1
  E : ∃ f0 f1 f2 : Field, P.underlying tE = some (.struct #[f0, f1, f2]) ∧ f0.type = tD ∧ f0.offset = 0 ∧ f1.type = tS ∧ f1.offset = 2 ∧ f2.type = tL ∧ f2.offset = 3
  D : ∃ f0 f1 : Field, P.underlying tD = some (.struct #[f0, f1]) ∧ f0.type = tI ∧ f0.offset = 0 ∧ f1.type = tL ∧ f1.offset = 1
  K : ∃ f0 f1 : Field, P.underlying tK = some (.struct #[f0, f1]) ∧ f0.type = tS ∧ f0.offset = 0 ∧ f1.type = tT ∧ f1.offset = 1
  Es : P.underlying tEs = some (.slice tE)
  Ks : P.underlying tKs = some (.slice tK)
  I : P.underlying tI = some (.int .i64)
  L : P.underlying tL = some (.int .i64)
  S : P.underlying tS = some .string
  cT : P.cellsOf tT = 2
  cE : P.cellsOf tE = 4
  cK : P.cellsOf tK = 3
  cD : P.cellsOf tD = 2
  cEs : P.cellsOf tEs = 1
  cKs : P.cellsOf tKs = 1
  cI : P.cellsOf tI = 1
  cL : P.cellsOf tL = 1
  cS : P.cellsOf tS = 1
  bE : 1 ≤ P.bytesOf tE
  bK : 1 ≤ P.bytesOf tK
variable {tT tE tK tEs tKs tD tI tL tS : TypeId}
theorem ent_of_trod (ty : Types P tT tE tK tEs tKs tD tI tL tS) {n : Nat} {cs : List Value} {y : DataW H × List MemPlace} (h : DataW.trod enc P W 0 (fun _ => true) true n tE cs = some y) : ∃ e : E, cs = entC e := by
  obtain ⟨f0, f1, f2, hE, t0, o0, t1, o1, t2, o2⟩ := ty.E
  obtain ⟨y0, y1, y2, m, _, hlen, h0, h1, h2⟩ := Go.Deep.trod_struct3 hE h
  rw [ty.cE] at hlen
  obtain ⟨c0, c1, c2, c3, rfl⟩ : ∃ c0 c1 c2 c3, cs = [c0, c1, c2, c3] := by
    match cs, hlen with
    | [c0, c1, c2, c3], _ => exact ⟨_, _, _, _, rfl⟩
  rw [t0, o0, ty.cD] at h0
  rw [t1, o1, ty.cS] at h1
  rw [t2, o2, ty.cL] at h2
  obtain ⟨g0, g1, hD, u0, p0, u1, p1⟩ := ty.D
  simp at h0 h1 h2
  obtain ⟨z0, z1, m2, _, _, k0, k1⟩ := trod_struct2 hD h0
  rw [u0, p0, ty.cI] at k0
  rw [u1, p1, ty.cL] at k1
  simp at k0 k1
  obtain ⟨a, e0, _, _⟩ := DataW.trod_int ty.I k0
  obtain ⟨b, e1, _, _⟩ := DataW.trod_int ty.L k1
  obtain ⟨s, e2, _, _⟩ := DataW.trod_string ty.S h1
  obtain ⟨v, e3, _, _⟩ := DataW.trod_int ty.L h2
  simp at e0 e1 e2 e3
  subst e0; subst e1; subst e2; subst e3
  exact ⟨⟨a, b, s, v⟩, rfl⟩
theorem kid_cells (ty : Types P tT tE tK tEs tKs tD tI tL tS) {m : Nat} {cs : List Value} {y : DataW H × List MemPlace} (hy : DataW.trod enc P W 0 (fun _ => true) true m tK cs = some y) : ∃ (key : ByteArray) (se sk : SV), cs = [.string key, .slice se.A se.n se.c, .slice sk.A sk.n sk.c] := by
  obtain ⟨g0, g1, hK, u0, p0, u1, p1⟩ := ty.K
  obtain ⟨zs, m2, rfl, _, hl, hzl, hzs⟩ := DataW.trod_struct hK hy
  rw [ty.cK] at hl
  obtain ⟨d0, d1, d2, rfl⟩ : ∃ d0 d1 d2, cs = [d0, d1, d2] := by
    match cs, hl with
    | [d0, d1, d2], _ => exact ⟨_, _, _, rfl⟩
  have k0 := hzs 0 g0 rfl
  have k1 := hzs 1 g1 rfl
  rw [u0, p0, ty.cS, List.getElem?_eq_getElem (by rw [hzl]; simp)] at k0
  rw [u1, p1, ty.cT, List.getElem?_eq_getElem (by rw [hzl]; simp)] at k1
  simp at k0 k1
  obtain ⟨s, e2, _, _⟩ := DataW.trod_string ty.S k0
  obtain ⟨f0, f1, hT, t0, o0, t1, o1⟩ := ty.T
  obtain ⟨y0, y1, n, _, _, h0, h1⟩ := trod_struct2 hT k1
  rw [t0, o0, ty.cEs] at h0
  rw [t1, o1, ty.cKs] at h1
  simp at h0 h1
  have hsl : ∀ {t e : TypeId} {fuel : Nat} {cs : List Value} {x : DataW H × List MemPlace}, P.underlying t = some (.slice e) → DataW.trod enc P W 0 (fun _ => true) true fuel t cs = some x → ∃ s : SV, cs = [.slice s.A s.n s.c] := by
    intro t e fuel cs x ht h
    rcases DataW.trod_slice ht h with ⟨rfl, _⟩ | ⟨a, len, cap, _, _, _, _, rfl, _⟩
    · exact ⟨⟨none, 0, 0⟩, rfl⟩
    · exact ⟨⟨some a, len, cap⟩, rfl⟩
  obtain ⟨se, e3⟩ := hsl ty.Es h0
  obtain ⟨sk, e4⟩ := hsl ty.Ks h1
  simp at e2 e3 e4
  subst e2; subst e3; subst e4
  exact ⟨s, se, sk, rfl⟩
theorem tree_of_trod (ty : Types P tT tE tK tEs tKs tD tI tL tS) : ∀ (fuel : Nat) {cs : List Value} {x : DataW H × List MemPlace}, DataW.trod enc P W 0 (fun _ => true) true fuel tT cs = some x → (∀ m ∈ x.1.weights P tT, m ≤ reachBytes) →
    ∃ (t : T) (se sk : SV), cs = [.slice se.A se.n se.c, .slice sk.A sk.n sk.c] ∧ RdT W W.heap.size t se sk ∧ LenT reachBytes t := by
  intro fuel
  induction fuel using Nat.strongRecOn with
  | ind fuel ih =>
    intro cs x h hw
    obtain ⟨f0, f1, hT, t0, o0, t1, o1⟩ := ty.T
    obtain ⟨xs, n, rfl, rfl, hlen, hxl, hfs⟩ := DataW.trod_struct hT h
    rw [ty.cT] at hlen
    obtain ⟨c0, c1, rfl⟩ : ∃ c0 c1, cs = [c0, c1] := by
      match cs, hlen with
      | [c0, c1], _ => exact ⟨_, _, rfl⟩
    have h0 := hfs 0 f0 rfl
    have h1 := hfs 1 f1 rfl
    rw [t0, o0, ty.cEs, List.getElem?_eq_getElem (by rw [hxl]; simp)] at h0
    rw [t1, o1, ty.cKs, List.getElem?_eq_getElem (by rw [hxl]; simp)] at h1
    simp at h0 h1
    obtain ⟨x0, x1, rfl⟩ : ∃ x0 x1, xs = [x0, x1] := by
      match xs, hxl with
      | [x0, x1], _ => exact ⟨_, _, rfl⟩
    simp at h0 h1
    have hw0 : ∀ m ∈ x0.1.weights P tEs, m ≤ reachBytes := fun m hm => hw m (by simp only [DataW.weights, hT]; simp [DataW.weightsEach, t0, t1, hm])
    have hw1 : ∀ m ∈ x1.1.weights P tKs, m ≤ reachBytes := fun m hm => hw m (by simp only [DataW.weights, hT]; simp [DataW.weightsEach, t0, t1, hm])
    obtain ⟨se, f, e1, hfl, _, hse, _, _⟩ := row_of_trod ty.Es ty.cE (by omega) (fun n cs y _ hy u hu => by
      obtain ⟨e, rfl⟩ := ent_of_trod ty hy
      exact entC_one e u hu) h0
    simp at e1
    subst e1
    obtain ⟨es, he1, he2, _⟩ := rd_of_trod entC entC_len entC_one (by omega) ty.Es ty.cE (fun n cs y hy => ent_of_trod ty hy) (A := se.A) (len := se.n) (cap := se.c) (by simpa [Value.cells] using h0)
    have hkid : ∀ m cs y, m < n → DataW.trod enc P W 0 (fun _ => true) true m tK cs = some y → (∀ q ∈ y.1.weights P tK, q ≤ reachBytes) → ∃ (key : ByteArray) (t : T) (se sk : SV), cs = [.string key, .slice se.A se.n se.c, .slice sk.A sk.n sk.c] ∧ RdT W W.heap.size t se sk ∧ LenT reachBytes t := by
      intro m cs y hm hy hwy
      obtain ⟨g0, g1, hK, u0, p0, u1, p1⟩ := ty.K
      obtain ⟨zs, m2, rfl, rfl, hl, hzl, hzs⟩ := DataW.trod_struct hK hy
      rw [ty.cK] at hl
      obtain ⟨d0, d1, d2, rfl⟩ : ∃ d0 d1 d2, cs = [d0, d1, d2] := by
        match cs, hl with
        | [d0, d1, d2], _ => exact ⟨_, _, _, rfl⟩
      have k0 := hzs 0 g0 rfl
      have k1 := hzs 1 g1 rfl
      rw [u0, p0, ty.cS, List.getElem?_eq_getElem (by rw [hzl]; simp)] at k0
      rw [u1, p1, ty.cT, List.getElem?_eq_getElem (by rw [hzl]; simp)] at k1
      simp at k0 k1
      obtain ⟨z0, z1, rfl⟩ : ∃ z0 z1, zs = [z0, z1] := by
        match zs, hzl with
        | [z0, z1], _ => exact ⟨_, _, rfl⟩
      simp at k0 k1
      obtain ⟨s, e2, _, _⟩ := DataW.trod_string ty.S k0
      obtain ⟨t, se', sk', e3, hr, hln⟩ := ih m2 (by omega) k1 (fun q hq => hwy q (by simp only [DataW.weights, hK]; simp [DataW.weightsEach, u0, u1, hq]))
      simp at e2 e3
      obtain ⟨rfl, rfl⟩ := e3
      subst e2
      exact ⟨s, t, se', sk', rfl, hr, hln⟩
    obtain ⟨sk, f2, e2, hfl2, hel, hsk, hrd, _⟩ := row_of_trod ty.Ks ty.cK (by omega) (fun m cs y hm hy u hu => by
      obtain ⟨q0, q1, q2, rfl⟩ := kid_cells ty hy
      simp at hu
      rcases hu with rfl | rfl | rfl <;> rfl) h1
    simp at e2
    subst e2
    have hex : ∀ i, ∃ k : ByteArray × T, i < sk.n → ∃ se' sk' : SV, f2 i = [.string k.1, .slice se'.A se'.n se'.c, .slice sk'.A sk'.n sk'.c] ∧ RdT W W.heap.size k.2 se' sk' ∧ LenT reachBytes k.2 := by
      intro i
      by_cases hi : i < sk.n
      · obtain ⟨m, y, hm, hy, hwy⟩ := hel i hi
        obtain ⟨key, t, se', sk', e, hr⟩ := hkid m _ y hm hy (fun q hq => hw1 q (hwy q hq))
        exact ⟨(key, t), fun _ => ⟨se', sk', e, hr⟩⟩
      · exact ⟨(ByteArray.empty, none_), fun h => absurd h hi⟩
    obtain ⟨kf, hkf⟩ := Classical.axiomOfChoice hex
    refine ⟨.mk es ((List.range sk.n).map kf), se, sk, rfl, ?_, 
      .mk (by
        rw [he1]
        rcases Nat.eq_zero_or_pos se.n with h0 | h0
        · omega
        · obtain ⟨m, hm, hle⟩ := hse h0
          have := hw0 m hm
          exact Nat.le_trans (Nat.le_trans (by have := Nat.mul_le_mul_left se.n ty.bE; omega) hle) this) (by
        rw [List.length_map, List.length_range]
        rcases Nat.eq_zero_or_pos sk.n with h0 | h0
        · omega
        · obtain ⟨m, hm, hle⟩ := hsk h0
          have := hw1 m hm
          exact Nat.le_trans (Nat.le_trans (by have := Nat.mul_le_mul_left sk.n ty.bK; omega) hle) this) (fun k hk => by
      obtain ⟨i, hi, rfl⟩ := List.mem_map.1 hk
      obtain ⟨_, _, _, _, h⟩ := hkf i (List.mem_range.1 hi)
      exact h)⟩
    rw [rdT_mk]
    refine ⟨he1, he2, by simp, _, hrd, fun i hi => ?_⟩
    have hi' : i < sk.n := by simpa using hi
    obtain ⟨se', sk', e, hr, _⟩ := hkf i hi'
    have hat : ∀ j, j < 3 → ((List.range sk.n).flatMap f2)[i * 3 + j]? = (f2 i)[j]? := fun j hj => by
      have := flat_at (f := f2) (k := 3) hfl2 (List.range sk.n) i j (by rw [List.length_range]; exact hi') hj
      rwa [List.getElem_range] at this
    have g0 := hat 0 (by omega)
    have g1 := hat 1 (by omega)
    have g2 := hat 2 (by omega)
    rw [e] at g0 g1 g2
    have hk : ((List.range sk.n).map kf)[i] = kf i := by simp
    rw [hk]
    exact ⟨se', sk', g0, g1, g2, hr⟩
end
end Tr
end Go.Proofs.YtcbclefemcmhpaaGreat
namespace Go.Proofs.YtcbclefemcmhpaaGreat
open Go.ChangeShapes Go.WideShapes Go.ChangeAt Go.RowKit Go.Joins
namespace Dt
set_option maxRecDepth 100000
theorem wf_i64 {n : Int} (h : (Lit.int .i64 n).wf = true) : -9223372036854775808 ≤ n ∧ n ≤ 9223372036854775807 := by
  have e1 : IntKind.i64.min = -9223372036854775808 := by decide
  have e2 : IntKind.i64.max = 9223372036854775807 := by decide
  simp [Lit.wf, e1, e2] at h
  exact h
/-- n fits 64 bits -/
def B64 (n : Int) : Prop := -9223372036854775808 ≤ n ∧ n ≤ 9223372036854775807
theorem dot_of_trod {H : Type} {enc : TypeId × Value → H} {W : World} {b0 : Nat} {v : Value} {d : DataW H} {p : List MemPlace}
    (hv : Value.okWide Tryz.prog W .any b0 48 v) (h : DataW.Trod enc Tryz.prog W 0 (fun _ => true) true 48 v d p) :
    ∃ a n : Int, v = .agg #[.int .i64 a, .int .i64 n] ∧ B64 a ∧ B64 n := by
  obtain ⟨v0, v1, y0, y1, n, rfl, _, _, h0, h1⟩ := open_agg2 Tryz.underlying48 (by kernel_rfl) (by kernel_rfl) hv h
  obtain ⟨a, e0, _, w0⟩ := DataW.trod_int Tryz.underlying3 h0
  obtain ⟨b, e1, _, w1⟩ := DataW.trod_int Tryz.underlying2 h1
  simp only [List.cons.injEq, and_true] at e0 e1
  subst e0; subst e1
  exact ⟨a, b, rfl, wf_i64 w0, wf_i64 w1⟩
/-- a dot's cells -/
def dotC (d : Int × Int) : List Value := [.int .i64 d.1, .int .i64 d.2]
theorem dots_of_trod {H : Type} {enc : TypeId × Value → H} {W : World} {A : Option Addr} {len cap fuel : Nat} {x : DataW H × List MemPlace}
    (h : DataW.trod enc Tryz.prog W 0 (fun _ => true) true fuel 88 (Value.slice A len cap).cells.toList = some x) :
    ∃ l : List (Int × Int), l.length = len ∧ Rd W W.heap.size 2 A len cap (l.flatMap dotC) ∧ len ≤ maxLen := by
  refine rd_of_trod dotC (fun _ => rfl) (fun _ u hu => by simp [dotC] at hu; rcases hu with rfl | rfl <;> rfl) (by omega) Tryz.underlying88 (by kernel_rfl) ?_ h
  intro n cs y hy
  obtain ⟨y0, y1, m, _, hlen, h0, h1⟩ := trod_struct2 Tryz.underlying48 hy
  have hc2 : Tryz.prog.cellsOf 48 = 2 := by kernel_rfl
  have hci : Tryz.prog.cellsOf 3 = 1 := by kernel_rfl
  have hcj : Tryz.prog.cellsOf 2 = 1 := by kernel_rfl
  rw [hc2] at hlen
  obtain ⟨c0, c1, rfl⟩ : ∃ c0 c1, cs = [c0, c1] := by
    match cs, hlen with
    | [c0, c1], _ => exact ⟨_, _, rfl⟩
  simp only [hci, hcj] at h0 h1
  obtain ⟨a, e0, _, w0⟩ := DataW.trod_int Tryz.underlying3 h0
  obtain ⟨b, e1, _, w1⟩ := DataW.trod_int Tryz.underlying2 h1
  simp at e0 e1
  subst e0; subst e1
  exact ⟨(a, b), rfl⟩
end Dt
end Go.Proofs.YtcbclefemcmhpaaGreat
