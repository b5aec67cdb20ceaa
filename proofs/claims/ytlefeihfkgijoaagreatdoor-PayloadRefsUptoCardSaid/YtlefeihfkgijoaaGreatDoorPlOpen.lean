/- payload: the argument of type norialaw02.Made, opened; made of any kind. -/
import Derived.Test.YtlefeihfkgijoaaGreatDoorPlMade
import Derived.Test.YtlefeihfkgijoaaGreatDoorPlMadeE
import Derived.Test.YtlefeihfkgijoaaGreatDoorPlMadeB
import Derived.Test.YtlefeihfkgijoaaGreatDoorPlMadeD
import Derived.ChangeArms
import Derived.WideShapes
import Derived.ChangeShapes
import Derived.OpenShut
import Derived.Deep.Slices
namespace Go.Proofs.YtlefeihfkgijoaaGreatDoor
open Go.RowKit Go.ChangeShapes Go.WideShapes

theorem wrap5 (kd : Int) : (IntKind.u64.wrap kd).tmod 5 = 0 ∨ (IntKind.u64.wrap kd).tmod 5 = 1 ∨ (IntKind.u64.wrap kd).tmod 5 = 2 ∨ (IntKind.u64.wrap kd).tmod 5 = 3 ∨ (IntKind.u64.wrap kd).tmod 5 = 4 := by
  have h : 0 ≤ IntKind.u64.wrap kd := by
    simp only [IntKind.wrap, IntKind.signed, IntKind.bits]
    exact Int.emod_nonneg _ (by decide)
  rw [Int.tmod_eq_emod_of_nonneg h]
  omega

theorem made_any (s0 s2 s5 s7 : ByteArray) (n1 n4 nn mm : Nat) (a3 a6 : Option Addr) (l3 c3 l6 c6 : Nat) (kd : Int) (w : World) (hnn : nn < 256) (hmm : mm < 256) (hn1 : n1 < 2 ^ 64) (hn4 : n4 < 2 ^ 64) (hs7 : s7.size ≤ 140737488355328) :
    ∃ k : Int, Calls Tryz.prog 11 #[.agg #[.string s0, .int .u64 (n1 : Int), .string s2, .slice a3 l3 c3, .int .u64 (n4 : Int), .string s5, .slice a6 l6 c6, .string s7, .int .i64 kd, .bool true, .int .u8 (nn : Int), .int .u8 (mm : Int)]] w (MadePost k w) := by
  rcases wrap5 kd with h | h | h | h | h
  · exact ⟨1, made_0 s0 s2 s5 s7 n1 n4 nn mm a3 a6 l3 c3 l6 c6 kd w hnn hmm hn1 hn4 hs7 h⟩
  · exact ⟨2, made_1 s0 s2 s5 s7 n1 n4 nn mm a3 a6 l3 c3 l6 c6 kd w hnn hmm hn1 hn4 hs7 h⟩
  · exact ⟨3, made_2 s0 s2 s5 s7 n1 n4 nn mm a3 a6 l3 c3 l6 c6 kd w hnn hmm hn1 hn4 hs7 h⟩
  · exact ⟨4, made_3 s0 s2 s5 s7 n1 n4 nn mm a3 a6 l3 c3 l6 c6 kd w hnn hmm hn1 hn4 hs7 h⟩
  · exact ⟨5, made_4 s0 s2 s5 s7 n1 n4 nn mm a3 a6 l3 c3 l6 c6 kd w hnn hmm hn1 hn4 hs7 h⟩

theorem arr12 {a : Array Value} (h : a.size = 12) : ∃ v0 v1 v2 v3 v4 v5 v6 v7 v8 v9 v10 v11, a = #[v0, v1, v2, v3, v4, v5, v6, v7, v8, v9, v10, v11] := by
  obtain ⟨l⟩ := a
  match l, h with
  | [v0, v1, v2, v3, v4, v5, v6, v7, v8, v9, v10, v11], _ => exact ⟨v0, v1, v2, v3, v4, v5, v6, v7, v8, v9, v10, v11, rfl⟩

theorem slice_form {H : Type} {enc : TypeId × Value → H} {P : Program} {w : World} {base : Nat} {spare : Nat → Bool} {held : Bool} {t e : TypeId} {fuel : Nat} {v : Value} {x : DataW H × List MemPlace} (ht : P.underlying t = some (.slice e)) (h : DataW.trod enc P w base spare held fuel t [v] = some x) :
    ∃ a len cap, v = .slice a len cap := by
  rcases Go.Deep.open_slice ht h with ⟨hcs, _⟩ | ⟨a', len', cap', m, n, D, Pl, hcs, _⟩
  · exact ⟨none, 0, 0, List.singleton_inj.1 hcs⟩
  · exact ⟨some a', len', cap', List.singleton_inj.1 hcs⟩

set_option maxRecDepth 100000 in
theorem open_made {H : Type} {enc : TypeId × Value → H} {W : World} {base : Nat} {v : Value} {d : DataW H} {ps : List MemPlace}
    (hv : Value.okWide Tryz.prog W .any base 28 v) (h : DataW.Trod enc Tryz.prog W 0 (fun _ => true) true 28 v d ps) :
    ∃ (s0 s2 s5 s7 : ByteArray) (n1 n4 nn mm : Nat) (a3 a6 : Option Addr) (l3 c3 l6 c6 : Nat) (kd : Int) (own : Bool), v = .agg #[.string s0, .int .u64 (n1 : Int), .string s2, .slice a3 l3 c3, .int .u64 (n4 : Int), .string s5, .slice a6 l6 c6, .string s7, .int .i64 kd, .bool own, .int .u8 (nn : Int), .int .u8 (mm : Int)] ∧
      nn < 256 ∧ mm < 256 ∧ n1 < 2 ^ 64 ∧ n4 < 2 ^ 64 ∧ s7.size ≤ maxLen ∧ ∃ (y0 y1 y2 y3 y4 y5 y6 z1 z2 z3 z4 : DataW H), d = .agg [.agg [y0, y1, y2, y3, y4, y5, y6, .lit (.string s7.data.toList)], z1, z2, z3, z4] := by
  have c28 : Tryz.prog.cellsOf 28 = 12 := by kernel_rfl
  have c26 : Tryz.prog.cellsOf 26 = 8 := by kernel_rfl
  have ci : Tryz.prog.cellsOf 3 = 1 := by kernel_rfl
  have cu : Tryz.prog.cellsOf 22 = 1 := by kernel_rfl
  have c8 : Tryz.prog.cellsOf 5 = 1 := by kernel_rfl
  have cb : Tryz.prog.cellsOf 4 = 1 := by kernel_rfl
  have cS : Tryz.prog.cellsOf 9 = 1 := by kernel_rfl
  have cR : Tryz.prog.cellsOf 23 = 1 := by kernel_rfl
  have cA : Tryz.prog.cellsOf 24 = 1 := by kernel_rfl
  obtain ⟨cs, rfl, hsz⟩ := okWide_struct Tryz.underlying28 hv
  obtain ⟨v0, v1, v2, v3, v4, v5, v6, v7, v8, v9, v10, v11, rfl⟩ := arr12 (hsz.trans c28)
  obtain ⟨fuel, hf⟩ := h
  obtain ⟨xs, n, _, hx, _, hxl, hfs⟩ := DataW.trod_struct Tryz.underlying28 hf
  match xs, hxl with
  | [x0, x1, x2, x3, x4], _ =>
  have f0 := hfs 0 _ rfl
  have f1 := hfs 1 _ rfl
  have f2 := hfs 2 _ rfl
  have f3 := hfs 3 _ rfl
  have f4 := hfs 4 _ rfl
  simp only [Value.cells, List.getElem?_cons_zero, List.getElem?_cons_succ] at f0 f1 f2 f3 f4
  obtain ⟨k8, e8, rfl, hk8⟩ := DataW.trod_int Tryz.underlying3 f1
  obtain ⟨k9, e9, rfl⟩ := DataW.trod_bool Tryz.underlying4 f2
  obtain ⟨k10, e10, rfl, hk10⟩ := DataW.trod_int Tryz.underlying5 f3
  obtain ⟨k11, e11, rfl, hk11⟩ := DataW.trod_int Tryz.underlying5 f4
  obtain ⟨ys, m, _, hy, _, hyl, hgs⟩ := DataW.trod_struct Tryz.underlying26 f0
  match ys, hyl with
  | [y0, y1, y2, y3, y4, y5, y6, y7], _ =>
  have g0 := hgs 0 _ rfl
  have g1 := hgs 1 _ rfl
  have g2 := hgs 2 _ rfl
  have g3 := hgs 3 _ rfl
  have g4 := hgs 4 _ rfl
  have g5 := hgs 5 _ rfl
  have g6 := hgs 6 _ rfl
  have g7 := hgs 7 _ rfl
  simp only [List.getElem?_cons_zero, List.getElem?_cons_succ] at g0 g1 g2 g3 g4 g5 g6 g7
  obtain ⟨k0, e0, rfl, hk0⟩ := DataW.trod_string Tryz.underlying9 g0
  obtain ⟨k1, e1, rfl, hk1⟩ := DataW.trod_int Tryz.underlying22 g1
  obtain ⟨k2, e2, rfl, hk2⟩ := DataW.trod_string Tryz.underlying9 g2
  obtain ⟨a3, l3, c3, e3⟩ := slice_form Tryz.underlying23 g3
  obtain ⟨k4, e4, rfl, hk4⟩ := DataW.trod_int Tryz.underlying22 g4
  obtain ⟨k5, e5, rfl, hk5⟩ := DataW.trod_string Tryz.underlying9 g5
  obtain ⟨a6, l6, c6, e6⟩ := slice_form Tryz.underlying24 g6
  obtain ⟨k7, e7, rfl, hk7⟩ := DataW.trod_string Tryz.underlying9 g7
  obtain rfl := List.singleton_inj.1 e0
  obtain rfl := List.singleton_inj.1 e1
  obtain rfl := List.singleton_inj.1 e2
  obtain rfl := e3
  obtain rfl := List.singleton_inj.1 e4
  obtain rfl := List.singleton_inj.1 e5
  obtain rfl := e6
  obtain rfl := List.singleton_inj.1 e7
  obtain rfl := List.singleton_inj.1 e8
  obtain rfl := List.singleton_inj.1 e9
  obtain rfl := List.singleton_inj.1 e10
  obtain rfl := List.singleton_inj.1 e11
  have b1 := bounds_u64 hk1
  have b4 := bounds_u64 hk4
  have b10 := bounds_u8 hk10
  have b11 := bounds_u8 hk11
  obtain ⟨n1, rfl⟩ := Int.eq_ofNat_of_zero_le b1.1
  obtain ⟨n4, rfl⟩ := Int.eq_ofNat_of_zero_le b4.1
  obtain ⟨n10, rfl⟩ := Int.eq_ofNat_of_zero_le b10.1
  obtain ⟨n11, rfl⟩ := Int.eq_ofNat_of_zero_le b11.1
  have hd := congrArg Prod.fst hx
  have hyd := congrArg Prod.fst hy
  subst hy
  exact ⟨k0, k2, k5, k7, n1, n4, n10, n11, a3, a6, l3, c3, l6, c6, k8, k9, rfl, by omega, by omega, by omega, by omega, hk7, _, _, _, _, _, _, _, _, _, _, _, hd⟩
end Go.Proofs.YtlefeihfkgijoaaGreatDoor
