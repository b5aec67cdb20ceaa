/- check: arguments that are keys and resources, opened. -/
import Derived.Test.YtjolgalfjahceaaGreatDoorKeep
import Derived.Test.YtjolgalfjahceaaGreatDoorChecked
import Derived.ChangeArms
import Derived.WideShapes
import Derived.ChangeShapes
import Derived.OpenShut
import Derived.Deep.Slices
namespace Go.Proofs.YtjolgalfjahceaaGreatDoor
open Go.RowKit Go.ChangeShapes Go.WideShapes

theorem ck_arr2 {a : Array Value} (h : a.size = 2) : ∃ v0 v1, a = #[v0, v1] := by
  obtain ⟨l⟩ := a
  match l, h with
  | [v0, v1], _ => exact ⟨v0, v1, rfl⟩
theorem ck_arr5 {a : Array Value} (h : a.size = 5) : ∃ v0 v1 v2 v3 v4, a = #[v0, v1, v2, v3, v4] := by
  obtain ⟨l⟩ := a
  match l, h with
  | [v0, v1, v2, v3, v4], _ => exact ⟨v0, v1, v2, v3, v4, rfl⟩

set_option maxRecDepth 100000 in
theorem open_key {H : Type} {enc : TypeId × Value → H} {W : World} {base : Nat} {v : Value} {d : DataW H} {ps : List MemPlace}
    (hv : Value.okWide Tryz.prog W .any base 24 v) (h : DataW.Trod enc Tryz.prog W 0 (fun _ => true) true 24 v d ps) :
    ∃ (t : Int) (x : ByteArray), v = .agg #[.int .i64 t, .string x] ∧ x.size ≤ maxLen ∧ ∃ y0, d = .agg [y0, .lit (.string x.data.toList)] := by
  have c28 : Tryz.prog.cellsOf 24 = 2 := by kernel_rfl
  have ci : Tryz.prog.cellsOf 3 = 1 := by kernel_rfl
  have cS : Tryz.prog.cellsOf 9 = 1 := by kernel_rfl
  obtain ⟨cs, rfl, hsz⟩ := okWide_struct Tryz.underlying24 hv
  obtain ⟨v0, v1, rfl⟩ := ck_arr2 (hsz.trans c28)
  obtain ⟨fuel, hf⟩ := h
  obtain ⟨xs, n, _, hx, _, hxl, hfs⟩ := DataW.trod_struct Tryz.underlying24 hf
  match xs, hxl with
  | [x0, x1], _ =>
  have f0 := hfs 0 _ rfl
  have f1 := hfs 1 _ rfl
  simp only [Value.cells, List.getElem?_cons_zero, List.getElem?_cons_succ] at f0 f1
  obtain ⟨k0, e0, rfl, hk0⟩ := DataW.trod_int Tryz.underlying3 f0
  obtain ⟨k1, e1, rfl, hk1⟩ := DataW.trod_string Tryz.underlying9 f1
  obtain rfl := List.singleton_inj.1 e0
  obtain rfl := List.singleton_inj.1 e1
  have hd := congrArg Prod.fst hx
  exact ⟨k0, k1, rfl, hk1, _, hd⟩

set_option maxRecDepth 100000 in
theorem open_res {H : Type} {enc : TypeId × Value → H} {W : World} {base : Nat} {v : Value} {d : DataW H} {ps : List MemPlace}
    (hv : Value.okWide Tryz.prog W .any base 27 v) (h : DataW.Trod enc Tryz.prog W 0 (fun _ => true) true 27 v d ps) :
    ∃ (t : Int) (x : ByteArray) (q : Nat) (g : Bool) (s : ByteArray), v = .agg #[.int .i64 t, .string x, .int .u64 (q : Int), .bool g, .string s] ∧ x.size ≤ maxLen ∧ q < 2 ^ 64 ∧ s.size ≤ maxLen ∧ ∃ y0 y1 y2, d = .agg [.agg [y0, .lit (.string x.data.toList)], y1, y2, .lit (.string s.data.toList)] := by
  have c28 : Tryz.prog.cellsOf 27 = 5 := by kernel_rfl
  have c26 : Tryz.prog.cellsOf 24 = 2 := by kernel_rfl
  have ci : Tryz.prog.cellsOf 3 = 1 := by kernel_rfl
  have cu : Tryz.prog.cellsOf 25 = 1 := by kernel_rfl
  have cb : Tryz.prog.cellsOf 4 = 1 := by kernel_rfl
  have cS : Tryz.prog.cellsOf 9 = 1 := by kernel_rfl
  obtain ⟨cs, rfl, hsz⟩ := okWide_struct Tryz.underlying27 hv
  obtain ⟨v0, v1, v2, v3, v4, rfl⟩ := ck_arr5 (hsz.trans c28)
  obtain ⟨fuel, hf⟩ := h
  obtain ⟨xs, n, _, hx, _, hxl, hfs⟩ := DataW.trod_struct Tryz.underlying27 hf
  match xs, hxl with
  | [x0, x1, x2, x3], _ =>
  have f0 := hfs 0 _ rfl
  have f1 := hfs 1 _ rfl
  have f2 := hfs 2 _ rfl
  have f3 := hfs 3 _ rfl
  simp only [Value.cells, List.getElem?_cons_zero, List.getElem?_cons_succ] at f0 f1 f2 f3
  obtain ⟨k1, e1, rfl, hk1⟩ := DataW.trod_int Tryz.underlying25 f1
  obtain ⟨k2, e2, rfl⟩ := DataW.trod_bool Tryz.underlying4 f2
  obtain ⟨k3, e3, rfl, hk3⟩ := DataW.trod_string Tryz.underlying9 f3
  obtain ⟨ys, m, _, hy, _, hyl, hgs⟩ := DataW.trod_struct Tryz.underlying24 f0
  match ys, hyl with
  | [y0, y1], _ =>
  have g0 := hgs 0 _ rfl
  have g1 := hgs 1 _ rfl
  simp only [List.getElem?_cons_zero, List.getElem?_cons_succ] at g0 g1
  obtain ⟨j0, d0, rfl, hj0⟩ := DataW.trod_int Tryz.underlying3 g0
  obtain ⟨j1, d1, rfl, hj1⟩ := DataW.trod_string Tryz.underlying9 g1
  obtain rfl := List.singleton_inj.1 d0
  obtain rfl := List.singleton_inj.1 d1
  obtain rfl := List.singleton_inj.1 e1
  obtain rfl := List.singleton_inj.1 e2
  obtain rfl := List.singleton_inj.1 e3
  have b1 := bounds_u64 hk1
  obtain ⟨n1, rfl⟩ := Int.eq_ofNat_of_zero_le b1.1
  have hd := congrArg Prod.fst hx
  have hyd := congrArg Prod.fst hy
  subst hy
  exact ⟨j0, j1, n1, k2, k3, rfl, hj1, by omega, hk3, _, _, _, hd⟩
end Go.Proofs.YtjolgalfjahceaaGreatDoor
