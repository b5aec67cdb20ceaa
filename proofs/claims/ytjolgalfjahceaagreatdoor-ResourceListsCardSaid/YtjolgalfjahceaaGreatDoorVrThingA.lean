/- resource's law: thing, whatever it is made of; the argument of type norialaw04.Thing, opened. -/
import Derived.Test.YtjolgalfjahceaaGreatDoorVrThing
import Derived.Test.YtjolgalfjahceaaGreatDoorCkOpen
namespace Go.Proofs.YtjolgalfjahceaaGreatDoor
open Go.RowKit Go.ChangeShapes Go.WideShapes

/-- What thing makes. -/
structure Vr.Made (r : Vr) : Prop where
  t1 : 1 ≤ r.t
  t5 : r.t ≤ 5
  x : ∃ k, k < 6 ∧ r.x = wd k
  q1 : 1 ≤ r.q
  q2 : r.q ≤ 20
  g : r.g = true → r.s.size = 0
  s : r.s.size ≤ 200
theorem wd_six (k : Nat) (hk : k < 6) : k = 0 ∨ k = 1 ∨ k = 2 ∨ k = 3 ∨ k = 4 ∨ k = 5 := by omega
theorem wd_ok (k : Nat) (hk : k < 6) : nmOk (wd k) = true ∧ ((wd k).data.toList == [42]) = false ∧ (wd k).size ≤ 3 := by
  rcases wd_six k hk with rfl | rfl | rfl | rfl | rfl | rfl <;> exact ⟨by decide, by decide, by decide⟩
theorem Vr.Made.fits {r : Vr} (h : r.Made) : r.Fits := by
  obtain ⟨k, hk, hx⟩ := h.x
  have := (wd_ok k hk).2.2
  exact ⟨h.t1, h.t5, by rw [hx]; omega, by have := h.q2; omega, by have := h.s; omega⟩
theorem Vr.Made.ok {r : Vr} (h : r.Made) : r.ok = true := by
  obtain ⟨k, hk, hx⟩ := h.x
  obtain ⟨h1, h2, h3⟩ := wd_ok k hk
  exact vr_ok h.t1 h.t5 (by rw [hx]; exact h1) (by rw [hx]; exact h2) (by have := h.s; omega) h.g h.q1 (by have := h.q2; omega)

theorem thing_any (t : Int) (x : ByteArray) (q : Nat) (g : Bool) (s : ByteArray) (n : Nat) (w : World) (hs : s.size ≤ 9223372036854775807) :
    ∃ r : Vr, r.Made ∧ Calls Tryz.prog 6 #[.agg #[.int .i64 t, .string x, .int .u64 (q : Int), .bool g, .string s, .bool true, .int .u8 (n : Int)]] w fun e w' => e = .returned r.v ∧ Below w.heap.size w w' := by
  have h0 : 0 ≤ IntKind.u64.wrap t := by
    simp only [IntKind.wrap, IntKind.signed, IntKind.bits]
    exact Int.emod_nonneg _ (by decide)
  obtain ⟨T, hT⟩ := Int.eq_ofNat_of_zero_le (show 0 ≤ (IntKind.u64.wrap t) % 5 by omega)
  have hT5 : T < 5 := by omega
  have hm : (s.extract 0 (min s.size 200)).size ≤ 200 := by rw [ByteArray.size_extract]; omega
  have h6 : n % 6 < 6 := by omega
  have hq : q % 20 < 20 := by omega
  cases g with
  | false =>
    refine ⟨⟨1 + (T : Int), wd (n % 6), 1 + q % 20, false, s.extract 0 (min s.size 200)⟩, ⟨?_, ?_, ⟨_, h6, rfl⟩, ?_, ?_, (fun h => by cases h), hm⟩, thing_gf t x q s n T _ w hT rfl hs _ rfl⟩
    · show (1 : Int) ≤ 1 + (T : Int); omega
    · show 1 + (T : Int) ≤ 5; omega
    · show 1 ≤ 1 + q % 20; omega
    · show 1 + q % 20 ≤ 20; omega
  | true =>
    obtain ⟨c, hc⟩ : ∃ c, ((n : Int) % 4 == 0) = c := ⟨_, rfl⟩
    refine ⟨⟨1 + (T : Int), wd (n % 6), 1 + q % 20, c, if c then ⟨#[]⟩ else s.extract 0 (min s.size 200)⟩, ⟨?_, ?_, ⟨_, h6, rfl⟩, ?_, ?_, (fun h => ?_), ?_⟩, thing_gt t x q s n T _ w hT rfl hs _ rfl c hc⟩
    · show (1 : Int) ≤ 1 + (T : Int); omega
    · show 1 + (T : Int) ≤ 5; omega
    · show 1 ≤ 1 + q % 20; omega
    · show 1 + q % 20 ≤ 20; omega
    · simp only at h; subst h; rfl
    · show (if c then (⟨#[]⟩ : ByteArray) else s.extract 0 (min s.size 200)).size ≤ 200
      split
      · exact Nat.zero_le _
      · exact hm

theorem arr7 {a : Array Value} (h : a.size = 7) : ∃ v0 v1 v2 v3 v4 v5 v6, a = #[v0, v1, v2, v3, v4, v5, v6] := by
  obtain ⟨l⟩ := a
  match l, h with
  | [v0, v1, v2, v3, v4, v5, v6], _ => exact ⟨v0, v1, v2, v3, v4, v5, v6, rfl⟩

set_option maxRecDepth 100000 in
theorem open_thing {H : Type} {enc : TypeId × Value → H} {W : World} {base : Nat} {v : Value} {d : DataW H} {ps : List MemPlace}
    (hv : Value.okWide Tryz.prog W .any base 29 v) (h : DataW.Trod enc Tryz.prog W 0 (fun _ => true) true 29 v d ps) :
    ∃ (t : Int) (x : ByteArray) (q : Nat) (g : Bool) (s : ByteArray) (own : Bool) (n : Nat), v = .agg #[.int .i64 t, .string x, .int .u64 (q : Int), .bool g, .string s, .bool own, .int .u8 (n : Int)] ∧ n < 256 ∧ q < 2 ^ 64 ∧ s.size ≤ maxLen := by
  have c30 : Tryz.prog.cellsOf 29 = 7 := by kernel_rfl
  have c28 : Tryz.prog.cellsOf 27 = 5 := by kernel_rfl
  have c26 : Tryz.prog.cellsOf 24 = 2 := by kernel_rfl
  have ci : Tryz.prog.cellsOf 3 = 1 := by kernel_rfl
  have cu : Tryz.prog.cellsOf 25 = 1 := by kernel_rfl
  have c8 : Tryz.prog.cellsOf 5 = 1 := by kernel_rfl
  have cb : Tryz.prog.cellsOf 4 = 1 := by kernel_rfl
  have cS : Tryz.prog.cellsOf 9 = 1 := by kernel_rfl
  obtain ⟨cs, rfl, hsz⟩ := okWide_struct Tryz.underlying29 hv
  obtain ⟨v0, v1, v2, v3, v4, v5, v6, rfl⟩ := arr7 (hsz.trans c30)
  obtain ⟨fuel, hf⟩ := h
  obtain ⟨zs, nz, _, hz, _, hzl, hks⟩ := DataW.trod_struct Tryz.underlying29 hf
  match zs, hzl with
  | [z0, z1, z2], _ =>
  have k0 := hks 0 _ rfl
  have k1 := hks 1 _ rfl
  have k2 := hks 2 _ rfl
  simp only [Value.cells, List.getElem?_cons_zero, List.getElem?_cons_succ] at k0 k1 k2
  obtain ⟨m1, a1, rfl⟩ := DataW.trod_bool Tryz.underlying4 k1
  obtain ⟨m2, a2, rfl, hm2⟩ := DataW.trod_int Tryz.underlying5 k2
  obtain ⟨xs, nx, _, hx, _, hxl, hfs⟩ := DataW.trod_struct Tryz.underlying27 k0
  match xs, hxl with
  | [x0, x1, x2, x3], _ =>
  have f0 := hfs 0 _ rfl
  have f1 := hfs 1 _ rfl
  have f2 := hfs 2 _ rfl
  have f3 := hfs 3 _ rfl
  simp only [List.getElem?_cons_zero, List.getElem?_cons_succ] at f0 f1 f2 f3
  obtain ⟨p1, e1, rfl, hp1⟩ := DataW.trod_int Tryz.underlying25 f1
  obtain ⟨p2, e2, rfl⟩ := DataW.trod_bool Tryz.underlying4 f2
  obtain ⟨p3, e3, rfl, hp3⟩ := DataW.trod_string Tryz.underlying9 f3
  obtain ⟨ys, m, _, hy, _, hyl, hgs⟩ := DataW.trod_struct Tryz.underlying24 f0
  match ys, hyl with
  | [y0, y1], _ =>
  have g0 := hgs 0 _ rfl
  have g1 := hgs 1 _ rfl
  simp only [List.getElem?_cons_zero, List.getElem?_cons_succ] at g0 g1
  obtain ⟨j0, d0, rfl, hj0⟩ := DataW.trod_int Tryz.underlying3 g0
  obtain ⟨j1, d1, rfl, hj1⟩ := DataW.trod_string Tryz.underlying9 g1
  obtain rfl := List.singleton_inj.1 d0
  obtain rfl := List.singleton_inj.1 d1
  obtain rfl := List.singleton_inj.1 e1
  obtain rfl := List.singleton_inj.1 e2
  obtain rfl := List.singleton_inj.1 e3
  obtain rfl := List.singleton_inj.1 a1
  obtain rfl := List.singleton_inj.1 a2
  have b1 := bounds_u64 hp1
  obtain ⟨n1, rfl⟩ := Int.eq_ofNat_of_zero_le b1.1
  have b2 := bounds_u8 hm2
  obtain ⟨n2, rfl⟩ := Int.eq_ofNat_of_zero_le b2.1
  exact ⟨j0, j1, n1, p2, p3, m1, n2, rfl, by omega, by omega, hp3⟩
end Go.Proofs.YtjolgalfjahceaaGreatDoor
