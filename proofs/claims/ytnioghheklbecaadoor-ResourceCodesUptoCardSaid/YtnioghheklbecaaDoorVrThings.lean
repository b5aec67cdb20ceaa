/- resource's law: thing as a function; things: a list of them. -/
import Derived.Test.YtnioghheklbecaaDoorVrList
import Derived.Test.YtnioghheklbecaaDoorVrFields
namespace Go.Proofs.YtnioghheklbecaaDoor
open Go.RowKit

/-- The version that a Thing makes. -/
def tgV (k : Tg) : Vr :=
  if k.own then ⟨1 + (((IntKind.u64.wrap k.t) % 5).toNat : Int), wd (k.n % 6), 1 + k.q % 20, k.g && ((k.n : Int) % 4 == 0), if (k.g && ((k.n : Int) % 4 == 0)) then ⟨#[]⟩ else k.s.extract 0 (min k.s.size 200)⟩
  else ⟨k.t, k.x, k.q, k.g, k.s⟩

set_option maxRecDepth 100000 in
theorem thing_raw (t : Int) (x : ByteArray) (q : Nat) (g : Bool) (s : ByteArray) (n : Nat) (w : World) :
    Calls Tryd.prog 6 #[.agg #[.int .i64 t, .string x, .int .u64 (q : Int), .bool g, .string s, .bool false, .int .u8 (n : Int)]] w fun e w' => e = .returned (.agg #[.int .i64 t, .string x, .int .u64 (q : Int), .bool g, .string s]) ∧ Below w.heap.size w w' := by
  go_enter Tryd.func6, Tryd.ntmps6
  go_wp2_with fail
  exact bodyPost_ret (v := .agg #[.int .i64 t, .string x, .int .u64 (q : Int), .bool g, .string s]) (by simp [results, Tryd.results6, go_sem]) rfl ⟨rfl, ((Below.refl _ _).alloc (Nat.le_refl _) _).alloc (by simp) _⟩

theorem thing_tg (k : Tg) (w : World) (hs : k.s.size ≤ 9223372036854775807) :
    Calls Tryd.prog 6 #[k.v] w fun e w' => e = .returned (tgV k).v ∧ Below w.heap.size w w' := by
  obtain ⟨t, x, q, g, s, own, n⟩ := k
  have h0 : 0 ≤ IntKind.u64.wrap t := by
    simp only [IntKind.wrap, IntKind.signed, IntKind.bits]
    exact Int.emod_nonneg _ (by decide)
  cases own with
  | false => exact thing_raw t x q g s n w
  | true =>
    have hT : (IntKind.u64.wrap t) % 5 = (((IntKind.u64.wrap t) % 5).toNat : Int) := by omega
    cases g with
    | false => exact thing_gf t x q s n _ _ w hT rfl hs _ rfl
    | true => exact thing_gt t x q s n _ _ w hT rfl hs _ rfl _ rfl
theorem tgV_q (k : Tg) (h : k.q < 2 ^ 64) : (tgV k).q < 2 ^ 64 := by
  unfold tgV
  split
  · show 1 + k.q % 20 < 2 ^ 64; omega
  · exact h

theorem Tryd.infoRs : (Tryd.prog.info? 26).map (fun i => (i.zero, i.size, i.bytes)) = some (some (.agg #[.int .i64 0, .string ⟨#[]⟩, .int .u64 0, .bool false, .string ⟨#[]⟩]), 5, 56) := by kernel_rfl

end Go.Proofs.YtnioghheklbecaaDoor
