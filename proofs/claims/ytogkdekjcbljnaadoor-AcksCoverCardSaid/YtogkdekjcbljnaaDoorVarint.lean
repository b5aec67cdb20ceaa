/- Varint: the walk. -/
import Derived.Test.YtogkdekjcbljnaaDoorChecked
import Derived.Test.YtogkdekjcbljnaaDoorPlain
import Derived.Test.YtogkdekjcbljnaaDoorAid
import Derived.WalkLawsBesides
import Derived.WalkSpells
import Derived.RowKitTokens
import Derived.Outline
import Derived.Lib.Hide
import Derived.IntWalk
import Derived.Maps.AppendAt
namespace Go.Proofs.YtogkdekjcbljnaaDoor
open Go.RowKit

theorem Tryd.infoU8 : (Tryd.prog.info? 5).map (fun i => (i.zero, i.size, i.bytes)) = some (some (.int .u8 0), 1, 1) := by kernel_rfl
def tenCells : Array Value := Array.replicate 10 (.int .u8 0)
theorem Tryd.make10 (w : World) : (Instr.makeSlice 48 (.int .i64 0) (.int .i64 10)).run Tryd.prog w = .ok (.slice (some ⟨w.heap.size, 0, none⟩) 0 10) (w.alloc (.cells tenCells 5)) := by kernel_rfl
theorem owns_make10 (w : World) : (w.alloc (.cells tenCells 5)).ownsRow w.heap.size 5 1 (.slice (some ⟨w.heap.size, 0, none⟩) 0 10) 0 [] :=
  ⟨rfl, .inr ⟨w.heap.size, 10, tenCells, rfl, Nat.le_refl _, by show (w.heap.push _)[w.heap.size]? = _; simp, by omega, by decide, by decide, by simp⟩⟩

/-- One byte more. -/
theorem row_more {w wr w1 : World} {v v' : Value} {pre : List UInt8} {x : UInt8} {X : Int} {e : TypeId} {O : Obj} (hb : Below w.heap.size w wr) (hown : wr.ownsRow w.heap.size e 1 v pre.length (pre.map fun x => Value.int .u8 x.toNat))
    (hX : X = (x.toNat : Int)) (hown1 : w1.ownsRow w.heap.size e 1 v' (pre.length + 1) ((pre.map fun x => Value.int .u8 x.toNat) ++ [Value.int .u8 X])) (hgrow : (wr.alloc O).grownBy w1 v.ownBlock) :
    w1.ownsRow w.heap.size e 1 v' (pre ++ [x]).length ((pre ++ [x]).map fun x => Value.int .u8 x.toNat) ∧ Below w.heap.size w w1 := by
  subst hX
  refine ⟨by simpa using hown1, (hb.alloc hb.size _).grown hgrow (by have := hb.size; simp; omega) (owns_block hown)⟩

set_option maxRecDepth 100000 in
set_option maxHeartbeats 400000 in
theorem varint_any (n : Nat) (w : World) (hn : n < 2 ^ 64) :
    Calls Tryd.prog 83 #[.int .u64 n] w fun e w' => e = .returned (.string ⟨(vnt n).toArray⟩) ∧ Below w.heap.size w w' := by
  have hmk := Tryd.make10
  have HN := Lib.hid hn; clear hn
  go_enter Tryd.func83, Tryd.ntmps83
  go_wp2
  go_loopw [0, 3] (fun v b wr => ∃ (k : Nat) (pre : List UInt8), v = .int .u64 k ∧ VRel n k pre ∧ wr.ownsRow w.heap.size 5 1 b pre.length (pre.map fun x => Value.int .u8 x.toNat) ∧ Below w.heap.size w wr) (fun v _ _ => (intOf v).toNat)
  case atStart => exact ⟨n, [], rfl, VRel.start n, owns_make10 w, (Below.refl _ _).alloc (Nat.le_refl _) _⟩
  case round =>
    clear hmk
    obtain ⟨k, pre, rfl, hv, hown, hb⟩ := hrel
    have hpl := hv.len
    have hbs := hb.size
    obtain ⟨i0, hi, hz0, hz1, hz2⟩ := info_parts Tryd.infoU8
    have HV := Lib.hid hv; clear hv
    by_cases h : 127 < k
    · go_wp2_with (at_builtin; go_must (refine wpList_append_own _ rfl _ _ 48 rfl w.heap.size 5 i0 (.int .u8 0) 1 1 Tryd.underlying48 hi hz0 hz1 hz2 rfl (by decide) _ _ _ rfl (hown.alloc _) ⟨wr.heap.size, 0, none⟩ 1 1 [.int .u8 (bits BinOp.or IntKind.u8 ((k : Int) % 256) 128)] rfl rfl (cell_one_new _ _ _) (by simp [Value.oneCell']) (by unfold maxLen; omega) (by omega) (by simp; omega) ?_; intro v' w1 hown1 hgrow _))
      have hx : bits BinOp.or IntKind.u8 ((k : Int) % 256) 128 = ((UInt8.ofNat (k % 128 + 128)).toNat : Int) := by
        have := bits_or128 (k % 256) (by omega)
        rw [show (((k % 256 : Nat)) : Int) = (k : Int) % 256 by omega] at this
        rw [this]; simp; omega
      obtain ⟨ho2, hb2⟩ := row_more hb hown hx hown1 hgrow
      exact ⟨⟨k / 128, _, by go_num, HV.out.step HN.out (by omega), ho2, hb2⟩, by simp [intOf]; omega⟩
    · go_wp2_with (at_builtin; go_must (refine wpList_append_own _ rfl _ _ 48 rfl w.heap.size 5 i0 (.int .u8 0) 1 1 Tryd.underlying48 hi hz0 hz1 hz2 rfl (by decide) _ _ _ rfl (hown.alloc _) ⟨wr.heap.size, 0, none⟩ 1 1 [.int .u8 (k : Int)] rfl rfl (cell_one_new _ _ _) (by simp [Value.oneCell']) (by unfold maxLen; omega) (by omega) (by simp; omega) ?_; intro v' w1 hown1 hgrow _; obtain ⟨g', cap', rfl⟩ := ownsRow_succ hown1; obtain ⟨ho2, hb2⟩ := row_more (x := UInt8.ofNat k) hb hown (by simp; omega) hown1 hgrow; rw [List.length_append, List.length_singleton] at ho2; have hcv := convert_owned (dst := 9) Tryd.underlying48 Tryd.underlying5 Tryd.underlying9 ho2))
      go_ret
      exact ⟨by show Ending.returned (Value.string ⟨(pre ++ [UInt8.ofNat k]).toArray⟩) = _; rw [HV.out.done (by omega)], hb2⟩

end Go.Proofs.YtogkdekjcbljnaaDoor
