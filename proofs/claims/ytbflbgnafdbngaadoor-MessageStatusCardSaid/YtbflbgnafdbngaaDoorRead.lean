/- readNumber and ReadVarint: the walks. -/
import Derived.Test.YtbflbgnafdbngaaDoorChecked
import Derived.Test.YtbflbgnafdbngaaDoorPlain
import Derived.Test.YtbflbgnafdbngaaDoorAid
import Derived.Test.YtbflbgnafdbngaaDoorIs
import Derived.WalkLawsBesides
import Derived.WalkSpells
import Derived.RowKitTokens
import Derived.Outline
import Derived.Lib.Hide
import Derived.IntWalk
import Derived.BigQuiet
import Derived.Deep.QuietTactic
namespace Go.Proofs.YtbflbgnafdbngaaDoor
open Go.RowKit

/-- The variable errForm holds the sentinel at b. -/
def Gv (b : Addr) (w : World) : Prop := w.cell? ⟨1, 0, none⟩ = some (.iface 149 (.pointer (some b))) ∧ 1 < w.heap.size
theorem Gv.below {b : Addr} {w w' : World} (h : Gv b w) (hb : Below w.heap.size w w') : Gv b w' :=
  ⟨(hb.cell (p := ⟨1, 0, none⟩) h.2).trans h.1, Nat.lt_of_lt_of_le h.2 hb.size⟩

/-- What readNumber comes to. -/
def RdPost (b : Addr) (r : Option (Nat × Nat)) (w : World) (e : Ending) (w' : World) : Prop :=
  match r with
  | some (v, k) => e = .returned (.tuple #[.int .u64 v, .int .i64 k, .nilIface]) ∧ w' = w
  | none => (∃ j : Int, e = .returned (.tuple #[.int .u64 0, .int .i64 0, .iface 145 (.agg #[.int .i64 j, Tryd.S b])])) ∧ ∃ n, w' = w.drewN n

theorem RdPost.yes {b : Addr} {r : Option (Nat × Nat)} {w : World} {e : Ending} {v k : Nat} (h : r = some (v, k)) (he : e = .returned (.tuple #[.int .u64 v, .int .i64 k, .nilIface])) : RdPost b r w e w := by
  subst h; exact ⟨he, rfl⟩
theorem RdPost.no {b : Addr} {r : Option (Nat × Nat)} {w : World} {e : Ending} {j : Int} (h : r = none) (he : e = .returned (.tuple #[.int .u64 0, .int .i64 0, .iface 145 (.agg #[.int .i64 j, Tryd.S b])])) (n : Nat) : RdPost b r w e (w.drewN n) := by
  subst h; exact ⟨⟨j, he⟩, n, rfl⟩
theorem data_get (s : ByteArray) (j : Nat) (h : j < s.size) : s.data.toList[j]'(by simpa using h) = s[j] := by simp; rfl

set_option maxRecDepth 100000 in
set_option maxHeartbeats 400000 in
theorem readNumber_any (s : ByteArray) (b : Addr) (w : World) (hs : s.size ≤ maxLen) (hg : Gv b w) :
    Calls Tryd.prog 74 #[.string s] w fun e w' => RdPost b (rd s.data.toList) w e w' := by
  unfold maxLen at hs
  have hc := hg.1
  go_enter Tryd.func74, Tryd.ntmps74
  go_wp2
  · go_loop [5, 11] (fun a i => ∃ (j acc : Nat), i = .int .i64 j ∧ a = .int .u64 acc ∧ j ≤ 10 ∧ RRel s.data.toList j acc) (fun _ i => 10 - (intOf i).toNat)
    case atStart => exact ⟨0, 0, rfl, rfl, by omega, RRel.start _⟩
    case round =>
      obtain ⟨j, acc, rfl, rfl, hj, hr⟩ := hrel
      have HR := Lib.hid hr; clear hr
      by_cases hlt : j < 10
      · have hjs : j < s.size := by omega
        by_cases hbad : j = 9 ∧ 1 < s[j].toNat
        · obtain ⟨rfl, hx⟩ := hbad
          go_wp2
          go_quiet (fail)
          go_wp2
          go_ret3
          exact RdPost.no (j := 9) (HR.out.bad rfl (by simpa using hjs) (by rw [data_get s 9 hjs]; exact hx)) rfl _
        · have HO := Lib.hid (or_step8 HR.out.2 (show j < 10 by omega) hbad)
          by_cases hx : s[j].toNat < 128
          · have HD := Lib.hid (HR.out.done (show j < 10 by omega) (by simpa using hjs) (by rw [data_get s j hjs]; exact hbad) (by rw [data_get s j hjs]; exact hx))
            by_cases h9 : j = 9
            · subst h9
              have hx1 : s[9].toNat ≤ 1 := by omega
              go_wp2
              go_ret3
              exact RdPost.yes HD.out (by rw [data_get s 9 hjs, ← HO.out]; rfl)
            · go_wp2
              go_ret3
              exact RdPost.yes HD.out (by rw [data_get s j hjs, ← HO.out]; rfl)
          · have HD := Lib.hid (HR.out.step (show j < 10 by omega) (by simpa using hjs) (by rw [data_get s j hjs]; exact hbad) (by rw [data_get s j hjs]; exact hx))
            have h9 : ¬ j = 9 := by omega
            go_wp2
            rw [HO.out]
            exact ⟨⟨j + 1, _, by go_num, rfl, by omega, by rw [← data_get s j hjs]; exact HD.out⟩, by simp [intOf]; omega⟩
      · go_wp2
        go_quiet (fail)
        go_wp2
        go_ret3
        exact RdPost.no (j := s.size) (HR.out.ten (by omega)) rfl _
  · go_loop [5, 11] (fun a i => ∃ (j acc : Nat), i = .int .i64 j ∧ a = .int .u64 acc ∧ j ≤ s.size ∧ RRel s.data.toList j acc) (fun _ i => s.size - (intOf i).toNat)
    case atStart => exact ⟨0, 0, rfl, rfl, by omega, RRel.start _⟩
    case round =>
      obtain ⟨j, acc, rfl, rfl, hj, hr⟩ := hrel
      have HR := Lib.hid hr; clear hr
      by_cases hlt : j < s.size
      · have hjs : j < s.size := by omega
        by_cases hbad : j = 9 ∧ 1 < s[j].toNat
        · obtain ⟨rfl, hx⟩ := hbad
          go_wp2
          go_quiet (fail)
          go_wp2
          go_ret3
          exact RdPost.no (j := 9) (HR.out.bad rfl (by simpa using hjs) (by rw [data_get s 9 hjs]; exact hx)) rfl _
        · have HO := Lib.hid (or_step8 HR.out.2 (show j < 10 by omega) hbad)
          by_cases hx : s[j].toNat < 128
          · have HD := Lib.hid (HR.out.done (show j < 10 by omega) (by simpa using hjs) (by rw [data_get s j hjs]; exact hbad) (by rw [data_get s j hjs]; exact hx))
            by_cases h9 : j = 9
            · subst h9
              have hx1 : s[9].toNat ≤ 1 := by omega
              go_wp2
              go_ret3
              exact RdPost.yes HD.out (by rw [data_get s 9 hjs, ← HO.out]; rfl)
            · go_wp2
              go_ret3
              exact RdPost.yes HD.out (by rw [data_get s j hjs, ← HO.out]; rfl)
          · have HD := Lib.hid (HR.out.step (show j < 10 by omega) (by simpa using hjs) (by rw [data_get s j hjs]; exact hbad) (by rw [data_get s j hjs]; exact hx))
            have h9 : ¬ j = 9 := by omega
            go_wp2
            rw [HO.out]
            exact ⟨⟨j + 1, _, by go_num, rfl, by omega, by rw [← data_get s j hjs]; exact HD.out⟩, by simp [intOf]; omega⟩
      · go_wp2
        go_quiet (fail)
        go_wp2
        go_ret3
        exact RdPost.no (j := s.size) (HR.out.short (by simp; omega)) rfl _

/-- What ReadVarint comes to. -/
def rvVal (r : Option (Nat × Nat)) : Value :=
  match r with
  | some (v, k) => .tuple #[.int .u64 v, .int .i64 k, .bool true]
  | none => .tuple #[.int .u64 0, .int .i64 0, .bool false]
theorem rv_yes {r : Option (Nat × Nat)} {e : Ending} {v k : Nat} (h : r = some (v, k)) (he : e = .returned (.tuple #[.int .u64 v, .int .i64 k, .bool true])) : e = .returned (rvVal r) := by
  subst h; exact he
theorem rv_no {r : Option (Nat × Nat)} {e : Ending} (h : r = none) (he : e = .returned (.tuple #[.int .u64 0, .int .i64 0, .bool false])) : e = .returned (rvVal r) := by
  subst h; exact he

/-- The same of the reference's form. -/
theorem or_step_ref {acc j : Nat} {x : UInt8} (ha : acc < 128 ^ j) (hj : j < 10) (hx : ¬ (j = 9 ∧ 1 < x.toNat)) :
    bits .or .u64 (acc : Int) (IntKind.u64.wrap ((x.toNat : Int) % 128 * 2 ^ (7 * j))) = ((acc + x.toNat % 128 * 128 ^ j : Nat) : Int) := by
  exact or_step (x := x.toNat % 128) ha hj (by omega) (by omega)

theorem or_step9 {acc : Nat} {x : UInt8} (ha : acc < 128 ^ 9) (hx : x.toNat ≤ 1) :
    bits .or .u64 (acc : Int) ((x.toNat : Int) % 128 * 9223372036854775808) = ((acc + x.toNat % 128 * 128 ^ 9 : Nat) : Int) := by
  have h := or_step_ref (j := 9) (x := x) ha (by omega) (by omega)
  rw [show (2 : Int) ^ (7 * 9) = 9223372036854775808 from by decide, IntWalk.u64_in _ (by omega)] at h
  exact h

/-- What follows of a draw. -/
theorem below_drewN' {w : World} (n : Nat) : Below w.heap.size w (w.drewN n) := by
  exact below_drewN (Below.refl _ _) n
end Go.Proofs.YtbflbgnafdbngaaDoor
