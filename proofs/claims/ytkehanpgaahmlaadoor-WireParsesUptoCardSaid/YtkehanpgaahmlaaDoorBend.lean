/- The law's bend: the walk: it answers some text of the same length. -/
import Derived.Test.YtkehanpgaahmlaaDoorChecked
import Derived.Test.YtkehanpgaahmlaaDoorMark
import Derived.WalkLawsBesides
import Derived.WalkSpells
import Derived.Outline
import Derived.Lib.Hide
import Derived.RegionTactic
import Derived.ChangeAlike
import Derived.BigRegion
namespace Go.Proofs.YtkehanpgaahmlaaDoor
open Go.RowKit

theorem xor_byte (a b : Int) : ∃ z : UInt8, bits BinOp.xor IntKind.u8 a b = (z.toNat : Int) := by
  have h : 0 ≤ bits BinOp.xor IntKind.u8 a b ∧ bits BinOp.xor IntKind.u8 a b < 256 := by
    unfold bits
    constructor <;> simp [IntKind.wrap, IntKind.signed, IntKind.bits] <;> omega
  refine ⟨UInt8.ofNat (bits BinOp.xor IntKind.u8 a b).toNat, ?_⟩
  simp; omega

theorem rowM_convert {P : Program} {w : World} {base g cap n : Nat} {e src dst : TypeId} {l : List UInt8} (hs : P.underlying src = some (.slice e)) (he : P.underlying e = some (.int .u8)) (hd : P.underlying dst = some .string)
    (h : RowM w base e g cap (l.map fun x => Value.int .u8 (x.toNat : Int))) (hn : l.length = n) :
    (convert src dst (.slice (some ⟨g, 0, none⟩) n cap)).run P w = .ok (.string ⟨l.toArray⟩) w := by
  subst hn
  refine run_convert_bytes_back w src dst e ⟨g, 0, none⟩ cap l hs he hd fun j hj => ?_
  have e : (⟨g, 0, none⟩ : Addr).add j = ⟨g, j, none⟩ := by unfold Addr.add; split <;> simp_all
  rw [e]; exact h.cell (by simp [hj])

set_option maxRecDepth 100000 in
set_option maxHeartbeats 1000000 in
theorem bend_pos (s : ByteArray) (p : Int) (y : Nat) (w : World) (hs : s.size ≤ 1099511627776) (h0 : 0 < s.size) (hp : 0 ≤ p) (hp2 : p ≤ 9223372036854775807) :
    Calls Tryd.prog 23 #[.string s, .int .i64 p, .int .u8 y] w fun e w' => (∃ S : ByteArray, e = .returned (.string S) ∧ S.size = s.size) ∧ Below w.heap.size w w' := by
  have hem : s.toList.isEmpty = false := by
    rw [ByteArray.toList_eq]
    have hl : s.data.toList.length = s.size := by simp
    cases he : s.data.toList with
    | nil => rw [he] at hl; simp at hl; omega
    | cons x l => rfl
  obtain ⟨J, hJ⟩ : ∃ J : Nat, p % (s.size : Int) = (J : Int) := ⟨(p % (s.size : Int)).toNat, by have := Int.emod_nonneg p (show (s.size : Int) ≠ 0 by omega); omega⟩
  have HJ0 := Lib.hid hJ
  have hJs : J < s.size := by have := Int.emod_lt_of_pos p (show (0 : Int) < (s.size : Int) by omega); omega
  have kc := run_bytes_of_string (P := Tryd.prog) w 9 42 5 s Tryd.underlying9 Tryd.underlying42 Tryd.underlying5
  have hr := rowM_of_string w w.heap.size 5 s (Nat.le_refl _) (by unfold maxLen; omega)
  have hb := (below_drewN (Below.refl w.heap.size w) 1).alloc (Nat.le_refl _) (.cells (bytesRow s (grownCap w s.size 0 5)) 5 ((bytesRow s (grownCap w s.size 0 5)).size, (bytesRow s (grownCap w s.size 0 5)).size + 1))
  obtain ⟨cap, hcap⟩ : ∃ cap, grownCap w s.size 0 5 = cap := ⟨_, rfl⟩
  rw [hcap] at kc hr hb
  obtain ⟨W1, hW1⟩ : ∃ W1, w.drew.alloc (.cells (bytesRow s cap) 5 ((bytesRow s cap).size, (bytesRow s cap).size + 1)) = W1 := ⟨_, rfl⟩
  have hb' : Below w.heap.size w W1 := by rw [← hW1]; exact hb
  rw [hW1] at kc hr
  have HW1 := Lib.hid hW1
  clear hb hcap hW1
  have hlen : s.data.toList.length = s.size := by simp
  obtain ⟨x, hx⟩ : ∃ x, s.data.toList[J]? = some x := ⟨_, List.getElem?_eq_getElem (by omega)⟩
  have hcJ := hr.cell (j := J) (u := .int .u8 (x.toNat : Int)) (by rw [List.getElem?_map, hx]; rfl)
  have hfJ := hr.free (j := J) (by simp; omega)
  have HR := Lib.hid hr; clear hr
  have HB := Lib.hid hb'; clear hb'
  have HLEN := Lib.hid hlen; clear hlen hx
  have hj1 : (J : Int) < (s.size : Int) := by omega
  have hsn : (s.size : Int) ≠ 0 := by omega
  obtain ⟨z, hz⟩ := xor_byte (x.toNat : Int) (y : Int)
  go_enter Tryd.func23, Tryd.ntmps23
  go_wp2_with fail
  have hJt : p.tmod (s.size : Int) = (J : Int) := by rw [Int.tmod_eq_emod_of_nonneg hp]; exact HJ0.out
  have hz0 : ((s.size : Int) == 0) = false := beq_eq_false_iff_ne.2 hsn
  have hj0 : (0 : Int) ≤ (J : Int) := Int.natCast_nonneg J
  have hr2 := HR.out.set J (.int .u8 (z.toNat : Int))
  have hset : (s.data.toList.map fun x => Value.int .u8 (x.toNat : Int)).set J (.int .u8 (z.toNat : Int)) = (s.data.toList.set J z).map fun x => Value.int .u8 (x.toNat : Int) := by rw [List.map_set]
  rw [hset] at hr2
  have hl2 : (s.data.toList.set J z).length = s.size := by rw [List.length_set]; exact HLEN.out
  have hcv := rowM_convert (P := Tryd.prog) (w := (W1.setCell ⟨w.heap.size, J, none⟩ (.int .u8 (z.toNat : Int))).drew) (dst := 9) Tryd.underlying42 Tryd.underlying5 Tryd.underlying9 hr2 hl2
  have HL2 := Lib.hid hl2
  clear hset hr2 hl2
  go_region
  go_wp2_with fail
  go_ret
  exact ⟨⟨_, rfl, (show (List.toArray _).size = _ from (List.size_toArray ..).trans HL2.out)⟩, below_drewN (HB.out.setCell (p := ⟨w.heap.size, J, none⟩) (Nat.le_refl _) _) 1⟩
set_option maxRecDepth 100000 in
set_option maxHeartbeats 1000000 in
theorem bend_neg (s : ByteArray) (p : Int) (y : Nat) (w : World) (hs : s.size ≤ 1099511627776) (h0 : 0 < s.size) (q : Int) (hq : -(p + 1) = q) (hp : p < 0) (hp2 : -9223372036854775808 ≤ p) :
    Calls Tryd.prog 23 #[.string s, .int .i64 p, .int .u8 y] w fun e w' => (∃ S : ByteArray, e = .returned (.string S) ∧ S.size = s.size) ∧ Below w.heap.size w w' := by
  have hem : s.toList.isEmpty = false := by
    rw [ByteArray.toList_eq]
    have hl : s.data.toList.length = s.size := by simp
    cases he : s.data.toList with
    | nil => rw [he] at hl; simp at hl; omega
    | cons x l => rfl
  have hq0 : 0 ≤ q := by omega
  obtain ⟨J, hJ⟩ : ∃ J : Nat, q % (s.size : Int) = (J : Int) := ⟨(q % (s.size : Int)).toNat, by have := Int.emod_nonneg q (show (s.size : Int) ≠ 0 by omega); omega⟩
  have HJ0 := Lib.hid hJ
  have hJs : J < s.size := by have := Int.emod_lt_of_pos q (show (0 : Int) < (s.size : Int) by omega); omega
  have kc := run_bytes_of_string (P := Tryd.prog) w 9 42 5 s Tryd.underlying9 Tryd.underlying42 Tryd.underlying5
  have hr := rowM_of_string w w.heap.size 5 s (Nat.le_refl _) (by unfold maxLen; omega)
  have hb := (below_drewN (Below.refl w.heap.size w) 1).alloc (Nat.le_refl _) (.cells (bytesRow s (grownCap w s.size 0 5)) 5 ((bytesRow s (grownCap w s.size 0 5)).size, (bytesRow s (grownCap w s.size 0 5)).size + 1))
  obtain ⟨cap, hcap⟩ : ∃ cap, grownCap w s.size 0 5 = cap := ⟨_, rfl⟩
  rw [hcap] at kc hr hb
  obtain ⟨W1, hW1⟩ : ∃ W1, w.drew.alloc (.cells (bytesRow s cap) 5 ((bytesRow s cap).size, (bytesRow s cap).size + 1)) = W1 := ⟨_, rfl⟩
  have hb' : Below w.heap.size w W1 := by rw [← hW1]; exact hb
  rw [hW1] at kc hr
  have HW1 := Lib.hid hW1
  clear hb hcap hW1
  have hlen : s.data.toList.length = s.size := by simp
  obtain ⟨x, hx⟩ : ∃ x, s.data.toList[J]? = some x := ⟨_, List.getElem?_eq_getElem (by omega)⟩
  have hcJ := hr.cell (j := J) (u := .int .u8 (x.toNat : Int)) (by rw [List.getElem?_map, hx]; rfl)
  have hfJ := hr.free (j := J) (by simp; omega)
  have HR := Lib.hid hr; clear hr
  have HB := Lib.hid hb'; clear hb'
  have HLEN := Lib.hid hlen; clear hlen hx
  have hj1 : (J : Int) < (s.size : Int) := by omega
  have hsn : (s.size : Int) ≠ 0 := by omega
  obtain ⟨z, hz⟩ := xor_byte (x.toNat : Int) (y : Int)
  go_enter Tryd.func23, Tryd.ntmps23
  go_wp2_with fail
  have hJt : q.tmod (s.size : Int) = (J : Int) := by rw [Int.tmod_eq_emod_of_nonneg hq0]; exact HJ0.out
  have hz0 : ((s.size : Int) == 0) = false := beq_eq_false_iff_ne.2 hsn
  have hj0 : (0 : Int) ≤ (J : Int) := Int.natCast_nonneg J
  have hr2 := HR.out.set J (.int .u8 (z.toNat : Int))
  have hset : (s.data.toList.map fun x => Value.int .u8 (x.toNat : Int)).set J (.int .u8 (z.toNat : Int)) = (s.data.toList.set J z).map fun x => Value.int .u8 (x.toNat : Int) := by rw [List.map_set]
  rw [hset] at hr2
  have hl2 : (s.data.toList.set J z).length = s.size := by rw [List.length_set]; exact HLEN.out
  have hcv := rowM_convert (P := Tryd.prog) (w := (W1.setCell ⟨w.heap.size, J, none⟩ (.int .u8 (z.toNat : Int))).drew) (dst := 9) Tryd.underlying42 Tryd.underlying5 Tryd.underlying9 hr2 hl2
  have HL2 := Lib.hid hl2
  clear hset hr2 hl2
  go_region
  go_wp2_with fail
  go_ret
  exact ⟨⟨_, rfl, (show (List.toArray _).size = _ from (List.size_toArray ..).trans HL2.out)⟩, below_drewN (HB.out.setCell (p := ⟨w.heap.size, J, none⟩) (Nat.le_refl _) _) 1⟩

theorem bend_any (s : ByteArray) (p : Int) (y : Nat) (w : World) (hs : s.size ≤ 1099511627776) (hp1 : -9223372036854775808 ≤ p) (hp2 : p ≤ 9223372036854775807) :
    Calls Tryd.prog 23 #[.string s, .int .i64 p, .int .u8 y] w fun e w' => (∃ S : ByteArray, e = .returned (.string S) ∧ S.size = s.size) ∧ Below w.heap.size w w' := by
  by_cases h0 : s.size = 0
  · have hem : s.toList.isEmpty = true := by
      rw [ByteArray.toList_eq]
      have hl : s.data.toList.length = s.size := by simp
      cases he : s.data.toList with
      | nil => rfl
      | cons x l => rw [he] at hl; simp at hl; omega
    clear h0
    go_enter Tryd.func23, Tryd.ntmps23
    go_wp2_with fail
    go_ret
    exact ⟨⟨_, rfl, rfl⟩, Below.refl _ _⟩
  · by_cases hp : 0 ≤ p
    · exact bend_pos s p y w hs (by omega) hp hp2
    · exact bend_neg s p y w hs (by omega) _ rfl (by omega) hp1
end Go.Proofs.YtkehanpgaahmlaaDoor
