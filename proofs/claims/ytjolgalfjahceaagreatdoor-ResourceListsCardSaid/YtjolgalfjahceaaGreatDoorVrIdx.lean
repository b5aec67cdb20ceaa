/- resource: slices.IndexFunc and ContainsFunc over fields with hasOtherKind. -/
import Derived.Test.YtjolgalfjahceaaGreatDoorVrOther
namespace Go.Proofs.YtjolgalfjahceaaGreatDoor
open Go.RowKit

theorem other_row {f : Fd} (w : World) : Calls Tryz.prog 36 #[.agg #[.int .i64 (f.num : Int), .int .i64 (f.kind : Int), .int .u64 (f.n : Int), .string ⟨f.s.toArray⟩]] w fun e w' => e = .returned (.bool (othK f)) ∧ Below w.heap.size w w' :=
  other_any f.num f.kind f.n _ f.s f.n w
theorem any_take_no {fs : List Fd} {k : Nat} (h : k < fs.length) (h0 : (fs.take k).any othK = false) (h1 : othK fs[k] = false) : (fs.take (k + 1)).any othK = false := by
  rw [List.take_succ_eq_append_getElem h, List.any_append, h0]; simp [h1]
theorem any_yes {fs : List Fd} {k : Nat} (h : k < fs.length) (h1 : othK fs[k] = true) : fs.any othK = true := List.any_eq_true.2 ⟨_, List.getElem_mem h, h1⟩

/-- An index is told, or -1. -/
def IdxPost (o : Bool) (w : World) (e : Ending) (w' : World) : Prop := (∃ i : Int, e = .returned (.int .i64 i) ∧ -1 ≤ i ∧ decide (0 ≤ i) = o) ∧ Below w.heap.size w w'
set_option maxRecDepth 100000 in
set_option maxHeartbeats 1000000 in
theorem index_any (a0 : Option Addr) (L cap g : Nat) (fs : List Fd) (w : World) (hL : fs.length = L) (ha : 0 < L → a0 = some ⟨g, 0, none⟩) (hr : RowAt w g fs) (hLb : L ≤ 1099511627776) :
    Calls Tryz.prog 51 #[.slice a0 L cap, .func (.func 36) #[] #[]] w (IdxPost (fs.any othK) w) := by
  have HL := Lib.hid hL; clear hL
  have HA := Lib.hid ha; clear ha
  have HR := Lib.hid hr; clear hr
  go_enter Tryz.func51, Tryz.ntmps51
  go_wp2_with fail
  go_loopw [8] (fun i wx => ∃ k : Nat, k ≤ L ∧ i = .int .i64 (k : Int) ∧ (fs.take k).any othK = false ∧ Below w.heap.size w wx) (fun i _ => L - (intOf i).toNat)
  case atStart => exact ⟨0, Nat.zero_le _, rfl, rfl, Below.refl _ _⟩
  case round =>
    obtain ⟨k, hk, rfl, hno, hb⟩ := hrel
    have HNO := Lib.hid hno; clear hno
    by_cases hlt : k < L
    · have ea := HA.out (by omega)
      subst ea
      have hkg : k < fs.length := by have := HL.out; omega
      obtain ⟨hgw, hr⟩ := HR.out.below hb
      obtain ⟨p0, p1, p2, p3⟩ := hr k hkg
      have HN := Lib.hid (fun h => any_take_no hkg HNO.out h)
      have HY := Lib.hid (fun h => any_yes (fs := fs) hkg h)
      clear hr
      generalize fs[k] = f at p0 p1 p2 p3 HN HY
      clear hkg
      cases ho : othK f with
      | true =>
        have HO := Lib.hid ho; clear ho
        go_wp2_with fail
        refine (other_row (f := f) _).mono ?_
        rw [HO.out]
        rintro e w1 ⟨rfl, hb1⟩
        go_wp2_with fail
        go_ret
        exact ⟨⟨k, rfl, by omega, by rw [HY.out HO.out]; simp⟩, hb.trans (hb1.mono hb.size)⟩
      | false =>
        have HO := Lib.hid ho; clear ho
        go_wp2_with fail
        refine (other_row (f := f) _).mono ?_
        rw [HO.out]
        rintro e w1 ⟨rfl, hb1⟩
        go_wp2_with fail
        go_roundw
        case rel => exact ⟨k + 1, by omega, by go_num, HN.out HO.out, hb.trans (hb1.mono hb.size)⟩
        case measure => simp [intOf]; omega
    · obtain rfl : k = L := by omega
      have hall : fs.any othK = false := by have := HNO.out; rw [List.take_of_length_le (by have := HL.out; omega)] at this; exact this
      have HF := Lib.hid hall; clear hall
      go_wp2_with fail
      go_ret
      exact ⟨⟨-1, rfl, by omega, by rw [HF.out]; rfl⟩, hb⟩
set_option maxRecDepth 100000 in
theorem contains_any (a0 : Option Addr) (L cap g : Nat) (fs : List Fd) (w : World) (hL : fs.length = L) (ha : 0 < L → a0 = some ⟨g, 0, none⟩) (hr : RowAt w g fs) (hLb : L ≤ 1099511627776) :
    Calls Tryz.prog 35 #[.slice a0 L cap, .func (.func 36) #[] #[]] w fun e w' => e = .returned (.bool (fs.any othK)) ∧ Below w.heap.size w w' := by
  have HI0 := index_any a0 L cap g fs w hL ha hr hLb
  obtain ⟨o, ho⟩ : ∃ o, fs.any othK = o := ⟨_, rfl⟩
  rw [ho] at HI0 ⊢
  have HI := Lib.hid HI0
  clear hL ha hr ho HI0
  go_enter Tryz.func35, Tryz.ntmps35
  go_wp2_with fail
  refine HI.out.mono ?_
  rintro e w1 ⟨⟨i, rfl, hi1, hio⟩, hb1⟩
  go_wp2_with fail
  go_ret
  exact ⟨rfl, hb1⟩
end Go.Proofs.YtjolgalfjahceaaGreatDoor
