/- message: lists of names that may stand in a request (areAll). -/
import Derived.Test.YtdcfdcjgheijcaaGreatDoorClRight
import Derived.Test.YtdcfdcjgheijcaaGreatDoorClWant
namespace Go.Proofs.YtdcfdcjgheijcaaGreatDoor
open Go.RowKit Go.Lib

set_option maxRecDepth 100000 in
set_option maxHeartbeats 2000000 in
theorem isAll_any {x : List UInt8} {w : World} (hx : x = [42] ∨ okN x = true) : Calls Tryz.prog 99 #[.string ⟨x.toArray⟩] w fun e w' => e = .returned (.bool true) ∧ Below w.heap.size w w' := by
  go_enter Tryz.func99, Tryz.ntmps99
  by_cases h : x = [42]
  · subst h
    go_wp2_with fail
    go_ret
    exact ⟨rfl, Below.refl _ _⟩
  · have ho : nmOk ⟨x.toArray⟩ = true := by
      rcases hx with h' | h'
      · exact absurd h' h
      · exact h'
    have hq : (x == [42]) = false := by simpa using h
    have HO := Lib.hid ho
    clear ho hx h
    go_wp2_with fail
    refine (name_any ⟨x.toArray⟩ w).mono ?_
    rintro e w' ⟨rfl, rfl⟩
    rw [HO.out]
    go_wp2_with fail
    go_ret
    exact ⟨rfl, Below.refl _ _⟩
abbrev fAll : Value := .func (.func 99) #[] #[]
abbrev fHave : Value := .func (.func 101) #[] #[]
set_option maxRecDepth 100000 in
set_option maxHeartbeats 2000000 in
theorem sall_yes {a : Option Addr} {c n : Nat} {L : List (List UInt8)} {w : World} (h : TsAt w (.slice a n c) L) (hn : L.length = n) (hL : n ≤ 64) (hx : ∀ x ∈ L, x = [42] ∨ okN x = true) :
    Calls Tryz.prog 90 #[.slice a n c, .int .i64 64, fAll] w fun e w' => e = .returned (.bool true) ∧ Below w.heap.size w w' := by
  have hent : ∀ (args : Array Value) (w : World), (callFunc 99 args).run Tryz.prog w = .ok (.enter 99 args) w := enters_of Tryz.func99 (by kernel_rfl) rfl
  have H := Lib.hid (And.intro h (And.intro hn hx))
  have b64 : ¬ (64 : Int) < (n : Int) := by omega
  clear h hn hx
  go_enter Tryz.func90, Tryz.ntmps90
  go_wp2_with fail
  go_loopw [15] (fun i wr => ∃ k : Nat, k ≤ n ∧ i = .int .i64 k ∧ Below w.heap.size w wr) (fun i _ => n - (RowKit.intOf i).toNat)
  case atStart => exact ⟨0, Nat.zero_le _, rfl, Below.refl _ _⟩
  case round =>
    obtain ⟨k, hk, rfl, hb⟩ := hrel
    by_cases hlt : k < n
    · obtain ⟨x, hx⟩ : ∃ x, L[k]? = some x := ⟨_, List.getElem?_eq_getElem (by have := H.out.2.1; omega)⟩
      obtain ⟨a', c', e, _, _, hc⟩ := H.out.1
      injection e with e1 e2 e3
      subst e1
      obtain ⟨bb, off, rfl, hbl, hcell⟩ := hc k (encStr x) (by rw [tsV, List.getElem?_map, hx]; rfl)
      have d1 : wr.cell? ⟨bb, off + k, none⟩ = some (.string ⟨x.toArray⟩) := (hb.cell (p := ⟨bb, _, none⟩) hbl).trans hcell
      have b0 : (0 : Int) ≤ (k : Int) := by omega
      have b1 : (k : Int) < (n : Int) := by omega
      have HC := Lib.hid (isAll_any (w := wr) (H.out.2.2 x (List.mem_of_getElem? hx)))
      have HB := Lib.hid hb
      clear hb hx hc e2 e3 hcell hbl
      go_wp2_with fail
      refine HC.out.mono ?_
      rintro e w2 ⟨rfl, hb2⟩
      have HB2 := Lib.hid (HB.out.trans (hb2.mono HB.out.size))
      clear hb2
      go_wp2_with fail
      go_roundw
      case rel => exact ⟨k + 1, by omega, by go_num, HB2.out⟩
      case measure => simp [RowKit.intOf]; omega
    · have b1 : ¬ (k : Int) < (n : Int) := by omega
      have HB := Lib.hid hb
      clear hb
      go_wp2_with fail
      go_ret
      exact ⟨rfl, HB.out⟩
set_option maxRecDepth 100000 in
set_option maxHeartbeats 2000000 in
theorem chkHave_any {r : Hv} {w : World} (ho : okN r.x = true) : Calls Tryz.prog 101 #[.agg #[.string ⟨r.x.toArray⟩, .int .u64 (r.q : Int)]] w fun e w' => e = .returned (.bool true) ∧ Below w.heap.size w w' := by
  obtain ⟨w0, hw0, hb0, p0⟩ := alloc_new w #[.string ⟨r.x.toArray⟩, .int .u64 (r.q : Int)] 65
  have HW := Lib.hid hw0
  have HO := Lib.hid (And.intro (show nmOk ⟨r.x.toArray⟩ = true from ho) hb0)
  have c0 := p0.cell 0
  have c1 := p0.cell 1
  simp only [List.getElem?_toArray, List.getElem?_cons_zero, List.getElem?_cons_succ] at c0 c1
  clear hw0 hb0 p0 ho
  go_enter Tryz.func101, Tryz.ntmps101
  go_wp2_with (rw [HW.out])
  refine (name_any ⟨r.x.toArray⟩ w0).mono ?_
  rintro e w' ⟨rfl, rfl⟩
  rw [HO.out.1]
  go_wp2_with fail
  go_ret
  exact ⟨rfl, HO.out.2⟩
set_option maxRecDepth 100000 in
set_option maxHeartbeats 2000000 in
theorem hall_yes {a : Option Addr} {c n : Nat} {L : List Hv} {w : World} (h : HvAt w a L) (hn : L.length = n) (hL : n ≤ 64) (hx : ∀ r ∈ L, okN r.x = true) :
    Calls Tryz.prog 100 #[.slice a n c, .int .i64 64, fHave] w fun e w' => e = .returned (.bool true) ∧ Below w.heap.size w w' := by
  have hent : ∀ (args : Array Value) (w : World), (callFunc 101 args).run Tryz.prog w = .ok (.enter 101 args) w := enters_of Tryz.func101 (by kernel_rfl) rfl
  have H := Lib.hid (And.intro h (And.intro hn hx))
  have b64 : ¬ (64 : Int) < (n : Int) := by omega
  clear h hn hx
  go_enter Tryz.func100, Tryz.ntmps100
  go_wp2_with fail
  go_loopw [15] (fun i wr => ∃ k : Nat, k ≤ n ∧ i = .int .i64 k ∧ Below w.heap.size w wr) (fun i _ => n - (RowKit.intOf i).toNat)
  case atStart => exact ⟨0, Nat.zero_le _, rfl, Below.refl _ _⟩
  case round =>
    obtain ⟨k, hk, rfl, hb⟩ := hrel
    by_cases hlt : k < n
    · obtain ⟨r, hr⟩ : ∃ r, L[k]? = some r := ⟨_, List.getElem?_eq_getElem (by have := H.out.2.1; omega)⟩
      obtain ⟨bb, off, rfl, hbl, q0, q1⟩ := H.out.1 k r hr
      have d0 := (hb.cell (p := ⟨bb, _, none⟩) hbl).trans q0
      have d1 := (hb.cell (p := ⟨bb, _, none⟩) hbl).trans q1
      have b0 : (0 : Int) ≤ (k : Int) := by omega
      have b1 : (k : Int) < (n : Int) := by omega
      obtain ⟨w2, hw2, hb2, p2⟩ := alloc_new wr #[.string ⟨r.x.toArray⟩, .int .u64 (r.q : Int)] 65
      have e0 := p2.cell 0
      have e1 := p2.cell 1
      simp only [List.getElem?_toArray, List.getElem?_cons_zero, List.getElem?_cons_succ] at e0 e1
      have HW2 := Lib.hid hw2
      have HC := Lib.hid (chkHave_any (w := w2) (H.out.2.2 r (List.mem_of_getElem? hr)))
      have HB := Lib.hid (hb.trans (hb2.mono hb.size))
      clear hb hr q0 q1 hbl hw2 hb2 p2
      go_wp2_with (rw [HW2.out])
      refine HC.out.mono ?_
      rintro e w3 ⟨rfl, hb3⟩
      have HB2 := Lib.hid (HB.out.trans (hb3.mono HB.out.size))
      clear hb3
      dsimp only
      go_wp2_with fail
      go_roundw
      case rel => exact ⟨k + 1, by omega, by go_num, HB2.out⟩
      case measure => simp [RowKit.intOf]; omega
    · have b1 : ¬ (k : Int) < (n : Int) := by omega
      have HB := Lib.hid hb
      clear hb
      go_wp2_with fail
      go_ret
      exact ⟨rfl, HB.out⟩
end Go.Proofs.YtdcfdcjgheijcaaGreatDoor
