/- payload: how a field is taken: the walks. -/
import Derived.Test.YtngceccpebdgmaaGreatDoorPlSing
import Derived.Test.YtngceccpebdgmaaGreatDoorParse
import Derived.Deep.RegionHeld3
import Derived.Deep.DrawnRows
namespace Go.Proofs.YtngceccpebdgmaaGreatDoor
open Go.RowKit Go.Shelf
attribute [local go_sem ↓] Go.wp_at_zero Go.wp_at_succ

/-- What a field's text and number are. -/
theorem textPayload_1 (f : Fd) (w : World) : Calls Tryz.prog 108 #[.agg #[.int .i64 (f.num : Int), .int .i64 (f.kind : Int), .int .u64 (f.n : Int), .string ⟨f.s.toArray⟩]] w fun e w' => e = .returned (.string ⟨f.s.toArray⟩) ∧ Below w.heap.size w w' := by
  go_enter Tryz.func108, Tryz.ntmps108
  go_wp2
  go_ret
  exact ⟨rfl, (Below.refl _ _).alloc (Nat.le_refl _) _⟩
theorem numberPayload_1 (f : Fd) (w : World) : Calls Tryz.prog 111 #[.agg #[.int .i64 (f.num : Int), .int .i64 (f.kind : Int), .int .u64 (f.n : Int), .string ⟨f.s.toArray⟩]] w fun e w' => e = .returned (.int .u64 (f.n : Int)) ∧ Below w.heap.size w w' := by
  go_enter Tryz.func111, Tryz.ntmps111
  go_wp2
  go_ret
  exact ⟨rfl, (Below.refl _ _).alloc (Nat.le_refl _) _⟩
theorem textRule_1 (f : Fd) (w : World) : Calls Tryz.prog 144 #[.agg #[.int .i64 (f.num : Int), .int .i64 (f.kind : Int), .int .u64 (f.n : Int), .string ⟨f.s.toArray⟩]] w fun e w' => e = .returned (.string ⟨f.s.toArray⟩) ∧ Below w.heap.size w w' := by
  go_enter Tryz.func144, Tryz.ntmps144
  go_wp2
  go_ret
  exact ⟨rfl, (Below.refl _ _).alloc (Nat.le_refl _) _⟩
theorem textAddr_1 (f : Fd) (w : World) : Calls Tryz.prog 147 #[.agg #[.int .i64 (f.num : Int), .int .i64 (f.kind : Int), .int .u64 (f.n : Int), .string ⟨f.s.toArray⟩]] w fun e w' => e = .returned (.string ⟨f.s.toArray⟩) ∧ Below w.heap.size w w' := by
  go_enter Tryz.func147, Tryz.ntmps147
  go_wp2
  go_ret
  exact ⟨rfl, (Below.refl _ _).alloc (Nat.le_refl _) _⟩
theorem numberAddr_1 (f : Fd) (w : World) : Calls Tryz.prog 149 #[.agg #[.int .i64 (f.num : Int), .int .i64 (f.kind : Int), .int .u64 (f.n : Int), .string ⟨f.s.toArray⟩]] w fun e w' => e = .returned (.int .u64 (f.n : Int)) ∧ Below w.heap.size w w' := by
  go_enter Tryz.func149, Tryz.ntmps149
  go_wp2
  go_ret
  exact ⟨rfl, (Below.refl _ _).alloc (Nat.le_refl _) _⟩

theorem lt_ad (w : World) (o : Obj) : w.heap.size < ((w.alloc o).drew).heap.size := by rw [World.size_drew, World.size_alloc]; omega
theorem new_cell_drew (w : World) (cs : Array Value) (t : TypeId) (j : Nat) : ((w.alloc (.cells cs t)).drew).cell? ⟨w.heap.size, j, none⟩ = cs[j]? := new_cell w cs t j
theorem take_after {w w4 : World} {cs : Array Value} {t : TypeId} (h : Below ((w.alloc (.cells cs t)).drew).heap.size ((w.alloc (.cells cs t)).drew) w4) : Below w.heap.size w w4 ∧ ∀ j, w4.cell? ⟨w.heap.size, j, none⟩ = cs[j]? :=
  ⟨(((Below.refl w.heap.size w).alloc (Nat.le_refl _) (.cells cs t)).drew).trans (h.mono (Nat.le_of_lt (lt_ad _ _))), fun j => (h.cell (p := ⟨w.heap.size, j, none⟩) (lt_ad _ _)).trans (new_cell_drew w cs t j)⟩
theorem cell_set_ne {w : World} {k B i o : Nat} {v : Value} (h : k ≠ B) : (w.setCell ⟨B, i, none⟩ v).cell? ⟨k, o, none⟩ = w.cell? ⟨k, o, none⟩ := World.cell?_of_block (a := ⟨k, o, none⟩) (Below.heap_setCell w ⟨B, i, none⟩ v k h)
theorem blk_set {W : World} {B : Nat} {c : Array Value} {t : TypeId} (h : Blk W B c t) (j : Nat) (v : Value) : Blk (W.setCell ⟨B, j, none⟩ v) B (c.setIfInBounds j v) t := setCell_heap h
theorem grown_set {W W1 : World} {B : Nat} {c : Array Value} {t : TypeId} (_h : Blk W B c t) (hb : Below W.heap.size W W1) (j : Nat) (v : Value) : W.grownBy (W1.setCell ⟨B, j, none⟩ v) (some B) :=
  ⟨hb.os, hb.tape, hb.output, by simpa [World.setCell] using hb.size, fun k hk hne => (Below.heap_setCell _ _ _ _ (fun e => hne (by rw [e]))).trans (hb.block k hk)⟩

set_option maxRecDepth 100000 in
set_option maxHeartbeats 1000000 in
theorem takeRule_0 (B bv bo : Nat) (cs : Array Value) (f : Fd) (w : World) (hB : Blk w B cs 42) (hcs : cs.size = 2) (hv : Box w bv (.func (.func 144) #[] #[])) (ho : Box w bo (.func (.func 117) #[] #[])) (hne1 : bo ≠ B) (hne2 : bv ≠ B) :
    Calls Tryz.prog 161 #[.pointer (some ⟨B, 0, none⟩), .agg #[.int .i64 (f.num : Int), .int .i64 (f.kind : Int), .int .u64 (f.n : Int), .string ⟨f.s.toArray⟩], .pointer (some ⟨bv, 0, none⟩), .pointer (some ⟨bo, 0, none⟩)] w fun e w' => e = .returned (.bool true) ∧ Blk w' B (cs.setIfInBounds 0 (.string ⟨f.s.toArray⟩)) 42 ∧ w.grownBy w' (some B) := by
  obtain ⟨hvl, hvc⟩ := hv
  obtain ⟨hol, hoc⟩ := ho
  have HB := Lib.hid hB
  have hbl := hB.lt
  have hne3 : w.heap.size ≠ B := by omega
  obtain ⟨old, hold⟩ : ∃ old, w.cell? ⟨B, 0, none⟩ = some old := ⟨_, (hB.cell 0).trans (Array.getElem?_eq_getElem (by omega))⟩
  have hfz : w.frozen? ⟨B, 0, none⟩ = false := Lib.frozen_of_heap hB 0
  have HV := Lib.hid hvc
  have HO := Lib.hid hoc
  have HC := Lib.hid hold
  have HZ := Lib.hid hfz
  clear hB hcs
  go_enter Tryz.func161, Tryz.ntmps161
  go_wp2_with fail
  have up := (Below.refl w.heap.size w).alloc (Nat.le_refl _) (.cells #[.int .i64 (f.num : Int), .int .i64 (f.kind : Int), .int .u64 (f.n : Int), .string ⟨f.s.toArray⟩] 178)
  have HUP := Lib.hid up
  clear up
  go_region_held3 (fun w' => w'.cell? ⟨bo, 0, none⟩ = some (.func (.func 117) #[] #[]) ∧ w'.cell? ⟨bv, 0, none⟩ = some (.func (.func 144) #[] #[]) ∧ w'.cell? ⟨w.heap.size, 0, none⟩ = some (.int .i64 (f.num : Int)) ∧ w'.cell? ⟨w.heap.size, 1, none⟩ = some (.int .i64 (f.kind : Int)) ∧ w'.cell? ⟨w.heap.size, 2, none⟩ = some (.int .u64 (f.n : Int)) ∧ w'.cell? ⟨w.heap.size, 3, none⟩ = some (.string ⟨f.s.toArray⟩))
    (first | exact HS4.out | exact ⟨(cell_set_ne hne1).trans HS4.out.1, (cell_set_ne hne2).trans HS4.out.2.1, (cell_set_ne hne3).trans HS4.out.2.2.1, (cell_set_ne hne3).trans HS4.out.2.2.2.1, (cell_set_ne hne3).trans HS4.out.2.2.2.2.1, (cell_set_ne hne3).trans HS4.out.2.2.2.2.2⟩ | go_keep)
    (first
      | (go_at_call 117; (with_reducible refine (ruleParts_1 _ _).mono ?_); rintro e w2 ⟨rfl, rfl⟩)
      | (go_at_call 144; (with_reducible refine (textRule_1 f _).mono ?_); rintro e w4 ⟨rfl, hb4⟩; have HA := Lib.hid (take_after hb4); have HB4 := Lib.hid HA.out.1; have hcB := (HB4.out.cell (p := ⟨B, 0, none⟩) hbl).trans HC.out; have hfB := (HB4.out.frozen (p := ⟨B, 0, none⟩) hbl).trans HZ.out; have HS4 := Lib.hid (show w4.cell? ⟨bo, 0, none⟩ = some (.func (.func 117) #[] #[]) ∧ w4.cell? ⟨bv, 0, none⟩ = some (.func (.func 144) #[] #[]) ∧ w4.cell? ⟨w.heap.size, 0, none⟩ = some (.int .i64 (f.num : Int)) ∧ w4.cell? ⟨w.heap.size, 1, none⟩ = some (.int .i64 (f.kind : Int)) ∧ w4.cell? ⟨w.heap.size, 2, none⟩ = some (.int .u64 (f.n : Int)) ∧ w4.cell? ⟨w.heap.size, 3, none⟩ = some (.string ⟨f.s.toArray⟩) from ⟨(HB4.out.cell (p := ⟨bo, 0, none⟩) hol).trans HO.out, (HB4.out.cell (p := ⟨bv, 0, none⟩) hvl).trans HV.out, (HA.out.2 0).trans rfl, (HA.out.2 1).trans rfl, (HA.out.2 2).trans rfl, (HA.out.2 3).trans rfl⟩); clear hb4))
  all_goals
    go_wp2
    go_ret
    exact ⟨rfl, blk_set (HB.out.below HB4.out hbl) 0 _, grown_set HB.out HB4.out 0 _⟩

set_option maxRecDepth 100000 in
set_option maxHeartbeats 1000000 in
theorem takeRule_1 (B bv bo : Nat) (cs : Array Value) (f : Fd) (w : World) (hB : Blk w B cs 42) (hcs : cs.size = 2) (hv : Box w bv (.func (.func 144) #[] #[])) (ho : Box w bo (.func (.func 118) #[] #[])) (hne1 : bo ≠ B) (hne2 : bv ≠ B) :
    Calls Tryz.prog 161 #[.pointer (some ⟨B, 0, none⟩), .agg #[.int .i64 (f.num : Int), .int .i64 (f.kind : Int), .int .u64 (f.n : Int), .string ⟨f.s.toArray⟩], .pointer (some ⟨bv, 0, none⟩), .pointer (some ⟨bo, 0, none⟩)] w fun e w' => e = .returned (.bool true) ∧ Blk w' B (cs.setIfInBounds 1 (.string ⟨f.s.toArray⟩)) 42 ∧ w.grownBy w' (some B) := by
  obtain ⟨hvl, hvc⟩ := hv
  obtain ⟨hol, hoc⟩ := ho
  have HB := Lib.hid hB
  have hbl := hB.lt
  have hne3 : w.heap.size ≠ B := by omega
  obtain ⟨old, hold⟩ : ∃ old, w.cell? ⟨B, 1, none⟩ = some old := ⟨_, (hB.cell 1).trans (Array.getElem?_eq_getElem (by omega))⟩
  have hfz : w.frozen? ⟨B, 1, none⟩ = false := Lib.frozen_of_heap hB 1
  have HV := Lib.hid hvc
  have HO := Lib.hid hoc
  have HC := Lib.hid hold
  have HZ := Lib.hid hfz
  clear hB hcs
  go_enter Tryz.func161, Tryz.ntmps161
  go_wp2_with fail
  have up := (Below.refl w.heap.size w).alloc (Nat.le_refl _) (.cells #[.int .i64 (f.num : Int), .int .i64 (f.kind : Int), .int .u64 (f.n : Int), .string ⟨f.s.toArray⟩] 178)
  have HUP := Lib.hid up
  clear up
  go_region_held3 (fun w' => w'.cell? ⟨bo, 0, none⟩ = some (.func (.func 118) #[] #[]) ∧ w'.cell? ⟨bv, 0, none⟩ = some (.func (.func 144) #[] #[]) ∧ w'.cell? ⟨w.heap.size, 0, none⟩ = some (.int .i64 (f.num : Int)) ∧ w'.cell? ⟨w.heap.size, 1, none⟩ = some (.int .i64 (f.kind : Int)) ∧ w'.cell? ⟨w.heap.size, 2, none⟩ = some (.int .u64 (f.n : Int)) ∧ w'.cell? ⟨w.heap.size, 3, none⟩ = some (.string ⟨f.s.toArray⟩))
    (first | exact HS4.out | exact ⟨(cell_set_ne hne1).trans HS4.out.1, (cell_set_ne hne2).trans HS4.out.2.1, (cell_set_ne hne3).trans HS4.out.2.2.1, (cell_set_ne hne3).trans HS4.out.2.2.2.1, (cell_set_ne hne3).trans HS4.out.2.2.2.2.1, (cell_set_ne hne3).trans HS4.out.2.2.2.2.2⟩ | go_keep)
    (first
      | (go_at_call 118; (with_reducible refine (ruleParts_2 _ _).mono ?_); rintro e w2 ⟨rfl, rfl⟩)
      | (go_at_call 144; (with_reducible refine (textRule_1 f _).mono ?_); rintro e w4 ⟨rfl, hb4⟩; have HA := Lib.hid (take_after hb4); have HB4 := Lib.hid HA.out.1; have hcB := (HB4.out.cell (p := ⟨B, 1, none⟩) hbl).trans HC.out; have hfB := (HB4.out.frozen (p := ⟨B, 1, none⟩) hbl).trans HZ.out; have HS4 := Lib.hid (show w4.cell? ⟨bo, 0, none⟩ = some (.func (.func 118) #[] #[]) ∧ w4.cell? ⟨bv, 0, none⟩ = some (.func (.func 144) #[] #[]) ∧ w4.cell? ⟨w.heap.size, 0, none⟩ = some (.int .i64 (f.num : Int)) ∧ w4.cell? ⟨w.heap.size, 1, none⟩ = some (.int .i64 (f.kind : Int)) ∧ w4.cell? ⟨w.heap.size, 2, none⟩ = some (.int .u64 (f.n : Int)) ∧ w4.cell? ⟨w.heap.size, 3, none⟩ = some (.string ⟨f.s.toArray⟩) from ⟨(HB4.out.cell (p := ⟨bo, 0, none⟩) hol).trans HO.out, (HB4.out.cell (p := ⟨bv, 0, none⟩) hvl).trans HV.out, (HA.out.2 0).trans rfl, (HA.out.2 1).trans rfl, (HA.out.2 2).trans rfl, (HA.out.2 3).trans rfl⟩); clear hb4))
  all_goals
    go_wp2
    go_ret
    exact ⟨rfl, blk_set (HB.out.below HB4.out hbl) 1 _, grown_set HB.out HB4.out 1 _⟩

set_option maxRecDepth 100000 in
set_option maxHeartbeats 1000000 in
theorem takeAddr_0 (B bv bo : Nat) (cs : Array Value) (f : Fd) (w : World) (hB : Blk w B cs 44) (hcs : cs.size = 3) (hv : Box w bv (.func (.func 147) #[] #[])) (ho : Box w bo (.func (.func 124) #[] #[])) (hne1 : bo ≠ B) (hne2 : bv ≠ B) :
    Calls Tryz.prog 163 #[.pointer (some ⟨B, 0, none⟩), .agg #[.int .i64 (f.num : Int), .int .i64 (f.kind : Int), .int .u64 (f.n : Int), .string ⟨f.s.toArray⟩], .pointer (some ⟨bv, 0, none⟩), .pointer (some ⟨bo, 0, none⟩)] w fun e w' => e = .returned (.bool true) ∧ Blk w' B (cs.setIfInBounds 0 (.string ⟨f.s.toArray⟩)) 44 ∧ w.grownBy w' (some B) := by
  obtain ⟨hvl, hvc⟩ := hv
  obtain ⟨hol, hoc⟩ := ho
  have HB := Lib.hid hB
  have hbl := hB.lt
  have hne3 : w.heap.size ≠ B := by omega
  obtain ⟨old, hold⟩ : ∃ old, w.cell? ⟨B, 0, none⟩ = some old := ⟨_, (hB.cell 0).trans (Array.getElem?_eq_getElem (by omega))⟩
  have hfz : w.frozen? ⟨B, 0, none⟩ = false := Lib.frozen_of_heap hB 0
  have HV := Lib.hid hvc
  have HO := Lib.hid hoc
  have HC := Lib.hid hold
  have HZ := Lib.hid hfz
  clear hB hcs
  go_enter Tryz.func163, Tryz.ntmps163
  go_wp2_with fail
  have up := (Below.refl w.heap.size w).alloc (Nat.le_refl _) (.cells #[.int .i64 (f.num : Int), .int .i64 (f.kind : Int), .int .u64 (f.n : Int), .string ⟨f.s.toArray⟩] 178)
  have HUP := Lib.hid up
  clear up
  go_region_held3 (fun w' => w'.cell? ⟨bo, 0, none⟩ = some (.func (.func 124) #[] #[]) ∧ w'.cell? ⟨bv, 0, none⟩ = some (.func (.func 147) #[] #[]) ∧ w'.cell? ⟨w.heap.size, 0, none⟩ = some (.int .i64 (f.num : Int)) ∧ w'.cell? ⟨w.heap.size, 1, none⟩ = some (.int .i64 (f.kind : Int)) ∧ w'.cell? ⟨w.heap.size, 2, none⟩ = some (.int .u64 (f.n : Int)) ∧ w'.cell? ⟨w.heap.size, 3, none⟩ = some (.string ⟨f.s.toArray⟩))
    (first | exact HS4.out | exact ⟨(cell_set_ne hne1).trans HS4.out.1, (cell_set_ne hne2).trans HS4.out.2.1, (cell_set_ne hne3).trans HS4.out.2.2.1, (cell_set_ne hne3).trans HS4.out.2.2.2.1, (cell_set_ne hne3).trans HS4.out.2.2.2.2.1, (cell_set_ne hne3).trans HS4.out.2.2.2.2.2⟩ | go_keep)
    (first
      | (go_at_call 124; (with_reducible refine (addrParts_1 _ _).mono ?_); rintro e w2 ⟨rfl, rfl⟩)
      | (go_at_call 147; (with_reducible refine (textAddr_1 f _).mono ?_); rintro e w4 ⟨rfl, hb4⟩; have HA := Lib.hid (take_after hb4); have HB4 := Lib.hid HA.out.1; have hcB := (HB4.out.cell (p := ⟨B, 0, none⟩) hbl).trans HC.out; have hfB := (HB4.out.frozen (p := ⟨B, 0, none⟩) hbl).trans HZ.out; have HS4 := Lib.hid (show w4.cell? ⟨bo, 0, none⟩ = some (.func (.func 124) #[] #[]) ∧ w4.cell? ⟨bv, 0, none⟩ = some (.func (.func 147) #[] #[]) ∧ w4.cell? ⟨w.heap.size, 0, none⟩ = some (.int .i64 (f.num : Int)) ∧ w4.cell? ⟨w.heap.size, 1, none⟩ = some (.int .i64 (f.kind : Int)) ∧ w4.cell? ⟨w.heap.size, 2, none⟩ = some (.int .u64 (f.n : Int)) ∧ w4.cell? ⟨w.heap.size, 3, none⟩ = some (.string ⟨f.s.toArray⟩) from ⟨(HB4.out.cell (p := ⟨bo, 0, none⟩) hol).trans HO.out, (HB4.out.cell (p := ⟨bv, 0, none⟩) hvl).trans HV.out, (HA.out.2 0).trans rfl, (HA.out.2 1).trans rfl, (HA.out.2 2).trans rfl, (HA.out.2 3).trans rfl⟩); clear hb4))
  all_goals
    go_wp2
    go_ret
    exact ⟨rfl, blk_set (HB.out.below HB4.out hbl) 0 _, grown_set HB.out HB4.out 0 _⟩

set_option maxRecDepth 100000 in
set_option maxHeartbeats 1000000 in
theorem takeAddr_1 (B bv bo : Nat) (cs : Array Value) (f : Fd) (w : World) (hB : Blk w B cs 44) (hcs : cs.size = 3) (hv : Box w bv (.func (.func 149) #[] #[])) (ho : Box w bo (.func (.func 126) #[] #[])) (hne1 : bo ≠ B) (hne2 : bv ≠ B) :
    Calls Tryz.prog 165 #[.pointer (some ⟨B, 0, none⟩), .agg #[.int .i64 (f.num : Int), .int .i64 (f.kind : Int), .int .u64 (f.n : Int), .string ⟨f.s.toArray⟩], .pointer (some ⟨bv, 0, none⟩), .pointer (some ⟨bo, 0, none⟩)] w fun e w' => e = .returned (.bool true) ∧ Blk w' B (cs.setIfInBounds 1 (.int .u64 (f.n : Int))) 44 ∧ w.grownBy w' (some B) := by
  obtain ⟨hvl, hvc⟩ := hv
  obtain ⟨hol, hoc⟩ := ho
  have HB := Lib.hid hB
  have hbl := hB.lt
  have hne3 : w.heap.size ≠ B := by omega
  obtain ⟨old, hold⟩ : ∃ old, w.cell? ⟨B, 1, none⟩ = some old := ⟨_, (hB.cell 1).trans (Array.getElem?_eq_getElem (by omega))⟩
  have hfz : w.frozen? ⟨B, 1, none⟩ = false := Lib.frozen_of_heap hB 1
  have HV := Lib.hid hvc
  have HO := Lib.hid hoc
  have HC := Lib.hid hold
  have HZ := Lib.hid hfz
  clear hB hcs
  go_enter Tryz.func165, Tryz.ntmps165
  go_wp2_with fail
  have up := (Below.refl w.heap.size w).alloc (Nat.le_refl _) (.cells #[.int .i64 (f.num : Int), .int .i64 (f.kind : Int), .int .u64 (f.n : Int), .string ⟨f.s.toArray⟩] 178)
  have HUP := Lib.hid up
  clear up
  go_region_held3 (fun w' => w'.cell? ⟨bo, 0, none⟩ = some (.func (.func 126) #[] #[]) ∧ w'.cell? ⟨bv, 0, none⟩ = some (.func (.func 149) #[] #[]) ∧ w'.cell? ⟨w.heap.size, 0, none⟩ = some (.int .i64 (f.num : Int)) ∧ w'.cell? ⟨w.heap.size, 1, none⟩ = some (.int .i64 (f.kind : Int)) ∧ w'.cell? ⟨w.heap.size, 2, none⟩ = some (.int .u64 (f.n : Int)) ∧ w'.cell? ⟨w.heap.size, 3, none⟩ = some (.string ⟨f.s.toArray⟩))
    (first | exact HS4.out | exact ⟨(cell_set_ne hne1).trans HS4.out.1, (cell_set_ne hne2).trans HS4.out.2.1, (cell_set_ne hne3).trans HS4.out.2.2.1, (cell_set_ne hne3).trans HS4.out.2.2.2.1, (cell_set_ne hne3).trans HS4.out.2.2.2.2.1, (cell_set_ne hne3).trans HS4.out.2.2.2.2.2⟩ | go_keep)
    (first
      | (go_at_call 126; (with_reducible refine (addrParts_2 _ _).mono ?_); rintro e w2 ⟨rfl, rfl⟩)
      | (go_at_call 149; (with_reducible refine (numberAddr_1 f _).mono ?_); rintro e w4 ⟨rfl, hb4⟩; have HA := Lib.hid (take_after hb4); have HB4 := Lib.hid HA.out.1; have hcB := (HB4.out.cell (p := ⟨B, 1, none⟩) hbl).trans HC.out; have hfB := (HB4.out.frozen (p := ⟨B, 1, none⟩) hbl).trans HZ.out; have HS4 := Lib.hid (show w4.cell? ⟨bo, 0, none⟩ = some (.func (.func 126) #[] #[]) ∧ w4.cell? ⟨bv, 0, none⟩ = some (.func (.func 149) #[] #[]) ∧ w4.cell? ⟨w.heap.size, 0, none⟩ = some (.int .i64 (f.num : Int)) ∧ w4.cell? ⟨w.heap.size, 1, none⟩ = some (.int .i64 (f.kind : Int)) ∧ w4.cell? ⟨w.heap.size, 2, none⟩ = some (.int .u64 (f.n : Int)) ∧ w4.cell? ⟨w.heap.size, 3, none⟩ = some (.string ⟨f.s.toArray⟩) from ⟨(HB4.out.cell (p := ⟨bo, 0, none⟩) hol).trans HO.out, (HB4.out.cell (p := ⟨bv, 0, none⟩) hvl).trans HV.out, (HA.out.2 0).trans rfl, (HA.out.2 1).trans rfl, (HA.out.2 2).trans rfl, (HA.out.2 3).trans rfl⟩); clear hb4))
  all_goals
    go_wp2
    go_ret
    exact ⟨rfl, blk_set (HB.out.below HB4.out hbl) 1 _, grown_set HB.out HB4.out 1 _⟩

set_option maxRecDepth 100000 in
set_option maxHeartbeats 1000000 in
theorem takeAddr_2 (B bv bo : Nat) (cs : Array Value) (f : Fd) (w : World) (hB : Blk w B cs 44) (hcs : cs.size = 3) (hv : Box w bv (.func (.func 149) #[] #[])) (ho : Box w bo (.func (.func 127) #[] #[])) (hne1 : bo ≠ B) (hne2 : bv ≠ B) :
    Calls Tryz.prog 165 #[.pointer (some ⟨B, 0, none⟩), .agg #[.int .i64 (f.num : Int), .int .i64 (f.kind : Int), .int .u64 (f.n : Int), .string ⟨f.s.toArray⟩], .pointer (some ⟨bv, 0, none⟩), .pointer (some ⟨bo, 0, none⟩)] w fun e w' => e = .returned (.bool true) ∧ Blk w' B (cs.setIfInBounds 2 (.int .u64 (f.n : Int))) 44 ∧ w.grownBy w' (some B) := by
  obtain ⟨hvl, hvc⟩ := hv
  obtain ⟨hol, hoc⟩ := ho
  have HB := Lib.hid hB
  have hbl := hB.lt
  have hne3 : w.heap.size ≠ B := by omega
  obtain ⟨old, hold⟩ : ∃ old, w.cell? ⟨B, 2, none⟩ = some old := ⟨_, (hB.cell 2).trans (Array.getElem?_eq_getElem (by omega))⟩
  have hfz : w.frozen? ⟨B, 2, none⟩ = false := Lib.frozen_of_heap hB 2
  have HV := Lib.hid hvc
  have HO := Lib.hid hoc
  have HC := Lib.hid hold
  have HZ := Lib.hid hfz
  clear hB hcs
  go_enter Tryz.func165, Tryz.ntmps165
  go_wp2_with fail
  have up := (Below.refl w.heap.size w).alloc (Nat.le_refl _) (.cells #[.int .i64 (f.num : Int), .int .i64 (f.kind : Int), .int .u64 (f.n : Int), .string ⟨f.s.toArray⟩] 178)
  have HUP := Lib.hid up
  clear up
  go_region_held3 (fun w' => w'.cell? ⟨bo, 0, none⟩ = some (.func (.func 127) #[] #[]) ∧ w'.cell? ⟨bv, 0, none⟩ = some (.func (.func 149) #[] #[]) ∧ w'.cell? ⟨w.heap.size, 0, none⟩ = some (.int .i64 (f.num : Int)) ∧ w'.cell? ⟨w.heap.size, 1, none⟩ = some (.int .i64 (f.kind : Int)) ∧ w'.cell? ⟨w.heap.size, 2, none⟩ = some (.int .u64 (f.n : Int)) ∧ w'.cell? ⟨w.heap.size, 3, none⟩ = some (.string ⟨f.s.toArray⟩))
    (first | exact HS4.out | exact ⟨(cell_set_ne hne1).trans HS4.out.1, (cell_set_ne hne2).trans HS4.out.2.1, (cell_set_ne hne3).trans HS4.out.2.2.1, (cell_set_ne hne3).trans HS4.out.2.2.2.1, (cell_set_ne hne3).trans HS4.out.2.2.2.2.1, (cell_set_ne hne3).trans HS4.out.2.2.2.2.2⟩ | go_keep)
    (first
      | (go_at_call 127; (with_reducible refine (addrParts_3 _ _).mono ?_); rintro e w2 ⟨rfl, rfl⟩)
      | (go_at_call 149; (with_reducible refine (numberAddr_1 f _).mono ?_); rintro e w4 ⟨rfl, hb4⟩; have HA := Lib.hid (take_after hb4); have HB4 := Lib.hid HA.out.1; have hcB := (HB4.out.cell (p := ⟨B, 2, none⟩) hbl).trans HC.out; have hfB := (HB4.out.frozen (p := ⟨B, 2, none⟩) hbl).trans HZ.out; have HS4 := Lib.hid (show w4.cell? ⟨bo, 0, none⟩ = some (.func (.func 127) #[] #[]) ∧ w4.cell? ⟨bv, 0, none⟩ = some (.func (.func 149) #[] #[]) ∧ w4.cell? ⟨w.heap.size, 0, none⟩ = some (.int .i64 (f.num : Int)) ∧ w4.cell? ⟨w.heap.size, 1, none⟩ = some (.int .i64 (f.kind : Int)) ∧ w4.cell? ⟨w.heap.size, 2, none⟩ = some (.int .u64 (f.n : Int)) ∧ w4.cell? ⟨w.heap.size, 3, none⟩ = some (.string ⟨f.s.toArray⟩) from ⟨(HB4.out.cell (p := ⟨bo, 0, none⟩) hol).trans HO.out, (HB4.out.cell (p := ⟨bv, 0, none⟩) hvl).trans HV.out, (HA.out.2 0).trans rfl, (HA.out.2 1).trans rfl, (HA.out.2 2).trans rfl, (HA.out.2 3).trans rfl⟩); clear hb4))
  all_goals
    go_wp2
    go_ret
    exact ⟨rfl, blk_set (HB.out.below HB4.out hbl) 2 _, grown_set HB.out HB4.out 2 _⟩

set_option maxRecDepth 100000 in
set_option maxHeartbeats 1000000 in
theorem takePayload_0 (B bv bo : Nat) (cs : Array Value) (f : Fd) (w : World) (hB : Blk w B cs 36) (hcs : cs.size = 8) (hv : Box w bv (.func (.func 108) #[] #[])) (ho : Box w bo (.func (.func 80) #[] #[])) (hne1 : bo ≠ B) (hne2 : bv ≠ B) :
    Calls Tryz.prog 138 #[.pointer (some ⟨B, 0, none⟩), .agg #[.int .i64 (f.num : Int), .int .i64 (f.kind : Int), .int .u64 (f.n : Int), .string ⟨f.s.toArray⟩], .pointer (some ⟨bv, 0, none⟩), .pointer (some ⟨bo, 0, none⟩)] w fun e w' => e = .returned (.bool true) ∧ Blk w' B (cs.setIfInBounds 0 (.string ⟨f.s.toArray⟩)) 36 ∧ w.grownBy w' (some B) := by
  obtain ⟨hvl, hvc⟩ := hv
  obtain ⟨hol, hoc⟩ := ho
  have HB := Lib.hid hB
  have hbl := hB.lt
  have hne3 : w.heap.size ≠ B := by omega
  obtain ⟨old, hold⟩ : ∃ old, w.cell? ⟨B, 0, none⟩ = some old := ⟨_, (hB.cell 0).trans (Array.getElem?_eq_getElem (by omega))⟩
  have hfz : w.frozen? ⟨B, 0, none⟩ = false := Lib.frozen_of_heap hB 0
  have HV := Lib.hid hvc
  have HO := Lib.hid hoc
  have HC := Lib.hid hold
  have HZ := Lib.hid hfz
  clear hB hcs
  go_enter Tryz.func138, Tryz.ntmps138
  go_wp2_with fail
  have up := (Below.refl w.heap.size w).alloc (Nat.le_refl _) (.cells #[.int .i64 (f.num : Int), .int .i64 (f.kind : Int), .int .u64 (f.n : Int), .string ⟨f.s.toArray⟩] 178)
  have HUP := Lib.hid up
  clear up
  go_region_held3 (fun w' => w'.cell? ⟨bo, 0, none⟩ = some (.func (.func 80) #[] #[]) ∧ w'.cell? ⟨bv, 0, none⟩ = some (.func (.func 108) #[] #[]) ∧ w'.cell? ⟨w.heap.size, 0, none⟩ = some (.int .i64 (f.num : Int)) ∧ w'.cell? ⟨w.heap.size, 1, none⟩ = some (.int .i64 (f.kind : Int)) ∧ w'.cell? ⟨w.heap.size, 2, none⟩ = some (.int .u64 (f.n : Int)) ∧ w'.cell? ⟨w.heap.size, 3, none⟩ = some (.string ⟨f.s.toArray⟩))
    (first | exact HS4.out | exact ⟨(cell_set_ne hne1).trans HS4.out.1, (cell_set_ne hne2).trans HS4.out.2.1, (cell_set_ne hne3).trans HS4.out.2.2.1, (cell_set_ne hne3).trans HS4.out.2.2.2.1, (cell_set_ne hne3).trans HS4.out.2.2.2.2.1, (cell_set_ne hne3).trans HS4.out.2.2.2.2.2⟩ | go_keep)
    (first
      | (go_at_call 80; (with_reducible refine (payloadParts_1 _ _).mono ?_); rintro e w2 ⟨rfl, rfl⟩)
      | (go_at_call 108; (with_reducible refine (textPayload_1 f _).mono ?_); rintro e w4 ⟨rfl, hb4⟩; have HA := Lib.hid (take_after hb4); have HB4 := Lib.hid HA.out.1; have hcB := (HB4.out.cell (p := ⟨B, 0, none⟩) hbl).trans HC.out; have hfB := (HB4.out.frozen (p := ⟨B, 0, none⟩) hbl).trans HZ.out; have HS4 := Lib.hid (show w4.cell? ⟨bo, 0, none⟩ = some (.func (.func 80) #[] #[]) ∧ w4.cell? ⟨bv, 0, none⟩ = some (.func (.func 108) #[] #[]) ∧ w4.cell? ⟨w.heap.size, 0, none⟩ = some (.int .i64 (f.num : Int)) ∧ w4.cell? ⟨w.heap.size, 1, none⟩ = some (.int .i64 (f.kind : Int)) ∧ w4.cell? ⟨w.heap.size, 2, none⟩ = some (.int .u64 (f.n : Int)) ∧ w4.cell? ⟨w.heap.size, 3, none⟩ = some (.string ⟨f.s.toArray⟩) from ⟨(HB4.out.cell (p := ⟨bo, 0, none⟩) hol).trans HO.out, (HB4.out.cell (p := ⟨bv, 0, none⟩) hvl).trans HV.out, (HA.out.2 0).trans rfl, (HA.out.2 1).trans rfl, (HA.out.2 2).trans rfl, (HA.out.2 3).trans rfl⟩); clear hb4))
  all_goals
    go_wp2
    go_ret
    exact ⟨rfl, blk_set (HB.out.below HB4.out hbl) 0 _, grown_set HB.out HB4.out 0 _⟩

set_option maxRecDepth 100000 in
set_option maxHeartbeats 1000000 in
theorem takePayload_1 (B bv bo : Nat) (cs : Array Value) (f : Fd) (w : World) (hB : Blk w B cs 36) (hcs : cs.size = 8) (hv : Box w bv (.func (.func 111) #[] #[])) (ho : Box w bo (.func (.func 82) #[] #[])) (hne1 : bo ≠ B) (hne2 : bv ≠ B) :
    Calls Tryz.prog 141 #[.pointer (some ⟨B, 0, none⟩), .agg #[.int .i64 (f.num : Int), .int .i64 (f.kind : Int), .int .u64 (f.n : Int), .string ⟨f.s.toArray⟩], .pointer (some ⟨bv, 0, none⟩), .pointer (some ⟨bo, 0, none⟩)] w fun e w' => e = .returned (.bool true) ∧ Blk w' B (cs.setIfInBounds 1 (.int .u64 (f.n : Int))) 36 ∧ w.grownBy w' (some B) := by
  obtain ⟨hvl, hvc⟩ := hv
  obtain ⟨hol, hoc⟩ := ho
  have HB := Lib.hid hB
  have hbl := hB.lt
  have hne3 : w.heap.size ≠ B := by omega
  obtain ⟨old, hold⟩ : ∃ old, w.cell? ⟨B, 1, none⟩ = some old := ⟨_, (hB.cell 1).trans (Array.getElem?_eq_getElem (by omega))⟩
  have hfz : w.frozen? ⟨B, 1, none⟩ = false := Lib.frozen_of_heap hB 1
  have HV := Lib.hid hvc
  have HO := Lib.hid hoc
  have HC := Lib.hid hold
  have HZ := Lib.hid hfz
  clear hB hcs
  go_enter Tryz.func141, Tryz.ntmps141
  go_wp2_with fail
  have up := (Below.refl w.heap.size w).alloc (Nat.le_refl _) (.cells #[.int .i64 (f.num : Int), .int .i64 (f.kind : Int), .int .u64 (f.n : Int), .string ⟨f.s.toArray⟩] 178)
  have HUP := Lib.hid up
  clear up
  go_region_held3 (fun w' => w'.cell? ⟨bo, 0, none⟩ = some (.func (.func 82) #[] #[]) ∧ w'.cell? ⟨bv, 0, none⟩ = some (.func (.func 111) #[] #[]) ∧ w'.cell? ⟨w.heap.size, 0, none⟩ = some (.int .i64 (f.num : Int)) ∧ w'.cell? ⟨w.heap.size, 1, none⟩ = some (.int .i64 (f.kind : Int)) ∧ w'.cell? ⟨w.heap.size, 2, none⟩ = some (.int .u64 (f.n : Int)) ∧ w'.cell? ⟨w.heap.size, 3, none⟩ = some (.string ⟨f.s.toArray⟩))
    (first | exact HS4.out | exact ⟨(cell_set_ne hne1).trans HS4.out.1, (cell_set_ne hne2).trans HS4.out.2.1, (cell_set_ne hne3).trans HS4.out.2.2.1, (cell_set_ne hne3).trans HS4.out.2.2.2.1, (cell_set_ne hne3).trans HS4.out.2.2.2.2.1, (cell_set_ne hne3).trans HS4.out.2.2.2.2.2⟩ | go_keep)
    (first
      | (go_at_call 82; (with_reducible refine (payloadParts_2 _ _).mono ?_); rintro e w2 ⟨rfl, rfl⟩)
      | (go_at_call 111; (with_reducible refine (numberPayload_1 f _).mono ?_); rintro e w4 ⟨rfl, hb4⟩; have HA := Lib.hid (take_after hb4); have HB4 := Lib.hid HA.out.1; have hcB := (HB4.out.cell (p := ⟨B, 1, none⟩) hbl).trans HC.out; have hfB := (HB4.out.frozen (p := ⟨B, 1, none⟩) hbl).trans HZ.out; have HS4 := Lib.hid (show w4.cell? ⟨bo, 0, none⟩ = some (.func (.func 82) #[] #[]) ∧ w4.cell? ⟨bv, 0, none⟩ = some (.func (.func 111) #[] #[]) ∧ w4.cell? ⟨w.heap.size, 0, none⟩ = some (.int .i64 (f.num : Int)) ∧ w4.cell? ⟨w.heap.size, 1, none⟩ = some (.int .i64 (f.kind : Int)) ∧ w4.cell? ⟨w.heap.size, 2, none⟩ = some (.int .u64 (f.n : Int)) ∧ w4.cell? ⟨w.heap.size, 3, none⟩ = some (.string ⟨f.s.toArray⟩) from ⟨(HB4.out.cell (p := ⟨bo, 0, none⟩) hol).trans HO.out, (HB4.out.cell (p := ⟨bv, 0, none⟩) hvl).trans HV.out, (HA.out.2 0).trans rfl, (HA.out.2 1).trans rfl, (HA.out.2 2).trans rfl, (HA.out.2 3).trans rfl⟩); clear hb4))
  all_goals
    go_wp2
    go_ret
    exact ⟨rfl, blk_set (HB.out.below HB4.out hbl) 1 _, grown_set HB.out HB4.out 1 _⟩

set_option maxRecDepth 100000 in
set_option maxHeartbeats 1000000 in
theorem takePayload_2 (B bv bo : Nat) (cs : Array Value) (f : Fd) (w : World) (hB : Blk w B cs 36) (hcs : cs.size = 8) (hv : Box w bv (.func (.func 108) #[] #[])) (ho : Box w bo (.func (.func 83) #[] #[])) (hne1 : bo ≠ B) (hne2 : bv ≠ B) :
    Calls Tryz.prog 138 #[.pointer (some ⟨B, 0, none⟩), .agg #[.int .i64 (f.num : Int), .int .i64 (f.kind : Int), .int .u64 (f.n : Int), .string ⟨f.s.toArray⟩], .pointer (some ⟨bv, 0, none⟩), .pointer (some ⟨bo, 0, none⟩)] w fun e w' => e = .returned (.bool true) ∧ Blk w' B (cs.setIfInBounds 2 (.string ⟨f.s.toArray⟩)) 36 ∧ w.grownBy w' (some B) := by
  obtain ⟨hvl, hvc⟩ := hv
  obtain ⟨hol, hoc⟩ := ho
  have HB := Lib.hid hB
  have hbl := hB.lt
  have hne3 : w.heap.size ≠ B := by omega
  obtain ⟨old, hold⟩ : ∃ old, w.cell? ⟨B, 2, none⟩ = some old := ⟨_, (hB.cell 2).trans (Array.getElem?_eq_getElem (by omega))⟩
  have hfz : w.frozen? ⟨B, 2, none⟩ = false := Lib.frozen_of_heap hB 2
  have HV := Lib.hid hvc
  have HO := Lib.hid hoc
  have HC := Lib.hid hold
  have HZ := Lib.hid hfz
  clear hB hcs
  go_enter Tryz.func138, Tryz.ntmps138
  go_wp2_with fail
  have up := (Below.refl w.heap.size w).alloc (Nat.le_refl _) (.cells #[.int .i64 (f.num : Int), .int .i64 (f.kind : Int), .int .u64 (f.n : Int), .string ⟨f.s.toArray⟩] 178)
  have HUP := Lib.hid up
  clear up
  go_region_held3 (fun w' => w'.cell? ⟨bo, 0, none⟩ = some (.func (.func 83) #[] #[]) ∧ w'.cell? ⟨bv, 0, none⟩ = some (.func (.func 108) #[] #[]) ∧ w'.cell? ⟨w.heap.size, 0, none⟩ = some (.int .i64 (f.num : Int)) ∧ w'.cell? ⟨w.heap.size, 1, none⟩ = some (.int .i64 (f.kind : Int)) ∧ w'.cell? ⟨w.heap.size, 2, none⟩ = some (.int .u64 (f.n : Int)) ∧ w'.cell? ⟨w.heap.size, 3, none⟩ = some (.string ⟨f.s.toArray⟩))
    (first | exact HS4.out | exact ⟨(cell_set_ne hne1).trans HS4.out.1, (cell_set_ne hne2).trans HS4.out.2.1, (cell_set_ne hne3).trans HS4.out.2.2.1, (cell_set_ne hne3).trans HS4.out.2.2.2.1, (cell_set_ne hne3).trans HS4.out.2.2.2.2.1, (cell_set_ne hne3).trans HS4.out.2.2.2.2.2⟩ | go_keep)
    (first
      | (go_at_call 83; (with_reducible refine (payloadParts_3 _ _).mono ?_); rintro e w2 ⟨rfl, rfl⟩)
      | (go_at_call 108; (with_reducible refine (textPayload_1 f _).mono ?_); rintro e w4 ⟨rfl, hb4⟩; have HA := Lib.hid (take_after hb4); have HB4 := Lib.hid HA.out.1; have hcB := (HB4.out.cell (p := ⟨B, 2, none⟩) hbl).trans HC.out; have hfB := (HB4.out.frozen (p := ⟨B, 2, none⟩) hbl).trans HZ.out; have HS4 := Lib.hid (show w4.cell? ⟨bo, 0, none⟩ = some (.func (.func 83) #[] #[]) ∧ w4.cell? ⟨bv, 0, none⟩ = some (.func (.func 108) #[] #[]) ∧ w4.cell? ⟨w.heap.size, 0, none⟩ = some (.int .i64 (f.num : Int)) ∧ w4.cell? ⟨w.heap.size, 1, none⟩ = some (.int .i64 (f.kind : Int)) ∧ w4.cell? ⟨w.heap.size, 2, none⟩ = some (.int .u64 (f.n : Int)) ∧ w4.cell? ⟨w.heap.size, 3, none⟩ = some (.string ⟨f.s.toArray⟩) from ⟨(HB4.out.cell (p := ⟨bo, 0, none⟩) hol).trans HO.out, (HB4.out.cell (p := ⟨bv, 0, none⟩) hvl).trans HV.out, (HA.out.2 0).trans rfl, (HA.out.2 1).trans rfl, (HA.out.2 2).trans rfl, (HA.out.2 3).trans rfl⟩); clear hb4))
  all_goals
    go_wp2
    go_ret
    exact ⟨rfl, blk_set (HB.out.below HB4.out hbl) 2 _, grown_set HB.out HB4.out 2 _⟩

set_option maxRecDepth 100000 in
set_option maxHeartbeats 1000000 in
theorem takePayload_4 (B bv bo : Nat) (cs : Array Value) (f : Fd) (w : World) (hB : Blk w B cs 36) (hcs : cs.size = 8) (hv : Box w bv (.func (.func 111) #[] #[])) (ho : Box w bo (.func (.func 87) #[] #[])) (hne1 : bo ≠ B) (hne2 : bv ≠ B) :
    Calls Tryz.prog 141 #[.pointer (some ⟨B, 0, none⟩), .agg #[.int .i64 (f.num : Int), .int .i64 (f.kind : Int), .int .u64 (f.n : Int), .string ⟨f.s.toArray⟩], .pointer (some ⟨bv, 0, none⟩), .pointer (some ⟨bo, 0, none⟩)] w fun e w' => e = .returned (.bool true) ∧ Blk w' B (cs.setIfInBounds 4 (.int .u64 (f.n : Int))) 36 ∧ w.grownBy w' (some B) := by
  obtain ⟨hvl, hvc⟩ := hv
  obtain ⟨hol, hoc⟩ := ho
  have HB := Lib.hid hB
  have hbl := hB.lt
  have hne3 : w.heap.size ≠ B := by omega
  obtain ⟨old, hold⟩ : ∃ old, w.cell? ⟨B, 4, none⟩ = some old := ⟨_, (hB.cell 4).trans (Array.getElem?_eq_getElem (by omega))⟩
  have hfz : w.frozen? ⟨B, 4, none⟩ = false := Lib.frozen_of_heap hB 4
  have HV := Lib.hid hvc
  have HO := Lib.hid hoc
  have HC := Lib.hid hold
  have HZ := Lib.hid hfz
  clear hB hcs
  go_enter Tryz.func141, Tryz.ntmps141
  go_wp2_with fail
  have up := (Below.refl w.heap.size w).alloc (Nat.le_refl _) (.cells #[.int .i64 (f.num : Int), .int .i64 (f.kind : Int), .int .u64 (f.n : Int), .string ⟨f.s.toArray⟩] 178)
  have HUP := Lib.hid up
  clear up
  go_region_held3 (fun w' => w'.cell? ⟨bo, 0, none⟩ = some (.func (.func 87) #[] #[]) ∧ w'.cell? ⟨bv, 0, none⟩ = some (.func (.func 111) #[] #[]) ∧ w'.cell? ⟨w.heap.size, 0, none⟩ = some (.int .i64 (f.num : Int)) ∧ w'.cell? ⟨w.heap.size, 1, none⟩ = some (.int .i64 (f.kind : Int)) ∧ w'.cell? ⟨w.heap.size, 2, none⟩ = some (.int .u64 (f.n : Int)) ∧ w'.cell? ⟨w.heap.size, 3, none⟩ = some (.string ⟨f.s.toArray⟩))
    (first | exact HS4.out | exact ⟨(cell_set_ne hne1).trans HS4.out.1, (cell_set_ne hne2).trans HS4.out.2.1, (cell_set_ne hne3).trans HS4.out.2.2.1, (cell_set_ne hne3).trans HS4.out.2.2.2.1, (cell_set_ne hne3).trans HS4.out.2.2.2.2.1, (cell_set_ne hne3).trans HS4.out.2.2.2.2.2⟩ | go_keep)
    (first
      | (go_at_call 87; (with_reducible refine (payloadParts_5 _ _).mono ?_); rintro e w2 ⟨rfl, rfl⟩)
      | (go_at_call 111; (with_reducible refine (numberPayload_1 f _).mono ?_); rintro e w4 ⟨rfl, hb4⟩; have HA := Lib.hid (take_after hb4); have HB4 := Lib.hid HA.out.1; have hcB := (HB4.out.cell (p := ⟨B, 4, none⟩) hbl).trans HC.out; have hfB := (HB4.out.frozen (p := ⟨B, 4, none⟩) hbl).trans HZ.out; have HS4 := Lib.hid (show w4.cell? ⟨bo, 0, none⟩ = some (.func (.func 87) #[] #[]) ∧ w4.cell? ⟨bv, 0, none⟩ = some (.func (.func 111) #[] #[]) ∧ w4.cell? ⟨w.heap.size, 0, none⟩ = some (.int .i64 (f.num : Int)) ∧ w4.cell? ⟨w.heap.size, 1, none⟩ = some (.int .i64 (f.kind : Int)) ∧ w4.cell? ⟨w.heap.size, 2, none⟩ = some (.int .u64 (f.n : Int)) ∧ w4.cell? ⟨w.heap.size, 3, none⟩ = some (.string ⟨f.s.toArray⟩) from ⟨(HB4.out.cell (p := ⟨bo, 0, none⟩) hol).trans HO.out, (HB4.out.cell (p := ⟨bv, 0, none⟩) hvl).trans HV.out, (HA.out.2 0).trans rfl, (HA.out.2 1).trans rfl, (HA.out.2 2).trans rfl, (HA.out.2 3).trans rfl⟩); clear hb4))
  all_goals
    go_wp2
    go_ret
    exact ⟨rfl, blk_set (HB.out.below HB4.out hbl) 4 _, grown_set HB.out HB4.out 4 _⟩

set_option maxRecDepth 100000 in
set_option maxHeartbeats 1000000 in
theorem takePayload_5 (B bv bo : Nat) (cs : Array Value) (f : Fd) (w : World) (hB : Blk w B cs 36) (hcs : cs.size = 8) (hv : Box w bv (.func (.func 108) #[] #[])) (ho : Box w bo (.func (.func 88) #[] #[])) (hne1 : bo ≠ B) (hne2 : bv ≠ B) :
    Calls Tryz.prog 138 #[.pointer (some ⟨B, 0, none⟩), .agg #[.int .i64 (f.num : Int), .int .i64 (f.kind : Int), .int .u64 (f.n : Int), .string ⟨f.s.toArray⟩], .pointer (some ⟨bv, 0, none⟩), .pointer (some ⟨bo, 0, none⟩)] w fun e w' => e = .returned (.bool true) ∧ Blk w' B (cs.setIfInBounds 5 (.string ⟨f.s.toArray⟩)) 36 ∧ w.grownBy w' (some B) := by
  obtain ⟨hvl, hvc⟩ := hv
  obtain ⟨hol, hoc⟩ := ho
  have HB := Lib.hid hB
  have hbl := hB.lt
  have hne3 : w.heap.size ≠ B := by omega
  obtain ⟨old, hold⟩ : ∃ old, w.cell? ⟨B, 5, none⟩ = some old := ⟨_, (hB.cell 5).trans (Array.getElem?_eq_getElem (by omega))⟩
  have hfz : w.frozen? ⟨B, 5, none⟩ = false := Lib.frozen_of_heap hB 5
  have HV := Lib.hid hvc
  have HO := Lib.hid hoc
  have HC := Lib.hid hold
  have HZ := Lib.hid hfz
  clear hB hcs
  go_enter Tryz.func138, Tryz.ntmps138
  go_wp2_with fail
  have up := (Below.refl w.heap.size w).alloc (Nat.le_refl _) (.cells #[.int .i64 (f.num : Int), .int .i64 (f.kind : Int), .int .u64 (f.n : Int), .string ⟨f.s.toArray⟩] 178)
  have HUP := Lib.hid up
  clear up
  go_region_held3 (fun w' => w'.cell? ⟨bo, 0, none⟩ = some (.func (.func 88) #[] #[]) ∧ w'.cell? ⟨bv, 0, none⟩ = some (.func (.func 108) #[] #[]) ∧ w'.cell? ⟨w.heap.size, 0, none⟩ = some (.int .i64 (f.num : Int)) ∧ w'.cell? ⟨w.heap.size, 1, none⟩ = some (.int .i64 (f.kind : Int)) ∧ w'.cell? ⟨w.heap.size, 2, none⟩ = some (.int .u64 (f.n : Int)) ∧ w'.cell? ⟨w.heap.size, 3, none⟩ = some (.string ⟨f.s.toArray⟩))
    (first | exact HS4.out | exact ⟨(cell_set_ne hne1).trans HS4.out.1, (cell_set_ne hne2).trans HS4.out.2.1, (cell_set_ne hne3).trans HS4.out.2.2.1, (cell_set_ne hne3).trans HS4.out.2.2.2.1, (cell_set_ne hne3).trans HS4.out.2.2.2.2.1, (cell_set_ne hne3).trans HS4.out.2.2.2.2.2⟩ | go_keep)
    (first
      | (go_at_call 88; (with_reducible refine (payloadParts_6 _ _).mono ?_); rintro e w2 ⟨rfl, rfl⟩)
      | (go_at_call 108; (with_reducible refine (textPayload_1 f _).mono ?_); rintro e w4 ⟨rfl, hb4⟩; have HA := Lib.hid (take_after hb4); have HB4 := Lib.hid HA.out.1; have hcB := (HB4.out.cell (p := ⟨B, 5, none⟩) hbl).trans HC.out; have hfB := (HB4.out.frozen (p := ⟨B, 5, none⟩) hbl).trans HZ.out; have HS4 := Lib.hid (show w4.cell? ⟨bo, 0, none⟩ = some (.func (.func 88) #[] #[]) ∧ w4.cell? ⟨bv, 0, none⟩ = some (.func (.func 108) #[] #[]) ∧ w4.cell? ⟨w.heap.size, 0, none⟩ = some (.int .i64 (f.num : Int)) ∧ w4.cell? ⟨w.heap.size, 1, none⟩ = some (.int .i64 (f.kind : Int)) ∧ w4.cell? ⟨w.heap.size, 2, none⟩ = some (.int .u64 (f.n : Int)) ∧ w4.cell? ⟨w.heap.size, 3, none⟩ = some (.string ⟨f.s.toArray⟩) from ⟨(HB4.out.cell (p := ⟨bo, 0, none⟩) hol).trans HO.out, (HB4.out.cell (p := ⟨bv, 0, none⟩) hvl).trans HV.out, (HA.out.2 0).trans rfl, (HA.out.2 1).trans rfl, (HA.out.2 2).trans rfl, (HA.out.2 3).trans rfl⟩); clear hb4))
  all_goals
    go_wp2
    go_ret
    exact ⟨rfl, blk_set (HB.out.below HB4.out hbl) 5 _, grown_set HB.out HB4.out 5 _⟩

set_option maxRecDepth 100000 in
set_option maxHeartbeats 1000000 in
theorem takePayload_7 (B bv bo : Nat) (cs : Array Value) (f : Fd) (w : World) (hB : Blk w B cs 36) (hcs : cs.size = 8) (hv : Box w bv (.func (.func 108) #[] #[])) (ho : Box w bo (.func (.func 92) #[] #[])) (hne1 : bo ≠ B) (hne2 : bv ≠ B) :
    Calls Tryz.prog 138 #[.pointer (some ⟨B, 0, none⟩), .agg #[.int .i64 (f.num : Int), .int .i64 (f.kind : Int), .int .u64 (f.n : Int), .string ⟨f.s.toArray⟩], .pointer (some ⟨bv, 0, none⟩), .pointer (some ⟨bo, 0, none⟩)] w fun e w' => e = .returned (.bool true) ∧ Blk w' B (cs.setIfInBounds 7 (.string ⟨f.s.toArray⟩)) 36 ∧ w.grownBy w' (some B) := by
  obtain ⟨hvl, hvc⟩ := hv
  obtain ⟨hol, hoc⟩ := ho
  have HB := Lib.hid hB
  have hbl := hB.lt
  have hne3 : w.heap.size ≠ B := by omega
  obtain ⟨old, hold⟩ : ∃ old, w.cell? ⟨B, 7, none⟩ = some old := ⟨_, (hB.cell 7).trans (Array.getElem?_eq_getElem (by omega))⟩
  have hfz : w.frozen? ⟨B, 7, none⟩ = false := Lib.frozen_of_heap hB 7
  have HV := Lib.hid hvc
  have HO := Lib.hid hoc
  have HC := Lib.hid hold
  have HZ := Lib.hid hfz
  clear hB hcs
  go_enter Tryz.func138, Tryz.ntmps138
  go_wp2_with fail
  have up := (Below.refl w.heap.size w).alloc (Nat.le_refl _) (.cells #[.int .i64 (f.num : Int), .int .i64 (f.kind : Int), .int .u64 (f.n : Int), .string ⟨f.s.toArray⟩] 178)
  have HUP := Lib.hid up
  clear up
  go_region_held3 (fun w' => w'.cell? ⟨bo, 0, none⟩ = some (.func (.func 92) #[] #[]) ∧ w'.cell? ⟨bv, 0, none⟩ = some (.func (.func 108) #[] #[]) ∧ w'.cell? ⟨w.heap.size, 0, none⟩ = some (.int .i64 (f.num : Int)) ∧ w'.cell? ⟨w.heap.size, 1, none⟩ = some (.int .i64 (f.kind : Int)) ∧ w'.cell? ⟨w.heap.size, 2, none⟩ = some (.int .u64 (f.n : Int)) ∧ w'.cell? ⟨w.heap.size, 3, none⟩ = some (.string ⟨f.s.toArray⟩))
    (first | exact HS4.out | exact ⟨(cell_set_ne hne1).trans HS4.out.1, (cell_set_ne hne2).trans HS4.out.2.1, (cell_set_ne hne3).trans HS4.out.2.2.1, (cell_set_ne hne3).trans HS4.out.2.2.2.1, (cell_set_ne hne3).trans HS4.out.2.2.2.2.1, (cell_set_ne hne3).trans HS4.out.2.2.2.2.2⟩ | go_keep)
    (first
      | (go_at_call 92; (with_reducible refine (payloadParts_8 _ _).mono ?_); rintro e w2 ⟨rfl, rfl⟩)
      | (go_at_call 108; (with_reducible refine (textPayload_1 f _).mono ?_); rintro e w4 ⟨rfl, hb4⟩; have HA := Lib.hid (take_after hb4); have HB4 := Lib.hid HA.out.1; have hcB := (HB4.out.cell (p := ⟨B, 7, none⟩) hbl).trans HC.out; have hfB := (HB4.out.frozen (p := ⟨B, 7, none⟩) hbl).trans HZ.out; have HS4 := Lib.hid (show w4.cell? ⟨bo, 0, none⟩ = some (.func (.func 92) #[] #[]) ∧ w4.cell? ⟨bv, 0, none⟩ = some (.func (.func 108) #[] #[]) ∧ w4.cell? ⟨w.heap.size, 0, none⟩ = some (.int .i64 (f.num : Int)) ∧ w4.cell? ⟨w.heap.size, 1, none⟩ = some (.int .i64 (f.kind : Int)) ∧ w4.cell? ⟨w.heap.size, 2, none⟩ = some (.int .u64 (f.n : Int)) ∧ w4.cell? ⟨w.heap.size, 3, none⟩ = some (.string ⟨f.s.toArray⟩) from ⟨(HB4.out.cell (p := ⟨bo, 0, none⟩) hol).trans HO.out, (HB4.out.cell (p := ⟨bv, 0, none⟩) hvl).trans HV.out, (HA.out.2 0).trans rfl, (HA.out.2 1).trans rfl, (HA.out.2 2).trans rfl, (HA.out.2 3).trans rfl⟩); clear hb4))
  all_goals
    go_wp2
    go_ret
    exact ⟨rfl, blk_set (HB.out.below HB4.out hbl) 7 _, grown_set HB.out HB4.out 7 _⟩
end Go.Proofs.YtngceccpebdgmaaGreatDoor
