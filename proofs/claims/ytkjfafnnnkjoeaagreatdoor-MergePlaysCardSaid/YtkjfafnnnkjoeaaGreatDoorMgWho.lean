/- merge: Who, Keys. -/
import Derived.Test.YtkjfafnnnkjoeaaGreatDoorMgDrop
namespace Go.Proofs.YtkjfafnnnkjoeaaGreatDoor
open Go.RowKit Go.Lib

def isV (l : List Int) : List Value := l.map fun z => .int .i64 z
theorem isV_len (l : List Int) : (isV l).length = l.length := by simp [isV]
theorem isV_append (a b : List Int) : isV (a ++ b) = isV a ++ isV b := by simp [isV]
theorem isV_one (l : List Int) : ∀ u ∈ isV l, u.oneCell' = true := by
  intro u hu
  obtain ⟨x, _, rfl⟩ := List.mem_map.1 hu
  rfl
theorem Tryz.infoIntM : (Tryz.prog.info? 3).map (fun i => (i.zero, i.size, i.bytes)) = some (some (.int .i64 0), 1, 8) := by kernel_rfl
/-- Who wants that name. -/
def whoL (W : Wants) (k : Int) (x : List UInt8) (n : Nat) : List Int := ((List.range n).map fun j => ((j + 1 : Nat) : Int)).filter fun i => nHas okN (W i k) x
theorem whoL_len (W : Wants) (k : Int) (x : List UInt8) (n : Nat) : (whoL W k x n).length ≤ n := by
  unfold whoL
  refine Nat.le_trans (List.length_filter_le _ _) ?_
  simp
theorem whoL_next (W : Wants) (k : Int) (x : List UInt8) (n : Nat) : whoL W k x (n + 1) = whoL W k x n ++ if nHas okN (W ((n : Int) + 1) k) x then [(n : Int) + 1] else [] := by
  unfold whoL
  rw [List.range_succ, List.map_append, List.filter_append, List.map_singleton]
  congr 1
  rw [List.filter_cons]
  have e : ((n + 1 : Nat) : Int) = (n : Int) + 1 := by omega
  rw [e]
  rfl
def IntsPost (l : List Int) (w : World) (e : Ending) (w' : World) : Prop := ∃ a c, e = .returned (.slice a l.length c) ∧ RowV w' (.slice a l.length c) (isV l) ∧ Below w.heap.size w w'
structure WhX (base m mw mc : Nat) (C : Tk → Option Value) (D : Int → Option Value) (W : Wants) (R : Nat) (k : Int) (x : List UInt8) (w : World) : Prop where
  mg : MgIn base m mw mc C D W w
  q : Blk w R #[.int .i64 k, .string ⟨x.toArray⟩] 55
abbrev SW (base m mw mc : Nat) (C : Tk → Option Value) (D : Int → Option Value) (W : Wants) (R : Nat) (k j : Int) (x : List UInt8) (v : Value) (w : World) : Prop :=
  w.cell? ⟨m, 0, none⟩ = some (.map (some mw)) ∧ w.cell? ⟨R, 0, none⟩ = some (.int .i64 k) ∧ w.cell? ⟨R, 1, none⟩ = some (.string ⟨x.toArray⟩) ∧ (Instr.lookup 62 (.map (some mw)) (.agg #[.int .i64 j, .int .i64 k]) false).run Tryz.prog w = .ok v w ∧ WhX base m mw mc C D W R k x w
theorem WhX.sw {base m mw mc : Nat} {C : Tk → Option Value} {D : Int → Option Value} {W : Wants} {R : Nat} {k j : Int} {x : List UInt8} {v : Value} {w : World} (h : WhX base m mw mc C D W R k x w) (hj : i64B j) (hk : i64B k) (hv : wsV (C (j, k)) = v) : SW base m mw mc C D W R k j x v w := by
  have hl := h.mg.lookW hj hk
  rw [hv] at hl
  exact ⟨h.mg.blk.cell 0, h.q.cell 0, h.q.cell 1, hl, h⟩
theorem WhX.later {base m mw mc : Nat} {C : Tk → Option Value} {D : Int → Option Value} {W : Wants} {R : Nat} {k : Int} {x : List UInt8} {w w' : World} (h : WhX base m mw mc C D W R k x w) (hb : Below w.heap.size w w') : WhX base m mw mc C D W R k x w' := ⟨h.mg.later hb, h.q.later hb⟩
set_option maxRecDepth 100000 in
set_option maxHeartbeats 4000000 in
theorem who_any {base m : Nat} {W : Wants} {k : Int} {x : List UInt8} {w : World} (h : MgIs base m W w) (hk : i64B k) :
    Calls Tryz.prog 20 #[.pointer (some ⟨m, 0, none⟩), .agg #[.int .i64 k, .string ⟨x.toArray⟩]] w (IntsPost (whoL W k x 32) w) := by
  obtain ⟨i0, hi, hz0, hz1, hz2⟩ := info_parts Tryz.infoIntM
  obtain ⟨w1, hw1, hb1, q1⟩ := alloc_new w #[.int .i64 k, .string ⟨x.toArray⟩] 55
  have HM := Lib.hid (h.later hb1)
  have HW := Lib.hid hw1
  have HB := Lib.hid hb1
  have HQ := Lib.hid q1
  have HLT := Lib.hid q1.lt
  clear hw1 hb1 q1 h
  go_enter Tryz.func20, Tryz.ntmps20
  go_wp2_with fail
  rw [HW.out]
  go_loopw [5, 6] (fun vl vi wr => ∃ n : Nat, vi = .int .i64 ((n : Int) + 1) ∧ n ≤ 32 ∧ wr.ownsRow w1.heap.size 3 1 vl (whoL W k x n).length (isV (whoL W k x n)) ∧ Below w1.heap.size w1 wr) (fun _ vi _ => 33 - (intOf vi).toNat)
  case atStart => exact ⟨0, rfl, Nat.zero_le _, World.ownsRow_nil _ _ _ _, Below.refl _ _⟩
  case round =>
    obtain ⟨n, rfl, hn, hown, hb⟩ := hrel
    by_cases hlt : n < 32
    · have b1 : (n : Int) + 1 ≤ 32 := by omega
      have b2 : IntKind.i64.wrap ((n : Int) + 1 + 1) = (n : Int) + 1 + 1 := by rw [IntKind.wrap_i64]; omega
      have hm := HM.out.later hb
      obtain ⟨hwo, hwf, mw, mc, C, D, hin⟩ := hm
      have hnb : i64B ((n : Int) + 1) := by unfold i64B; omega
      obtain ⟨oA, oc, hwv, hot⟩ := (hin.wv ((n : Int) + 1) k).val
      obtain ⟨v, hv⟩ : ∃ v : Value, (.agg #[.bool (W ((n : Int) + 1) k).all, .slice oA (W ((n : Int) + 1) k).ns.length oc]) = v := ⟨_, rfl⟩
      rw [hv] at hwv
      obtain ⟨B, hB⟩ : ∃ B, nHas okN (W ((n : Int) + 1) k) x = B := ⟨_, rfl⟩
      have hbd := (Below.refl wr.heap.size wr).drew
      have ST : SW base m mw mc C D W w.heap.size k ((n : Int) + 1) x v wr.drew := WhX.sw ⟨hin.later hbd, (HQ.out.later hb).later hbd⟩ hnb hk hwv
      have hha := has_any (sa := (W ((n : Int) + 1) k).all) (hot.later hbd) hB
      rw [hv] at hha
      have HHA := Lib.hid hha
      have HST := Lib.hid (fun (w' : World) (hb' : Below wr.drew.heap.size wr.drew w') => (WhX.sw (ST.2.2.2.2.later hb') hnb hk hwv : SW base m mw mc C D W w.heap.size k ((n : Int) + 1) x v w'))
      have HOW := Lib.hid hown
      have HBW := Lib.hid hb
      have HBB := Lib.hid hB
      clear hin hwo hwf hwv hot hha hv hown hb hB hbd
      go_wp2_with fail
      go_region_held3 (fun w' => w'.cell? ⟨m, 0, none⟩ = some (.map (some mw)) ∧ w'.cell? ⟨w.heap.size, 0, none⟩ = some (.int .i64 k) ∧ w'.cell? ⟨w.heap.size, 1, none⟩ = some (.string ⟨x.toArray⟩) ∧ (Instr.lookup 62 (.map (some mw)) (.agg #[.int .i64 ((n : Int) + 1), .int .i64 k]) false).run Tryz.prog w' = .ok v w' ∧ WhX base m mw mc C D W w.heap.size k x w') (with_reducible first | exact ST | exact HST.out _ (by assumption) | go_keep) ((go_at_call 40; refine HHA.out.mono ?_; rintro e w3 ⟨rfl, hb3⟩))
      rename_i hH
      have hb03 : Below wr.heap.size wr w3 := ((Below.refl wr.heap.size wr).drew).trans hb3
      have HOW := Lib.hid (ownsRow_later HOW.out hb03)
      have HBW := Lib.hid (HBW.out.trans (hb03.mono HBW.out.size))
      clear hH hb3 hb03 ST HST HHA
      cases B with
      | false =>
        have HNX := Lib.hid (show whoL W k x (n + 1) = whoL W k x n by rw [whoL_next, HBB.out]; simp)
        go_wp2_with fail
        go_roundw
        case rel => exact ⟨n + 1, by go_num, by omega, by rw [HNX.out]; exact HOW.out, HBW.out⟩
        case measure => simp [intOf]; omega
      | true =>
        have HNX := Lib.hid (show whoL W k x (n + 1) = whoL W k x n ++ [(n : Int) + 1] by rw [whoL_next, HBB.out]; simp)
        have hwl := whoL_len W k x n
        have hs3 : w1.heap.size ≤ w3.heap.size := HBW.out.size
        go_wp2_with (at_builtin; go_must (refine wpList_append_own _ rfl _ _ 56 rfl w1.heap.size 3 i0 _ 1 8 Tryz.underlying56 hi hz0 hz1 hz2 rfl (by omega) _ _ _ rfl (HOW.out.alloc _) ⟨w3.heap.size, 0, none⟩ 1 1 (isV [(n : Int) + 1]) rfl rfl (World.news_of_block (cs := #[.int .i64 ((n : Int) + 1)]) (t := 3) (fr := (0, 0)) (heap_alloc_new w3 _)) (isV_one _) (by unfold maxLen; omega) (by omega) (by simp; omega) ?_; intro v4 w4 hown4 hgrow4 _))
        have HOW4 := Lib.hid (show w4.ownsRow w1.heap.size 3 1 v4 (whoL W k x (n + 1)).length (isV (whoL W k x (n + 1))) by rw [HNX.out, isV_append, List.length_append]; exact hown4)
        have HBW4 := Lib.hid ((HBW.out.alloc hs3 _).grown hgrow4 (by simp; omega) (fun j hj => (HOW.out.lt j hj).1))
        clear hown4 hgrow4
        go_wp2_with fail
        go_roundw
        case rel => exact ⟨n + 1, by go_num, by omega, HOW4.out, HBW4.out⟩
        case measure => simp [intOf]; omega
    · obtain rfl : n = 32 := by omega
      have b1 : ¬ (((32 : Nat) : Int) + 1 ≤ 32) := by omega
      rw [show ((32 : Nat) : Int) + 1 = 33 from rfl] at b1 ⊢
      have HR := Lib.hid (RowV.own hown)
      have HBB := Lib.hid (HB.out.trans (hb.mono HB.out.size))
      obtain ⟨a4, c4, rfl⟩ := owns_slice hown
      clear hown hb hn hlt
      go_wp2_with fail
      go_ret
      exact ⟨a4, c4, rfl, HR.out, HBB.out⟩
end Go.Proofs.YtkjfafnnnkjoeaaGreatDoor
