/- The reference's All and Last, and the law's same: the walks. -/
import Derived.Test.YtkehanpgaahmlaaDoorRefParse
import Derived.Test.YtkehanpgaahmlaaDoorRows2
import Derived.Test.YtkehanpgaahmlaaDoorWith
import Derived.Test.YtkehanpgaahmlaaDoorLast
namespace Go.Proofs.YtkehanpgaahmlaaDoor
open Go.RowKit

theorem own_form {W : World} {base : Nat} {e : TypeId} {size n c : Nat} {a : Option Addr} {xs : List Value} (h : W.ownsRow base e size (.slice a n c) n xs) (h0 : 0 < n) : ∃ g, a = some ⟨g, 0, none⟩ := by
  rcases h.2 with ⟨_, h1⟩ | ⟨g, cap, cur, hv, _⟩
  · omega
  · cases hv; exact ⟨g, rfl⟩
theorem rowAt_own {W : World} {base g cap n : Nat} {t : TypeId} {fs : List Fd} (h : W.ownsRow base t 4 (.slice (some ⟨g, 0, none⟩) n cap) n (fdCells fs)) (hn : fs.length = n) : RowAt W g fs := by
  refine ⟨(h.lt g rfl).2, fun i hi => ?_⟩
  have hc : ∀ j, j < 4 → W.cell? ⟨g, i * 4 + j, none⟩ = fs[i].cells[j]? := fun j hj => by
    rw [h.cellAt (i * 4 + j) (by omega), fdCells_at hi hj]
  exact ⟨hc 0 (by omega), hc 1 (by omega), hc 2 (by omega), hc 3 (by omega)⟩
/-- A list of fields, whether there is a row or not. -/
theorem list_of {W : World} {base n : Nat} {t : TypeId} {v : Value} {fs : List Fd} (h : W.ownsRow base t 4 v n (fdCells fs)) (hn : fs.length = n) (hW : 0 < W.heap.size) : ∃ a0 g c, v = .slice a0 n c ∧ (0 < n → a0 = some ⟨g, 0, none⟩) ∧ RowAt W g fs := by
  have h2 := h
  rcases h.2 with ⟨rfl, h0⟩ | ⟨g, cap, cur, rfl, _⟩
  · subst h0
    have : fs = [] := List.eq_nil_of_length_eq_zero hn
    subst this
    exact ⟨none, 0, 0, rfl, fun h => by omega, hW, fun i h => by simp at h⟩
  · exact ⟨_, g, cap, rfl, fun _ => rfl, rowAt_own h2 hn⟩

set_option maxRecDepth 100000 in
set_option maxHeartbeats 1600000 in
theorem refAll_any (a0 : Option Addr) (L cap g : Nat) (fs : List Fd) (num : Int) (w : World) (hL : fs.length = L) (ha : 0 < L → a0 = some ⟨g, 0, none⟩) (hr : RowAt w g fs) (hLb : L ≤ 1099511627776) :
    Calls Tryd.prog 30 #[.slice a0 L cap, .int .i64 num] w fun e w' => (∃ v, e = .returned v ∧ w'.ownsRow w.heap.size 33 4 v (withL num fs).length (fdCells (withL num fs))) ∧ Below w.heap.size w w' := by
  have HL := Lib.hid hL; clear hL
  have HR := Lib.hid hr; clear hr
  have HA := Lib.hid ha; clear ha
  obtain ⟨i0, hi, hz0, hz1, hz2⟩ := info_parts Tryd.infoRF
  go_enter Tryd.func30, Tryd.ntmps30
  go_wp2_with fail
  go_loopw [5, 6] (fun v i wr => ∃ k : Nat, k ≤ L ∧ i = .int .i64 k ∧ wr.ownsRow w.heap.size 33 4 v (withL num (fs.take k)).length (fdCells (withL num (fs.take k))) ∧ Below w.heap.size w wr) (fun _ i _ => L - (intOf i).toNat)
  case atStart => exact ⟨0, Nat.zero_le _, rfl, World.ownsRow_nil _ _ _ _, Below.refl _ _⟩
  case round =>
    obtain ⟨k, hk, rfl, hown, hb⟩ := hrel
    have hbs := hb.size
    by_cases hlt : k < L
    · have ea := HA.out (by omega)
      subst ea
      have hkg : k < fs.length := by have := HL.out; omega
      obtain ⟨hgw, hr⟩ := RowAt.below HR.out hb
      obtain ⟨p0, p1, p2, p3⟩ := hr k hkg
      have hpl := withL_len num fs k
      have HW := Lib.hid (fun hp => withL_yes (num := num) hkg hp)
      have HW2 := Lib.hid (fun hp => withL_no (num := num) hkg hp)
      clear hr
      generalize fs[k] = f at p0 p1 p2 p3 HW HW2
      clear hkg
      by_cases hp : ((f.num : Nat) : Int) = num
      · have HP := Lib.hid hp
        have hpb : (((f.num : Nat) : Int) == num) = true := by simpa using hp
        clear hp
        have n0 : ∀ O, (wr.alloc O).cell? ⟨g, k * 4, none⟩ = some (.int .i64 f.num) := fun O => (((Below.refl wr.heap.size wr).alloc (Nat.le_refl _) O).cell (p := ⟨g, k * 4, none⟩) hgw).trans p0
        go_wp2_with (at_builtin; go_must (refine wpList_append_own _ rfl _ _ 34 rfl w.heap.size 33 i0 _ 4 40 Tryd.underlying34 hi hz0 hz1 hz2 rfl (by omega) _ _ _ rfl (hown.alloc _) ⟨wr.heap.size, 0, none⟩ 1 1 [.int .i64 f.num, .int .i64 f.kind, .int .u64 f.n, .string ⟨f.s.toArray⟩] rfl rfl (World.news_of_block (cs := #[.int .i64 f.num, .int .i64 f.kind, .int .u64 f.n, .string ⟨f.s.toArray⟩]) (t := 33) (fr := (0, 0)) (heap_alloc_new wr _)) (by simp [Value.oneCell']) (by unfold maxLen; omega) (by omega) (by simp; omega) ?_; intro v' w1 hown1 hgrow _))
        have hb1 : Below w.heap.size w w1 := (hb.alloc hbs _).grown hgrow (by simp; omega) (fun r e => (hown.lt r e).1)
        go_roundw
        case rel =>
          refine ⟨k + 1, by omega, by go_num, ?_, hb1⟩
          rw [HW.out HP.out]; exact fd_more hown1 rfl rfl rfl rfl
        case measure => simp [intOf]; omega
      · have HP := Lib.hid hp
        have hpb : (((f.num : Nat) : Int) == num) = false := by simpa using hp
        clear hp
        go_wp2_with fail
        go_roundw
        case rel => exact ⟨k + 1, by omega, by go_num, by rw [HW2.out HP.out]; exact hown, hb⟩
        case measure => simp [intOf]; omega
    · obtain rfl : k = L := by omega
      have he : fs.take k = fs := List.take_of_length_le (by have := HL.out; omega)
      rw [he] at hown
      go_wp2_with fail
      go_ret
      exact ⟨⟨_, rfl, hown⟩, hb⟩

theorem lastCells_form (fs : List Fd) : ∃ c0 c1 c2 c3, lastCells fs = #[.int .i64 c0, .int .i64 c1, .int .u64 c2, .string c3] := by
  unfold lastCells; split <;> exact ⟨_, _, _, _, rfl⟩

set_option maxRecDepth 100000 in
set_option maxHeartbeats 1600000 in
theorem refLast_any (a0 : Option Addr) (L cap g : Nat) (fs : List Fd) (num : Int) (w : World) (hL : fs.length = L) (ha : 0 < L → a0 = some ⟨g, 0, none⟩) (hr : RowAt w g fs) (hLb : L ≤ 1099511627776) :
    Calls Tryd.prog 28 #[.slice a0 L cap, .int .i64 num] w fun e w' => e = .returned (.tuple #[.agg (lastCells (withL num fs)), .bool (!(withL num fs).isEmpty)]) ∧ Below w.heap.size w w' := by
  have hwl : (withL num fs).length ≤ L := by have := List.length_filter_le (hasNum num) fs; rw [← hL]; exact this
  obtain ⟨Q, hQ⟩ : ∃ Q, withL num fs = Q := ⟨_, rfl⟩
  rw [hQ] at hwl ⊢
  have HQ0 := Lib.hid hQ; clear hQ
  have hBA := (Below.refl w.heap.size w).alloc (Nat.le_refl _) (.cells #[.int .i64 0, .int .i64 0, .int .u64 0, .string ⟨#[]⟩] 33)
  have HBA := Lib.hid hBA; clear hBA
  have hrA := hr.below HBA.out
  go_enter Tryd.func28, Tryd.ntmps28
  go_wp2_with fail
  refine (refAll_any a0 L cap g fs num _ hL ha hrA hLb).mono ?_
  rw [HQ0.out]
  rintro e w2 ⟨⟨v, rfl, hv⟩, hb2⟩
  clear hr hrA ha HQ0
  have hB2 := HBA.out.trans (hb2.mono (by simp))
  have hK : Blk w2 w.heap.size #[.int .i64 0, .int .i64 0, .int .u64 0, .string ⟨#[]⟩] 33 := (Blk.new w _ _).below hb2 (by simp)
  have k0 : w2.cell? ⟨w.heap.size, 0, none⟩ = some (.int .i64 0) := hK.cell 0
  have k1 : w2.cell? ⟨w.heap.size, 1, none⟩ = some (.int .i64 0) := hK.cell 1
  have k2 : w2.cell? ⟨w.heap.size, 2, none⟩ = some (.int .u64 0) := hK.cell 2
  have k3 : w2.cell? ⟨w.heap.size, 3, none⟩ = some (.string ⟨#[]⟩) := hK.cell 3
  have j0 := hK.frozen 0
  have j1 := hK.frozen 1
  have j2 := hK.frozen 2
  have j3 := hK.frozen 3
  have HB2 := Lib.hid hB2; clear hB2
  clear hL
  obtain ⟨q, hq⟩ : ∃ q, Q.length = q := ⟨_, rfl⟩
  rw [hq] at hv hwl
  obtain ⟨a2, c2, rfl⟩ := owns_slice hv
  have HV := Lib.hid hv; clear hv
  have HQ := Lib.hid hq; clear hq
  by_cases hq0 : q = 0
  · subst hq0
    obtain rfl : Q = [] := List.eq_nil_of_length_eq_zero HQ.out
    go_wp2_with fail
    have d := (((hK.set 0 (.int .i64 0)).set 1 (.int .i64 0)).set 2 (.int .u64 0)).set 3 (.string ⟨#[]⟩)
    have e0 := d.cell 0
    have e1 := d.cell 1
    have e2 := d.cell 2
    have e3 := d.cell 3
    refine bodyPost_ret (v := .tuple #[.agg #[.int .i64 0, .int .i64 0, .int .u64 0, .string ⟨#[]⟩], .bool false]) (by simp [results, Tryd.results28, go_sem, e0, e1, e2, e3]) rfl ⟨rfl, ?_⟩
    exact (((HB2.out.setCell (p := ⟨w.heap.size, 0, none⟩) (Nat.le_refl _) _).setCell (p := ⟨w.heap.size, 1, none⟩) (Nat.le_refl _) _).setCell (p := ⟨w.heap.size, 2, none⟩) (Nat.le_refl _) _).setCell (p := ⟨w.heap.size, 3, none⟩) (Nat.le_refl _) _
  · obtain ⟨q', rfl⟩ : ∃ q', q = q' + 1 := ⟨q - 1, by omega⟩
    obtain ⟨Q', f, rfl⟩ : ∃ Q' f, Q = Q' ++ [f] := by
      have hne : Q ≠ [] := fun h => by have := HQ.out; rw [h] at this; simp at this
      exact ⟨_, _, (List.dropLast_concat_getLast hne).symm⟩
    have hQl : Q'.length = q' := by have := HQ.out; simpa using this
    obtain ⟨g2, rfl⟩ := own_form HV.out (by omega)
    obtain ⟨p0, p1, p2, p3⟩ := (rowAt_own HV.out HQ.out).2 q' (by simp; omega)
    rw [show (Q' ++ [f])[q']'(by simp; omega) = f by simp [← hQl]] at p0 p1 p2 p3
    have hem : (!(Q' ++ [f]).isEmpty) = true := by simp
    have HEM := Lib.hid hem
    clear hQl hem
    have b0 : (0 : Int) ≤ (q' : Int) := by omega
    have b1 : (q' : Int) < (q' : Int) + 1 := by omega
    go_wp2_with fail
    have d := (((hK.set 0 (.int .i64 f.num)).set 1 (.int .i64 f.kind)).set 2 (.int .u64 f.n)).set 3 (.string ⟨f.s.toArray⟩)
    have e0 := d.cell 0
    have e1 := d.cell 1
    have e2 := d.cell 2
    have e3 := d.cell 3
    refine bodyPost_ret (v := .tuple #[.agg #[.int .i64 f.num, .int .i64 f.kind, .int .u64 f.n, .string ⟨f.s.toArray⟩], .bool true]) (by simp [results, Tryd.results28, go_sem, e0, e1, e2, e3]) rfl ⟨by rw [lastCells_snoc, HEM.out], ?_⟩
    exact (((HB2.out.setCell (p := ⟨w.heap.size, 0, none⟩) (Nat.le_refl _) _).setCell (p := ⟨w.heap.size, 1, none⟩) (Nat.le_refl _) _).setCell (p := ⟨w.heap.size, 2, none⟩) (Nat.le_refl _) _).setCell (p := ⟨w.heap.size, 3, none⟩) (Nat.le_refl _) _

theorem eq_fieldsR (a k n a' k' n' : Int) (s s' : ByteArray) (w : World) : (Op.equalIn 10000 33 (.agg #[.int .i64 a, .int .i64 k, .int .u64 n, .string s]) (.agg #[.int .i64 a', .int .i64 k', .int .u64 n', .string s'])).run Tryd.prog w = .ok (a == a' && (k == k' && (n == n' && s.toList == s'.toList))) w := by
  have u3 := Tryd.underlying3
  have a3 := Tryd.isAgg3
  have z3 := Tryd.sizeOf3
  have u22 := Tryd.underlying22
  have a22 := Tryd.isAgg22
  have z22 := Tryd.sizeOf22
  have u9 := Tryd.underlying9
  have a9 := Tryd.isAgg9
  have z9 := Tryd.sizeOf9
  have hS : Tryd.prog.underlying 33 = some (.struct (Tryd.prog.fieldsOf 33)) := by kernel_rfl
  have hp : Tryd.prog.stoodInHeld 33 = false := by kernel_rfl
  rw [show (10000 : Nat) = 9999 + 1 from rfl, run_equalIn_agg w 9999 33 _ _ hS hp]
  simp only [Program.fieldsOf, Tryd.underlying33]
  go_simp
  by_cases h1 : a = a' <;> by_cases h2 : k = k' <;> by_cases h3 : n = n' <;> by_cases h4 : s.toList = s'.toList <;> simp [h1, h2, h3, h4]
theorem neq_sameR (a k n : Int) (s : ByteArray) (w : World) : (binOp .neq 33 (.agg #[.int .i64 a, .int .i64 k, .int .u64 n, .string s]) (.agg #[.int .i64 a, .int .i64 k, .int .u64 n, .string s])).run Tryd.prog w = .ok (.bool false) w := by
  rw [run_neq_struct, eq_fieldsR]
  simp
theorem guard_fdR (op : BinOp) (x y : Operand) (xs ys : Array Value) (w : World) : (eqGuard op 33 x y (.agg xs) (.agg ys)).run Tryd.prog w = .ok () w :=
  run_eqGuard_agg w op _ x y xs ys (by kernel_rfl)

set_option maxRecDepth 100000 in
set_option maxHeartbeats 1600000 in
theorem same_any (a0 b0 : Option Addr) (L c1 c2 g1 g2 : Nat) (fs : List Fd) (w : World) (hL : fs.length = L) (ha : 0 < L → a0 = some ⟨g1, 0, none⟩) (hb0 : 0 < L → b0 = some ⟨g2, 0, none⟩) (r1 : RowAt w g1 fs) (r2 : RowAt w g2 fs) (hLb : L ≤ 1099511627776) :
    Calls Tryd.prog 26 #[.slice a0 L c1, .slice b0 L c2] w fun e w' => e = .returned (.bool true) ∧ Below w.heap.size w w' := by
  have HL := Lib.hid hL; clear hL
  have R1 := Lib.hid r1; clear r1
  have R2 := Lib.hid r2; clear r2
  have HA := Lib.hid ha; clear ha
  have HBB := Lib.hid hb0; clear hb0
  go_enter Tryd.func26, Tryd.ntmps26
  go_wp2_with fail
  go_loopw [5] (fun i wr => ∃ k : Nat, k ≤ L ∧ i = .int .i64 k ∧ RowAt wr g1 fs ∧ RowAt wr g2 fs ∧ Below w.heap.size w wr) (fun i _ => L - (intOf i).toNat)
  case atStart => exact ⟨0, Nat.zero_le _, rfl, R1.out, R2.out, Below.refl _ _⟩
  case round =>
    clear R1 R2
    obtain ⟨k, hk, rfl, r1, r2, hb⟩ := hrel
    have R1 := Lib.hid r1; clear r1
    have R2 := Lib.hid r2; clear r2
    have HB := Lib.hid hb; clear hb
    by_cases hlt : k < L
    · have ea := HA.out (by omega)
      have eb := HBB.out (by omega)
      subst ea eb
      have hlf : k < fs.length := by have := HL.out; omega
      obtain ⟨p0, p1, p2, p3⟩ := R1.out.2 k hlf
      obtain ⟨m0, m1, m2, m3⟩ := R2.out.2 k hlf
      generalize fs[k] = f at p0 p1 p2 p3 m0 m1 m2 m3
      have hnq := neq_sameR (f.num : Int) (f.kind : Int) (f.n : Int) ⟨f.s.toArray⟩
      have hgd := guard_fdR
      have b0 : (0 : Int) ≤ (k : Int) := by omega
      have b1 : (k : Int) < (L : Int) := by omega
      clear hlf
      go_wp2_with fail
      go_quiet (fail)
      go_wp2_with fail
      exact ⟨⟨k + 1, by omega, by go_num, R1.out.below (below_drewN' _), R2.out.below (below_drewN' _), below_drewN HB.out _⟩, by simp [intOf]; omega⟩
    · obtain rfl : k = L := by omega
      go_wp2_with fail
      go_ret
      exact ⟨rfl, HB.out⟩
end Go.Proofs.YtkehanpgaahmlaaDoor
