/- client: Take, of a response with nothing in it. -/
import Derived.Test.YtdcfdcjgheijcaaGreatDoorClAsk
namespace Go.Proofs.YtdcfdcjgheijcaaGreatDoor
open Go.RowKit Go.Lib

abbrev sAsked : ByteArray := ⟨#[110, 111, 116, 104, 105, 110, 103, 32, 119, 97, 115, 32, 97, 115, 107, 101, 100]⟩
abbrev sDelta : ByteArray := ⟨#[97, 110, 111, 116, 104, 101, 114, 32, 68, 101, 108, 116, 97]⟩
abbrev sLate : ByteArray := ⟨#[97, 32, 108, 97, 116, 101, 114, 32, 111, 110, 101, 32, 99, 97, 109, 101]⟩
/-- What stands in the way of taking: not open, another Delta, too late. -/
def takeErr (k : Nat) (O E F : Bool) : Value := if O then (if E then (if F then .nilIface else fU k 6 sLate) else fU k 7 sDelta) else fU k 7 sAsked

set_option maxRecDepth 100000 in
set_option maxHeartbeats 8000000 in
theorem chkTake_any {x : Cl} {k q : Nat} {d O E F : Bool} {b : Addr} {w : World} (h1 : 1 ≤ k) (h5 : k ≤ 5) (hq : q ≠ 0) (hg : Gn b w) (hO : (x.get k).op = O) (hE : (d == x.d) = E) (hF : decide ((x.get k).q < q) = F) :
    Calls Tryz.prog 91 #[x.v, .agg (rp k d q)] w fun e w' => e = .returned (takeErr k O E F) ∧ Below w.heap.size w w' := by
  obtain ⟨u0, hu0, hb0, p0, z0⟩ := alloc_sized w x.arr CT
  obtain ⟨u1, hu1, hb1, p1, z1⟩ := alloc_sized u0 (rp k d q) 48
  have hb01 := hb0.trans (hb1.mono hb0.size)
  have r0 := p1.cell 0
  have r1 := p1.cell 1
  have r2 := p1.cell 2
  have r3 := p1.cell 3
  have r4 := p1.cell 4
  have r5 := p1.cell 5
  have r6 := p1.cell 6
  simp only [List.getElem?_toArray, List.getElem?_cons_zero, List.getElem?_cons_succ] at r0 r1 r2 r3 r4 r5 r6
  have HR := Lib.hid (right_ok (d := d) h1 h5 hq (hg.later hb01))
  have HU0 := Lib.hid hu0
  have HU1 := Lib.hid hu1
  have HP := Lib.hid (And.intro (p0.later hb1) (And.intro p1 (And.intro hb01 (And.intro h1 h5))))
  have k0 : (0 : Int) ≤ (k : Int) := by omega
  have k6 : (k : Int) < 6 := by omega
  clear hu0 hu1 hb0 hb1 p0 p1 z0 z1 hb01 hg hq
  go_enter Tryz.func91, Tryz.ntmps91
  go_wp2_with (first | rw [HU0.out] | rw [HU1.out])
  refine HR.out.mono ?_
  rintro e u2 ⟨rfl, hb2⟩
  have kk : k < 6 := by have := HP.out.2.2.2; omega
  have Q0 := HP.out.1.later hb2
  have Q1 := HP.out.2.1.later hb2
  have c0 := (Q0.cell (1 + k * 4)).trans (x.at kk).1
  have c1 := (Q0.cell (1 + k * 4 + 1)).trans (x.at kk).2.1
  have c2 := (Q0.cell (1 + k * 4 + 2)).trans (x.at kk).2.2.1
  have c3 := (Q0.cell (1 + k * 4 + 3)).trans (x.at kk).2.2.2
  have m0 := Q1.cell 0
  have m1 := Q1.cell 1
  have m3 := Q1.cell 3
  simp only [List.getElem?_toArray, List.getElem?_cons_zero, List.getElem?_cons_succ] at m0 m1 m3
  rw [hO] at c2
  obtain ⟨u3, hu3, hb3, p3, z3⟩ := alloc_sized u2 #[.bool (x.get k).all, .slice (x.get k).a (x.get k).l.length (x.get k).c, .bool O, .int .u64 ((x.get k).q : Int)] 69
  have t2 := p3.cell 2
  have t3 := p3.cell 3
  have d0 := ((Q0.later hb3).cell 0).trans x.at0
  have n0 := (Q1.later hb3).cell 0
  have n1 := (Q1.later hb3).cell 1
  have n3 := (Q1.later hb3).cell 3
  simp only [List.getElem?_toArray, List.getElem?_cons_zero, List.getElem?_cons_succ] at t2 t3 n0 n1 n3
  have HU3 := Lib.hid hu3
  have HB := Lib.hid ((HP.out.2.2.1.trans (hb2.mono HP.out.2.2.1.size)).trans (hb3.mono (Nat.le_trans HP.out.2.2.1.size hb2.size)))
  clear hb2 hb3 hu3 z3 p3 Q0 Q1 kk hO h1 h5
  obtain ⟨D, hD⟩ : ∃ D, x.d = D := ⟨_, rfl⟩
  rw [hD] at d0 hE
  clear hD
  dsimp only
  cases O with
  | false =>
    go_wp2_with (rw [HU3.out])
    go_ret
    exact ⟨rfl, HB.out⟩
  | true =>
    cases E with
    | false =>
      have hne : d ≠ D := by rintro rfl; simp at hE
      cases d <;> cases D
      · exact absurd rfl hne
      · go_wp2_with (rw [HU3.out])
        go_ret
        exact ⟨rfl, HB.out⟩
      · go_wp2_with (rw [HU3.out])
        go_ret
        exact ⟨rfl, HB.out⟩
      · exact absurd rfl hne
    | true =>
      have heq : d = D := by simpa using hE
      subst heq
      clear hE
      cases F with
      | false =>
        have hle : ((q : Int) ≤ ((x.get k).q : Int)) := by have := of_decide_eq_false hF; omega
        clear hF
        cases d
        · go_wp2_with (rw [HU3.out])
          go_ret
          exact ⟨rfl, HB.out⟩
        · go_wp2_with (rw [HU3.out])
          go_ret
          exact ⟨rfl, HB.out⟩
      | true =>
        have hle : ¬ ((q : Int) ≤ ((x.get k).q : Int)) := by have := of_decide_eq_true hF; omega
        clear hF
        cases d
        · go_wp2_with (rw [HU3.out])
          go_ret
          exact ⟨rfl, HB.out⟩
        · go_wp2_with (rw [HU3.out])
          go_ret
          exact ⟨rfl, HB.out⟩
theorem Cl.arr_took (x : Cl) (q : Nat) {k : Nat} (h : k < 6) : x.arr.setIfInBounds (1 + k * 4 + 3) (.int .u64 (q : Int)) = (x.set { x.get k with q := q } k).arr := by
  match k with
  | 0 | 1 | 2 | 3 | 4 | 5 => rfl
  | k + 6 => omega
theorem Tryz.resTake : Tryz.f48.results = #[.cell 4 CT, .tmp 5] := rfl

set_option maxRecDepth 100000 in
set_option maxHeartbeats 8000000 in
/-- Take, where something stands in the way. -/
theorem take_err {x : Cl} {k q : Nat} {d O E F : Bool} {N' : Int} {s' : ByteArray} {b : Addr} {w : World} (h1 : 1 ≤ k) (h5 : k ≤ 5) (hq : q ≠ 0) (hn : Gn b w) (hg : Ge w) (hO : (x.get k).op = O) (hE : (d == x.d) = E) (hF : decide ((x.get k).q < q) = F) (hN : takeErr k O E F = fU k N' s') :
    Calls Tryz.prog 48 #[x.v, .agg (rp k d q)] w fun e w' => e = .returned (.tuple #[x.v, .int .i64 N']) ∧ Below w.heap.size w w' := by
  obtain ⟨v0, hv0, hb0, p0, z0⟩ := alloc_sized w x.arr CT
  obtain ⟨v1, hv1, hb1, p1, z1⟩ := alloc_sized v0 (rp k d q) 48
  obtain ⟨v2, hv2, hb2, p2, z2⟩ := alloc_sized v1 Cl.zero.arr CT
  have hb12 := hb1.trans (hb2.mono hb1.size)
  have hbw := hb0.trans (hb12.mono hb0.size)
  have P1 := p1.later hb2
  have r0 := P1.cell 0
  have r1 := P1.cell 1
  have r2 := P1.cell 2
  have r3 := P1.cell 3
  have r4 := P1.cell 4
  have r5 := P1.cell 5
  have r6 := P1.cell 6
  simp only [List.getElem?_toArray, List.getElem?_cons_zero, List.getElem?_cons_succ] at r0 r1 r2 r3 r4 r5 r6
  have hv2' : v1.alloc (.cells #[.bool false, .bool false, .slice none 0 0, .bool false, .int .u64 0, .bool false, .slice none 0 0, .bool false, .int .u64 0, .bool false, .slice none 0 0, .bool false, .int .u64 0, .bool false, .slice none 0 0, .bool false, .int .u64 0, .bool false, .slice none 0 0, .bool false, .int .u64 0, .bool false, .slice none 0 0, .bool false, .int .u64 0] CT) = v2 := hv2
  have HV0 := Lib.hid hv0
  have HV1 := Lib.hid hv1
  have HV2 := Lib.hid hv2'
  have HC := Lib.hid (chkTake_any (x := x) h1 h5 hq (hn.later hbw) hO hE hF)
  have HZ := Lib.hid (And.intro z0 (And.intro z1 z2))
  have HP := Lib.hid (And.intro (p0.later hb12) (And.intro P1 (And.intro p2 (And.intro hbw (And.intro h1 h5)))))
  clear hv0 hv1 hv2 hv2' hb0 hb1 hb2 hb12 hbw p0 p1 p2 P1 z0 z1 z2 hO hE hF hn hq h1 h5
  go_enter Tryz.func48, Tryz.ntmps48
  go_wp2_with (first | rw [HV0.out] | rw [HV1.out] | rw [HV2.out] | (refine wpList_load_cl _ x w.heap.size rfl rfl (by rfl) HP.out.1 ?_; simp only [Act.put, List.setIfInBounds_toArray, List.set_cons_zero, List.set_cons_succ]))
  refine HC.out.mono ?_
  rintro e v8 ⟨rfl, hb8⟩
  have Q0 := HP.out.1.later hb8
  have Q1 := HP.out.2.1.later hb8
  have Q2 := HP.out.2.2.1.later hb8
  have hB8 := HP.out.2.2.2.1.trans (hb8.mono HP.out.2.2.2.1.size)
  have hsz : v2.heap.size ≤ v8.heap.size := hb8.size
  dsimp only
  rw [hN]
  have hG8 := hg.later hB8
  have hgl := hg.2
  clear hN hg
  go_wp2_with fail
  obtain ⟨w201, hw202, hb203⟩ := drew_new v8
  have q204 := hB8.trans (hb203.mono hB8.size)
  have q205 := Q0.later hb203
  have q206 := Q2.later hb203
  have q207 := hG8.later hb203
  refine wp_region_held_drew (S := (fun w' => Blk w' w.heap.size x.arr CT ∧ True)) (by kernel_rfl) (by rw [hw202]; exact ⟨q205, trivial⟩) (fun hHeld => ?_)
  rw [hw202] at hHeld ⊢
  refine wpAnyH_take (i := 0) (oi := { dst := some 12, op := Op.load 72 (Operand.tmp 2), type := 72, pos := "client.go:40", after := #[], guard := none }) (v := .agg x.arr) rfl (by kernel_rfl) (by kernel_rfl) (by kernel_rfl) (fun _ _ _ h => h) (Or.inl ⟨by rfl, ?hy1⟩) (by assumption) ?rest1
  case hy1 => (intro w1 hSw; (try dsimp only at hSw); obtain ⟨h0, -⟩ := hSw; (apply exec_load_cl; (· rfl); (· rfl); exact h0))
  try simp only [Act.put, List.setIfInBounds_toArray, List.set_cons_zero, List.set_cons_succ]
  refine wpAnyH_take (i := 1) (oi := { dst := some 13, op := Op.move (Operand.tmp 6), type := 86, pos := "client.go:40", after := #[], guard := none }) (v := ?v2) rfl (by kernel_rfl) (by kernel_rfl) (by kernel_rfl) (fun _ _ _ h => h) (Or.inl ⟨by rfl, ?hy2⟩) (by assumption) ?rest2
  case hy2 => (intro w1 hSw; (try dsimp only at hSw); obtain ⟨h0, -⟩ := hSw; go_simp; try with_reducible rfl)
  try simp only [Act.put, List.setIfInBounds_toArray, List.set_cons_zero, List.set_cons_succ]
  refine wpAnyH_ready (rs := [2]) (by kernel_rfl) (by simp) ?_
  refine AllReadyH.cons (o := { dst := some 14, op := Op.call { callee := Callee.value (Operand.func 51), args := #[Operand.tmp 13], argTypes := #[86] }, type := 40, pos := "client.go:40", after := #[{ on := 1, ground := Ground.data }], guard := none }) rfl (fun K hK => ?_) AllReadyH.nil
  go_simp
  refine (errno_UD q207).mono ?_
  rintro e w208 ⟨rfl, hb209⟩
  have q210 := q204.trans (hb209.mono q204.size)
  have q211 := q205.later hb209
  have q212 := q206.later hb209
  have q213 := q207.later hb209
  refine hK.out _ _ (⟨q211, trivial⟩) (fun hHeld => ?_)
  clear hK K
  try simp only [Act.put, List.setIfInBounds_toArray, List.set_cons_zero, List.set_cons_succ]
  refine wpAnyH_ready (rs := [3]) (by kernel_rfl) (by simp) ?_
  refine AllReadyH.cons (o := { dst := none, op := Op.store 72 (Operand.tmp 4) (Operand.tmp 12), type := 0, pos := "client.go:40", after := #[{ on := 0, ground := Ground.data }, { on := 2, ground := Ground.chain }, { on := 0, ground := Ground.phase }, { on := 1, ground := Ground.textOnly Departure.lateStores }, { on := 2, ground := Ground.textOnly Departure.lateStoresUnsure }], guard := none }) rfl (fun K hK => ?_) AllReadyH.nil
  rw [if_pos (by rfl)]
  refine wp_store_cl _ _ Cl.zero x v1.heap.size rfl (by rfl) (by rfl) q212 ?_
  intro w214 p215 j216
  have q218 := j216.blk (by have := HZ.out; have := HZ.out; omega) q211
  have q219 := q213.just (by have := HZ.out; omega) j216
  have q220 := q210.trans (j216.below (by have := HZ.out; omega))
  refine hK.out _ _ (⟨q218, trivial⟩) (fun hHeld => ?_)
  clear hK K
  try simp only [Act.put, List.setIfInBounds_toArray, List.set_cons_zero, List.set_cons_succ]
  refine wpAnyH_take (i := 4) (oi := { dst := some 5, op := Op.assign (Operand.tmp 14), type := 40, pos := "client.go:40", after := #[{ on := 2, ground := Ground.data }, { on := 3, ground := Ground.chain }, { on := 0, ground := Ground.phase }, { on := 1, ground := Ground.phase }, { on := 2, ground := Ground.phase }, { on := 3, ground := Ground.phase }], guard := none }) (v := ?v3) rfl (by kernel_rfl) (by kernel_rfl) (by kernel_rfl) (fun _ _ _ h => h) (Or.inl ⟨by rfl, ?hy3⟩) (by assumption) ?rest3
  case hy3 => (intro w1 hSw; (try dsimp only at hSw); obtain ⟨h0, -⟩ := hSw; go_simp; try with_reducible rfl)
  try simp only [Act.put, List.setIfInBounds_toArray, List.set_cons_zero, List.set_cons_succ]
  refine wpAnyH_done (by kernel_rfl) ?_ _
  go_wp2_with fail
  have hl1 := run_load_cl _ _ p215
  refine bodyPost_ret (v := .tuple #[x.v, .int .i64 N']) (by simp [results, Tryz.resTake, hl1, asAddr]) rfl ⟨rfl, q220⟩

set_option maxRecDepth 100000 in
set_option maxHeartbeats 8000000 in
/-- Take, where nothing stands in the way. -/
theorem take_ok {x : Cl} {k q : Nat} {d O E F : Bool} {b : Addr} {w : World} (h1 : 1 ≤ k) (h5 : k ≤ 5) (hq : q ≠ 0) (hn : Gn b w) (hO : (x.get k).op = O) (hE : (d == x.d) = E) (hF : decide ((x.get k).q < q) = F) (hN : takeErr k O E F = .nilIface) :
    Calls Tryz.prog 48 #[x.v, .agg (rp k d q)] w fun e w' => e = .returned (.tuple #[(x.set { x.get k with q := q } k).v, .int .i64 0]) ∧ Below w.heap.size w w' := by
  obtain ⟨v0, hv0, hb0, p0, z0⟩ := alloc_sized w x.arr CT
  obtain ⟨v1, hv1, hb1, p1, z1⟩ := alloc_sized v0 (rp k d q) 48
  obtain ⟨v2, hv2, hb2, p2, z2⟩ := alloc_sized v1 Cl.zero.arr CT
  have hb12 := hb1.trans (hb2.mono hb1.size)
  have hbw := hb0.trans (hb12.mono hb0.size)
  have P1 := p1.later hb2
  have r0 := P1.cell 0
  have r1 := P1.cell 1
  have r2 := P1.cell 2
  have r3 := P1.cell 3
  have r4 := P1.cell 4
  have r5 := P1.cell 5
  have r6 := P1.cell 6
  simp only [List.getElem?_toArray, List.getElem?_cons_zero, List.getElem?_cons_succ] at r0 r1 r2 r3 r4 r5 r6
  have hv2' : v1.alloc (.cells #[.bool false, .bool false, .slice none 0 0, .bool false, .int .u64 0, .bool false, .slice none 0 0, .bool false, .int .u64 0, .bool false, .slice none 0 0, .bool false, .int .u64 0, .bool false, .slice none 0 0, .bool false, .int .u64 0, .bool false, .slice none 0 0, .bool false, .int .u64 0, .bool false, .slice none 0 0, .bool false, .int .u64 0] CT) = v2 := hv2
  have HV0 := Lib.hid hv0
  have HV1 := Lib.hid hv1
  have HV2 := Lib.hid hv2'
  have HC := Lib.hid (chkTake_any (x := x) h1 h5 hq (hn.later hbw) hO hE hF)
  have HZ := Lib.hid (And.intro z0 (And.intro z1 z2))
  have HP := Lib.hid (And.intro (p0.later hb12) (And.intro P1 (And.intro p2 (And.intro hbw (And.intro h1 h5)))))
  clear hv0 hv1 hv2 hv2' hb0 hb1 hb2 hb12 hbw p0 p1 p2 P1 z0 z1 z2 hO hE hF hn hq h1 h5
  go_enter Tryz.func48, Tryz.ntmps48
  go_wp2_with (first | rw [HV0.out] | rw [HV1.out] | rw [HV2.out] | (refine wpList_load_cl _ x w.heap.size rfl rfl (by rfl) HP.out.1 ?_; simp only [Act.put, List.setIfInBounds_toArray, List.set_cons_zero, List.set_cons_succ]))
  refine HC.out.mono ?_
  rintro e v8 ⟨rfl, hb8⟩
  have Q0 := HP.out.1.later hb8
  have Q1 := HP.out.2.1.later hb8
  have Q2 := HP.out.2.2.1.later hb8
  have hB8 := HP.out.2.2.2.1.trans (hb8.mono HP.out.2.2.2.1.size)
  have hsz : v2.heap.size ≤ v8.heap.size := hb8.size
  dsimp only
  rw [hN]
  have kk : k < 6 := by have := HP.out.2.2.2.2.2; omega
  have k0 : (0 : Int) ≤ (k : Int) := by omega
  have k6 : (k : Int) < 6 := by omega
  have m0 := Q1.cell 0
  have m3 := Q1.cell 3
  simp only [List.getElem?_toArray, List.getElem?_cons_zero, List.getElem?_cons_succ] at m0 m3
  have e3 := (Q0.cell (1 + k * 4 + 3)).trans (x.at kk).2.2.2
  have f3 := Q0.frozen (1 + k * 4 + 3)
  obtain ⟨v9, hv9, p9, j9⟩ := set_new Q0 (1 + k * 4 + 3) (.int .u64 (q : Int))
  rw [x.arr_took q kk] at p9
  have hz := HZ.out
  have R2 := j9.blk (k := v1.heap.size) (by omega) Q2
  have HB9 := Lib.hid (hB8.trans (j9.below (by omega)))
  have HV9 := Lib.hid hv9
  have HR := Lib.hid (And.intro p9 R2)
  clear hN hv9 p9 j9 R2 Q0 Q1 Q2 hb8 hsz kk hz
  go_wp2_with (first | rw [HV9.out] | (refine wpList_load_cl _ (x.set { x.get k with q := q } k) w.heap.size rfl rfl (by rfl) HR.out.1 ?_; simp only [Act.put, List.setIfInBounds_toArray, List.set_cons_zero, List.set_cons_succ]) | (refine wpList_store_cl _ _ Cl.zero (x.set { x.get k with q := q } k) v1.heap.size rfl rfl (by rfl) (by rfl) HR.out.2 ?_; intro v10 p10 j10; simp only [Act.put, List.setIfInBounds_toArray, List.set_cons_zero, List.set_cons_succ]))
  have hl1 := run_load_cl _ _ p10
  refine bodyPost_ret (v := .tuple #[(x.set { x.get k with q := q } k).v, .int .i64 0]) (by simp [results, Tryz.resTake, hl1, asAddr]) rfl ⟨rfl, HB9.out.trans (j10.below (by have := HZ.out; omega))⟩
end Go.Proofs.YtdcfdcjgheijcaaGreatDoor
