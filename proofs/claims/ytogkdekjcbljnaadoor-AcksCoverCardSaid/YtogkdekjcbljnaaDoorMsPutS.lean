/- message: PutStatus of any status. -/
import Derived.Test.YtogkdekjcbljnaaDoorMsStat
import Derived.BigQuiet
import Derived.Deep.RegionHeld3
namespace Go.Proofs.YtogkdekjcbljnaaDoor
open Go.RowKit Go.Lib

/-- May a status be said? -/
def St.ok (r : St) : Bool := (decide (1 ≤ r.t) && decide (r.t ≤ 5)) && nmOk r.x && ((r.q : Int) != 0) && decide ((r.s.size : Int) ≤ 256) && (!r.f || decide (r.s.size = 0))
def St.wrong (r : St) : Option (List Int) := firstO [needO 1 (decide (1 ≤ r.t) && decide (r.t ≤ 5)), needO 2 (nmOk r.x), needO 3 ((r.q : Int) != 0), needO 5 (decide ((r.s.size : Int) ≤ 256)), needO 5 (!r.f || decide (r.s.size = 0))]
theorem firstO_all : ∀ (l : List (Int × Bool)), (firstO (l.map fun p => needO p.1 p.2)).isSome = !(l.all (·.2)) ∧ ∀ x, firstO (l.map fun p => needO p.1 p.2) = some x → x.length ≤ 2
  | [] => ⟨rfl, fun x h => by cases h⟩
  | (n, true) :: r => by
    have := firstO_all r
    simpa [needO, firstO] using this
  | (n, false) :: r => by
    refine ⟨by simp [needO, firstO], fun x h => ?_⟩
    simp [needO, firstO] at h
    subst h; simp
theorem St.wrong_is (r : St) : r.wrong.isSome = !r.ok ∧ ∀ x, r.wrong = some x → x.length ≤ 2 := by
  have := firstO_all [(1, decide (1 ≤ r.t) && decide (r.t ≤ 5)), (2, nmOk r.x), (3, (r.q : Int) != 0), (5, decide ((r.s.size : Int) ≤ 256)), (5, !r.f || decide (r.s.size = 0))]
  refine ⟨this.1.trans ?_, this.2⟩
  unfold St.ok
  simp [Bool.and_assoc]
theorem chkStat_any (r : St) (b : Addr) (w : World) (hg : Gn b w) : Calls Tryd.prog 27 #[r.v] w fun e w' => e = .returned (oV b r.wrong) ∧ Below w.heap.size w w' := by
  obtain ⟨t, x, q, f, s⟩ := r
  unfold St.wrong
  cases f with
  | false => exact chkStat_ff t x q s b w hg
  | true =>
    by_cases h0 : s.size = 0
    · obtain rfl := ba_nil h0
      exact chkStat_te t x q b w hg
    · simp only [h0, decide_false, Bool.not_true, Bool.or_false]
      exact chkStat_tn t x q s b w hg h0
/-- A box of a status and how far the call got. -/
def StS (w : World) (u : Nat) (r : St) (b : Addr) (w' : World) : Prop := w'.cell? ⟨u, 0, none⟩ = some (.int .i64 r.t) ∧ w'.cell? ⟨u, 1, none⟩ = some (.string r.x) ∧ w'.cell? ⟨u, 2, none⟩ = some (.int .u64 (r.q : Int)) ∧ w'.cell? ⟨u, 3, none⟩ = some (.bool r.f) ∧ w'.cell? ⟨u, 4, none⟩ = some (.string r.s) ∧ w'.cell? ⟨0, 0, none⟩ = some (.iface 161 (.pointer (some b))) ∧ u < w.heap.size ∧ 0 < w.heap.size ∧ Below w.heap.size w w'
theorem StS.next {w w' w'' : World} {u : Nat} {r : St} {b : Addr} (h : StS w u r b w') (hb : Below w'.heap.size w' w'') : StS w u r b w'' := by
  obtain ⟨k0, k1, k2, k3, k4, k5, hu, hv, h5⟩ := h
  have hm : u < w'.heap.size := Nat.lt_of_lt_of_le hu h5.size
  have hn : 0 < w'.heap.size := Nat.lt_of_lt_of_le hv h5.size
  exact ⟨(hb.cell (p := ⟨u, _, none⟩) hm).trans k0, (hb.cell (p := ⟨u, _, none⟩) hm).trans k1, (hb.cell (p := ⟨u, _, none⟩) hm).trans k2, (hb.cell (p := ⟨u, _, none⟩) hm).trans k3, (hb.cell (p := ⟨u, _, none⟩) hm).trans k4, (hb.cell (p := ⟨0, _, none⟩) hn).trans k5, hu, hv, h5.trans (hb.mono h5.size)⟩
theorem StS.gn {w w' : World} {u : Nat} {r : St} {b : Addr} (h : StS w u r b w') : Gn b w' := ⟨h.2.2.2.2.2.1, Nat.lt_of_lt_of_le h.2.2.2.2.2.2.2.1 h.2.2.2.2.2.2.2.2.size⟩
set_option maxRecDepth 100000 in
set_option maxHeartbeats 4000000 in
theorem putStatus_any (r : St) (g b : Addr) (w : World) (hg : Gv g w) (hn : Gn b w) (hq : r.q < 2 ^ 64) :
    Calls Tryd.prog 15 #[r.v] w fun e w' => e = .returned (.tuple #[.string ⟨(if r.ok then r.put else []).toArray⟩, .bool r.ok]) ∧ Below w.heap.size w w' := by
  have hw := r.wrong_is
  have hsz : r.ok = true → r.x.size ≤ 64 ∧ r.s.size ≤ 256 := by
    intro h
    unfold St.ok at h
    simp only [Bool.and_eq_true, decide_eq_true_eq] at h
    refine ⟨?_, by omega⟩
    have := h.1.1.1.2
    unfold nmOk at this
    simp only [Bool.and_eq_true, decide_eq_true_eq] at this
    omega
  have HC := Lib.hid (fun W hW => chkStat_any r b W hW)
  have HI := Lib.hid (fun W => isE_any b r.wrong W hw.2)
  rw [hw.1] at HI
  have HWR := Lib.hid (fun W (hW : Gv g W) (h : r.ok = true) => writeStatus_any r g W hW hq (by have := (hsz h).1; omega) (by have := (hsz h).2; omega))
  have hc1 := oV_one b r.wrong
  generalize oV b r.wrong = V at HC HI hc1
  generalize r.put = P at HWR ⊢
  generalize r.ok = K at HI HWR hsz ⊢
  obtain ⟨t, x, q, f, s⟩ := r
  obtain ⟨w0, hw0, hb0, p0, -⟩ := alloc_sized w #[.int .i64 t, .string x, .int .u64 (q : Int), .bool f, .string s] 35
  have hb1 : Below w0.heap.size w0 w0.drew := (Below.refl _ _).drew
  have ST : StS w0 w.heap.size ⟨t, x, q, f, s⟩ b w0.drew := by
    have p := p0.later hb1
    have n := (hn.later hb0).later hb1
    exact ⟨p.cell 0, p.cell 1, p.cell 2, p.cell 3, p.cell 4, n.1, p0.lt, (hn.later hb0).2, hb1⟩
  have HW0 := Lib.hid hw0
  have H := Lib.hid (And.intro hb0 (And.intro (hg.below hb0) trivial))
  clear hw0 hb0 hb1 p0 hn hg hw hsz hq
  go_enter Tryd.func15, Tryd.ntmps15
  go_wp2_with fail
  rw [HW0.out]
  go_region_held3 (fun w' => w'.cell? ⟨w.heap.size, 0, none⟩ = some (.int .i64 t) ∧ w'.cell? ⟨w.heap.size, 1, none⟩ = some (.string x) ∧ w'.cell? ⟨w.heap.size, 2, none⟩ = some (.int .u64 (q : Int)) ∧ w'.cell? ⟨w.heap.size, 3, none⟩ = some (.bool f) ∧ w'.cell? ⟨w.heap.size, 4, none⟩ = some (.string s) ∧ w'.cell? ⟨0, 0, none⟩ = some (.iface 161 (.pointer (some b))) ∧ w.heap.size < w0.heap.size ∧ 0 < w0.heap.size ∧ Below w0.heap.size w0 w') (first | exact ST | exact StS.next (r := ⟨t, x, q, f, s⟩) (by assumption) (by assumption) | go_keep) ((first | (go_at_call 27; refine (HC.out _ (StS.gn (u := w.heap.size) (r := ⟨t, x, q, f, s⟩) (by assumption))).mono ?_; rintro e wC ⟨rfl, hbC⟩) | (go_at_call 26; refine (HI.out _).mono ?_; rintro e wI ⟨rfl, hbI⟩)))
  rename_i hH
  have d0 := hH.1
  have d1 := hH.2.1
  have d2 := hH.2.2.1
  have d3 := hH.2.2.2.1
  have d4 := hH.2.2.2.2.1
  have hbz := hH.2.2.2.2.2.2.2.2
  have HZ := Lib.hid (And.intro (H.out.1.trans (hbz.mono H.out.1.size)) (H.out.2.1.below hbz))
  clear hH hbz ST
  cases K with
  | false =>
    go_wp2_with fail
    go_ret2
    exact ⟨rfl, HZ.out.1⟩
  | true =>
    go_wp2_with fail
    refine (HWR.out wI HZ.out.2 (by trivial)).mono ?_
    rintro e wW ⟨rfl, hb⟩
    have HB := Lib.hid (HZ.out.1.trans (hb.mono HZ.out.1.size))
    clear hb
    go_wp2_with fail
    go_ret2
    exact ⟨rfl, HB.out⟩
end Go.Proofs.YtogkdekjcbljnaaDoor
