/- message: RightReq, PutReq of a request for all, and of an empty one (tools/msreqw_gen.py). -/
import Derived.Test.YtbflbgnafdbngaaDoorMsReqC
namespace Go.Proofs.YtbflbgnafdbngaaDoor
open Go.RowKit Go.Lib

/-- A box of a request and how far the call got. -/
def ReqS (w : World) (u : Nat) (k : Int) (S : Value) (b : Addr) (w' : World) : Prop := w'.cell? ⟨u, 0, none⟩ = some (.int .i64 k) ∧ w'.cell? ⟨u, 1, none⟩ = some (.bool false) ∧ w'.cell? ⟨u, 2, none⟩ = some (.int .u64 0) ∧ w'.cell? ⟨u, 3, none⟩ = some (S) ∧ w'.cell? ⟨u, 4, none⟩ = some (.slice none 0 0) ∧ w'.cell? ⟨u, 5, none⟩ = some (.slice none 0 0) ∧ w'.cell? ⟨u, 6, none⟩ = some (.string ⟨#[]⟩) ∧ w'.cell? ⟨0, 0, none⟩ = some (.iface 149 (.pointer (some b))) ∧ u < w.heap.size ∧ 0 < w.heap.size ∧ Below w.heap.size w w'
theorem ReqS.next {w w' w'' : World} {u : Nat} {k : Int} {S : Value} {b : Addr} (h : ReqS w u k S b w') (hb : Below w'.heap.size w' w'') : ReqS w u k S b w'' := by
  obtain ⟨k0, k1, k2, k3, k4, k5, k6, k7, hu, hv, h5⟩ := h
  have hm : u < w'.heap.size := Nat.lt_of_lt_of_le hu h5.size
  have hn : 0 < w'.heap.size := Nat.lt_of_lt_of_le hv h5.size
  exact ⟨(hb.cell (p := ⟨u, _, none⟩) hm).trans k0, (hb.cell (p := ⟨u, _, none⟩) hm).trans k1, (hb.cell (p := ⟨u, _, none⟩) hm).trans k2, (hb.cell (p := ⟨u, _, none⟩) hm).trans k3, (hb.cell (p := ⟨u, _, none⟩) hm).trans k4, (hb.cell (p := ⟨u, _, none⟩) hm).trans k5, (hb.cell (p := ⟨u, _, none⟩) hm).trans k6, (hb.cell (p := ⟨0, _, none⟩) hn).trans k7, hu, hv, h5.trans (hb.mono h5.size)⟩
theorem ReqS.gn {w w' : World} {u : Nat} {k : Int} {S : Value} {b : Addr} (h : ReqS w u k S b w') : Gn b w' := ⟨h.2.2.2.2.2.2.2.1, Nat.lt_of_lt_of_le h.2.2.2.2.2.2.2.2.2.1 h.2.2.2.2.2.2.2.2.2.2.size⟩
theorem ReqS.far {w w' : World} {u : Nat} {k : Int} {S : Value} {b : Addr} (h : ReqS w u k S b w') : Below w.heap.size w w' := h.2.2.2.2.2.2.2.2.2.2
/-- The names that the request asks for: none, or * . -/
def Asks (S : Value) (w : World) : Prop := S = .slice none 0 0 ∨ ∃ B c, S = .slice (some ⟨B, 0, none⟩) 1 c ∧ StarAt w B
theorem Asks.later {S : Value} {w w' : World} (h : Asks S w) (hb : Below w.heap.size w w') : Asks S w' := by
  rcases h with h | ⟨B, c, h1, h2⟩
  · exact .inl h
  · exact .inr ⟨B, c, h1, h2.later hb⟩
theorem chkReq_both (k : Int) (S : Value) (b : Addr) (w : World) (hg : Gn b w) (h : Asks S w) : Calls Tryd.prog 46 #[.agg (rq k S)] w fun e w' => e = .returned (oV b (needO 1 (decide (1 ≤ k) && decide (k ≤ 5)))) ∧ Below w.heap.size w w' := by
  rcases h with rfl | ⟨B, c, rfl, h⟩
  · exact chkReq_nil k b w hg
  · exact chkReq_star k B c b w hg h
set_option maxRecDepth 100000 in
set_option maxHeartbeats 4000000 in
theorem rightReq_both (k : Int) (S : Value) (b : Addr) (w : World) (hn : Gn b w) (hS : Asks S w) (hS1 : S.cells = #[S]) :
    Calls Tryd.prog 23 #[.agg (rq k S)] w fun e w' => e = .returned (.bool (decide (1 ≤ k) && decide (k ≤ 5))) ∧ Below w.heap.size w w' := by
  have HC := Lib.hid (fun W hW hSW => chkReq_both k S b W hW hSW)
  have HI := Lib.hid (fun W => isE_any b (needO 1 (decide (1 ≤ k) && decide (k ≤ 5))) W (fun l h => by cases hq : (decide (1 ≤ k) && decide (k ≤ 5)) <;> rw [hq] at h <;> simp [needO] at h; subst h; simp))
  generalize (decide (1 ≤ k) && decide (k ≤ 5)) = Q at HC HI ⊢
  have hqs : (needO 1 Q).isSome = !Q := by cases Q <;> rfl
  rw [hqs] at HI
  have hc1 := oV_one b (needO 1 Q)
  generalize oV b (needO 1 Q) = V at HC HI hc1
  simp only [Value.cells] at hS1
  obtain ⟨w0, hw0, hb0, p0, -⟩ := alloc_sized w (rq k S) 41
  have hb1 : Below w0.heap.size w0 w0.drew := (Below.refl _ _).drew
  have ST : ReqS w0 w.heap.size k S b w0.drew := by
    have p := p0.later hb1
    have n := (hn.later hb0).later hb1
    exact ⟨p.cell 0, p.cell 1, p.cell 2, p.cell 3, p.cell 4, p.cell 5, p.cell 6, n.1, p0.lt, (hn.later hb0).2, hb1⟩
  have HW0 := Lib.hid hw0
  have HS := Lib.hid (hS.later hb0)
  have H := Lib.hid hb0
  clear hw0 hb0 hb1 p0 hn hqs hS
  go_enter Tryd.func23, Tryd.ntmps23
  go_wp2_with (rw [HW0.out])
  go_region_held3 (fun w' => w'.cell? ⟨w.heap.size, 0, none⟩ = some (.int .i64 k) ∧ w'.cell? ⟨w.heap.size, 1, none⟩ = some (.bool false) ∧ w'.cell? ⟨w.heap.size, 2, none⟩ = some (.int .u64 0) ∧ w'.cell? ⟨w.heap.size, 3, none⟩ = some (S) ∧ w'.cell? ⟨w.heap.size, 4, none⟩ = some (.slice none 0 0) ∧ w'.cell? ⟨w.heap.size, 5, none⟩ = some (.slice none 0 0) ∧ w'.cell? ⟨w.heap.size, 6, none⟩ = some (.string ⟨#[]⟩) ∧ w'.cell? ⟨0, 0, none⟩ = some (.iface 149 (.pointer (some b))) ∧ w.heap.size < w0.heap.size ∧ 0 < w0.heap.size ∧ Below w0.heap.size w0 w') (first | exact ST | exact ReqS.next (k := k) (S := S) (by assumption) (by assumption) | go_keep) ((first | (go_at_call 46; refine (HC.out _ (ReqS.gn (u := w.heap.size) (k := k) (S := S) (by assumption)) (HS.out.later (ReqS.far (u := w.heap.size) (k := k) (S := S) (b := b) (by assumption)))).mono ?_; rintro e wC ⟨rfl, hbC⟩) | (go_at_call 15; refine (HI.out _).mono ?_; rintro e wI ⟨rfl, hbI⟩)))
  rename_i hH
  have HB := Lib.hid (H.out.trans (hH.2.2.2.2.2.2.2.2.2.2.mono H.out.size))
  clear hH ST
  go_wp2_with fail
  go_ret
  exact ⟨by simp, HB.out⟩
end Go.Proofs.YtbflbgnafdbngaaDoor
