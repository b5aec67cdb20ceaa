/- timer: TimerFull walked. -/
import Derived.Test.YtjcocgadhdgbjaaTmEx
namespace Go.Proofs.Ytjcocgadhdgbjaa
open Go.RowKit

theorem bytes_conv {g c : Nat} {cs : Array Value} {l : List UInt8} {W : World} (hc : cs.toList = l.map fun x => Value.int .u8 (x.toNat : Int)) (hg : Blk W g cs 5) :
    (convert 46 9 (.slice (some ⟨g, 0, none⟩) l.length c)).run Try.prog W = .ok (.string ⟨l.toArray⟩) W := by
  refine run_convert_bytes_back W _ _ 5 ⟨g, 0, none⟩ c l Try.underlying46 Try.underlying5 Try.underlying9 fun j hj => ?_
  have e : (⟨g, 0, none⟩ : Addr).add j = ⟨g, j, none⟩ := by unfold Addr.add; split <;> simp_all
  rw [e, hg.cell j, ← Array.getElem?_toList, hc, List.getElem?_map, List.getElem?_eq_getElem hj]; rfl
theorem TmAt.nodup {base t N : Nat} {F : Nat → Prop} {L : List Tm} {w : World} (h : TmAt base t F N L w) : (L.map (·.1)).Nodup := by
  obtain ⟨p, m, v, hh, T, LE, hb, hq, hperm, rfl, _⟩ := h
  have := (hperm.map En.id).nodup_iff.1 hq.ids.1
  rw [List.map_map]; exact this
theorem dropL_id {L : List Tm} {id : List UInt8} (h : ∀ x ∈ L, x.1 ≠ id) : dropL L id = L := by
  unfold dropL
  exact List.filter_eq_self.2 fun x hx => by simpa using h x hx
theorem atL_id {L : List Tm} {id : List UInt8} (h : ∀ x ∈ L, x.1 ≠ id) : atL L id = none := by
  unfold atL
  rw [List.find?_eq_none.2 (fun x hx => by simpa using h x hx)]; rfl
theorem atL_in {L : List Tm} {x : Tm} (hn : (L.map (·.1)).Nodup) (hx : x ∈ L) : atL L x.1 = some x.2 := by
  unfold atL
  induction L with
  | nil => simp at hx
  | cons a r ih =>
    rw [List.map_cons, List.nodup_cons] at hn
    rw [List.find?_cons]
    by_cases e : a.1 = x.1
    · rcases List.mem_cons.1 hx with rfl | h
      · simp
      · exact absurd (List.mem_map.2 ⟨x, h, e.symm⟩) hn.1
    · have hb : (a.1 == x.1) = false := by simpa using e
      rw [hb]
      rcases List.mem_cons.1 hx with rfl | h
      · exact absurd rfl e
      · exact ih hn.2 h
theorem dropL_len {L : List Tm} {x : Tm} (hn : (L.map (·.1)).Nodup) (hx : x ∈ L) : (dropL L x.1).length + 1 = L.length := by
  induction L with
  | nil => simp at hx
  | cons a r ih =>
    rw [List.map_cons, List.nodup_cons] at hn
    by_cases e : a.1 = x.1
    · have hr : dropL r x.1 = r := dropL_id fun y hy ey => hn.1 (List.mem_map.2 ⟨y, hy, ey.trans e.symm⟩)
      have : dropL (a :: r) x.1 = dropL r x.1 := by unfold dropL; rw [List.filter_cons, if_neg (by simp [e])]
      rw [this, hr]; rfl
    · have : dropL (a :: r) x.1 = a :: dropL r x.1 := by unfold dropL; rw [List.filter_cons, if_pos (by simp [e])]
      rw [this]
      rcases List.mem_cons.1 hx with rfl | h
      · exact absurd rfl e
      · have := ih hn.2 h
        rw [List.length_cons, List.length_cons]; omega
theorem mem_drop {L : List Tm} {id : List UInt8} {x : Tm} (hx : x ∈ L) (h : x.1 ≠ id) : x ∈ dropL L id := by
  unfold dropL; exact List.mem_filter.2 ⟨hx, by simpa using h⟩
theorem drop_sub {L : List Tm} {id : List UInt8} {x : Tm} (h : x ∈ dropL L id) : x ∈ L := by unfold dropL at h; exact (List.mem_filter.1 h).1

def idF (j : Nat) : List UInt8 := [UInt8.ofNat (j / 32), UInt8.ofNat (48 + j % 32)]
theorem idF_inj {i j : Nat} (hi : i < 1024) (hj : j < 1024) (h : idF i = idF j) : i = j := by
  simp only [idF, List.cons.injEq, and_true] at h
  have h1 := congrArg UInt8.toNat h.1
  have h2 := congrArg UInt8.toNat h.2
  simp at h1 h2
  omega
def fullL (n : Nat) : List Tm := (List.range n).map fun j => (idF j, j)
theorem fullL_mem {n : Nat} {x : Tm} (h : x ∈ fullL n) : ∃ j, j < n ∧ x = (idF j, j) := by
  obtain ⟨j, hj, rfl⟩ := List.mem_map.1 h
  exact ⟨j, List.mem_range.1 hj, rfl⟩
theorem fullL_in {n j : Nat} (h : j < n) : (idF j, j) ∈ fullL n := List.mem_map.2 ⟨j, List.mem_range.2 h, rfl⟩
theorem fullL_len (n : Nat) : (fullL n).length = n := by simp [fullL]
theorem fullL_next {n : Nat} (h : n < 1024) : dropL (fullL n) (idF n) = fullL n := dropL_id fun x hx e => by
  obtain ⟨j, hj, rfl⟩ := fullL_mem hx
  have := idF_inj (by omega) h e
  omega
theorem fullL_succ (n : Nat) : fullL n ++ [(idF n, n)] = fullL (n + 1) := by simp [fullL, List.range_succ]

set_option maxRecDepth 100000 in
set_option maxHeartbeats 4000000 in
theorem full_walk (x0 : Int) (a : Nat) (hx : x0 = (a : Int)) (w : World) :
    Calls Try.prog 6 #[.int .u64 x0] w fun e w' => e = .returned (.bool true) ∧ Below w.heap.size w w' := by
  have HXA := Lib.hid hx
  clear hx
  go_enter Try.func6, Try.ntmps6
  go_wp2_with fail
  refine (examples_any w).mono ?_
  rintro e w0 ⟨rfl, hb0⟩
  go_wp2_with fail
  refine (new_any w0).mono ?_
  rintro e w1 ⟨t, F, rfl, q1, _, hb1⟩
  have HS : Below w.heap.size w w1 := hb0.trans (hb1.mono hb0.size)
  go_wp2
  go_loopw [5] (fun iv wr => ∃ k : Nat, iv = .int .i64 (k : Int) ∧ k ≤ 1024 ∧ ∃ F, TmAt w0.heap.size t F k (fullL k) wr ∧ Below w.heap.size w wr) (fun iv _ => 1024 - (intOf iv).toNat)
  case atStart => exact ⟨0, rfl, by omega, F, q1, HS⟩
  case round =>
    obtain ⟨k, rfl, hk, F', q, hb⟩ := hrel
    have h0s : w0.heap.size ≤ wr.heap.size := by
      obtain ⟨_, _, _, _, _, _, hbk, _, _, _, _, _, _, _, hbt, _⟩ := q
      have := hbk.lt; omega
    have hBs : w.heap.size ≤ w0.heap.size := hb0.size
    by_cases hlt : k < 1024
    · obtain ⟨c, hc⟩ : ∃ c, k / 32 = c := ⟨_, rfl⟩
      obtain ⟨d, hd⟩ : ∃ d, 48 + k % 32 = d := ⟨_, rfl⟩
      have hC : (k : Int) / 32 = (c : Int) := by omega
      have hD : 48 + (k : Int) % 32 = (d : Int) := by omega
      have cb : (c : Int) ≤ 31 := by omega
      have db : (d : Int) ≤ 79 := by omega
      have hid : idF k = [UInt8.ofNat c, UInt8.ofNat d] := by rw [idF, hc, hd]
      have cu : (UInt8.ofNat c).toNat = c := by simp; omega
      have du : (UInt8.ofNat d).toNat = d := by simp; omega
      have hcv : ∀ W : World, (convert 46 9 (.slice (some ⟨W.heap.size, 0, none⟩) 2 2)).run Try.prog (W.alloc (.cells #[.int .u8 (c : Int), .int .u8 (d : Int)] 5)) = .ok (.string ⟨#[UInt8.ofNat c, UInt8.ofNat d]⟩) (W.alloc (.cells #[.int .u8 (c : Int), .int .u8 (d : Int)] 5)) := fun W =>
        bytes_conv (l := [UInt8.ofNat c, UInt8.ofNat d]) (c := 2) (by simp only [List.map_cons, List.map_nil, cu, du]) (Blk.new W _ _)
      have HX := Lib.hid (And.intro (And.intro q hb) (And.intro hid (And.intro (And.intro hc hd) h0s)))
      clear q hb hid hc hd h0s
      go_wp2_with fail
      have hbA : Below wr.heap.size wr (wr.alloc (.cells #[.int .u8 (c : Int), .int .u8 (d : Int)] 5)) := (Below.refl _ _).alloc (Nat.le_refl _) _
      refine (set_in _ t k F' (fullL k) (fullL (k + 1)) ⟨#[UInt8.ofNat c, UInt8.ofNat d]⟩ _ k _ (HX.out.1.1.below hbA) (by show 0 < 2; decide) (by show 2 ≤ 64; decide) rfl (by show (dropL (fullL k) [UInt8.ofNat c, UInt8.ofNat d]).length < 1024; rw [← HX.out.2.1, fullL_next hlt, fullL_len]; exact hlt) (by show dropL (fullL k) [UInt8.ofNat c, UInt8.ofNat d] ++ [([UInt8.ofNat c, UInt8.ofNat d], k)] = _; rw [← HX.out.2.1, fullL_next hlt, fullL_succ]) (by omega) (Nat.le_trans HX.out.2.2.2 hbA.size)).mono ?_
      rintro e w2 ⟨F2, rfl, q2, k2, f2⟩
      go_wp2
      go_roundw
      case rel => exact ⟨k + 1, by go_num, by omega, F2, q2, HX.out.1.2.trans ((hbA.mono (Nat.le_trans hBs HX.out.2.2.2)).trans ((((HX.out.1.1.below hbA).under k2 (Nat.le_trans HX.out.2.2.2 hbA.size)).mono hBs)))⟩
      case measure => simp [intOf]; omega
    · obtain rfl : k = 1024 := by omega
      have hx := HXA.out
      obtain ⟨L1, hL1⟩ : ∃ L1, dropL (fullL 1024) (idF 96) ++ [(idF 96, a)] = L1 := ⟨_, rfl⟩
      obtain ⟨L2, hL2⟩ : ∃ L2, dropL L1 (idF 0) = L2 := ⟨_, rfl⟩
      have hn0 := q.nodup
      have hlen1 : L1.length = 1024 := by
        have : (dropL (fullL 1024) (idF 96)).length + 1 = (fullL 1024).length := dropL_len hn0 (fullL_in (n := 1024) (j := 96) (by decide))
        rw [fullL_len] at this
        rw [← hL1, List.length_append, List.length_singleton]; exact this
      have hin0 : (idF 0, 0) ∈ L1 := by
        rw [← hL1]
        refine List.mem_append_left _ (mem_drop (fullL_in (by decide)) (by decide))
      have hnew1 : ∀ x ∈ L1, x.1 ≠ [110, 101, 119] := by
        intro x hx
        rw [← hL1] at hx
        rcases List.mem_append.1 hx with hx | hx
        · obtain ⟨j, _, rfl⟩ := fullL_mem (drop_sub hx)
          simp [idF]
        · simp at hx; subst hx; show idF 96 ≠ _; decide
      have hnew0 : ∀ x ∈ fullL 1024, x.1 ≠ [110, 101, 119] := by
        intro x hx
        obtain ⟨j, _, rfl⟩ := fullL_mem hx
        simp [idF]
      have hnew2 : ∀ x ∈ L2, x.1 ≠ [110, 101, 119] := fun x hx => hnew1 x (drop_sub (by rw [hL2]; exact hx))
      have hroom1 : (dropL (fullL 1024) (idF 96)).length < 1024 := by
        have : (dropL (fullL 1024) (idF 96)).length + 1 = (fullL 1024).length := dropL_len hn0 (fullL_in (n := 1024) (j := 96) (by decide))
        rw [fullL_len] at this; omega
      have hfl := fullL_len 1024
      generalize fullL 1024 = L0 at *
      have HX := Lib.hid (And.intro (And.intro q (And.intro hb h0s)) (And.intro (And.intro hL1 (And.intro hL2 hlen1)) (And.intro (And.intro hin0 hnew1) (And.intro (And.intro hnew0 hnew2) (And.intro hroom1 hfl)))))
      clear q hb h0s hL1 hL2 hlen1 hin0 hnew1 hnew0 hnew2 hroom1 hn0 hfl
      subst hx
      go_wp2_with fail
      refine (set_full _ t _ F' L0 ⟨#[110, 101, 119]⟩ a wr HX.out.1.1 (by decide) (by decide) HX.out.2.2.2.2.2 (atL_id HX.out.2.2.2.1.1)).mono ?_
      rintro e w2 ⟨F2, rfl, q2, k2, f2⟩
      have hs2 : w0.heap.size ≤ w2.heap.size := Nat.le_trans HX.out.1.2.2 k2.size
      have hB2 := HX.out.1.2.1.trans ((HX.out.1.1.under k2 HX.out.1.2.2).mono hBs)
      go_wp2_with fail
      refine (set_in _ t _ F2 L0 L1 ⟨#[3, 48]⟩ _ a w2 q2 (by decide) (by decide) rfl HX.out.2.2.2.2.1 HX.out.2.1.1 (by decide) hs2).mono ?_
      rintro e w3 ⟨F3, rfl, q3, k3, f3⟩
      have hs3 : w0.heap.size ≤ w3.heap.size := Nat.le_trans hs2 k3.size
      have hB3 := hB2.trans ((q2.under k3 hs2).mono hBs)
      go_wp2_with fail
      refine (stop_any _ t _ F3 L1 ⟨#[0, 48]⟩ w3 q3 (by decide)).mono ?_
      rintro e w4 ⟨rfl, q4, k4⟩
      have hs4 : w0.heap.size ≤ w4.heap.size := Nat.le_trans hs3 k4.size
      have hB4 := hB3.trans ((q3.under k4 hs3).mono hBs)
      have hat0 : atL L1 (⟨#[0, 48]⟩ : ByteArray).data.toList = some 0 := atL_in q3.nodup HX.out.2.2.1.1
      have hl2 : (dropL L1 (idF 0)).length + 1 = L1.length := dropL_len q3.nodup HX.out.2.2.1.1
      rw [HX.out.2.1.2.2] at hl2
      have hq4 : TmAt w0.heap.size t F3 (1024 + 1) L2 w4 := by rw [← HX.out.2.1.2.1]; exact q4
      have hl2' : L2.length = 1023 := by rw [← HX.out.2.1.2.1]; omega
      rw [hat0]
      clear q4 hat0 hl2
      have HY := Lib.hid (And.intro hl2' (dropL_id (L := L2) (id := [110, 101, 119]) HX.out.2.2.2.1.2))
      clear hl2'
      go_wp2_with fail
      refine (set_in _ t _ F3 L2 (L2 ++ [([110, 101, 119], a)]) ⟨#[110, 101, 119]⟩ _ a w4 hq4 (by decide) (by decide) rfl (by show (dropL L2 [110, 101, 119]).length < 1024; rw [HY.out.2, HY.out.1]; decide) (by show dropL L2 [110, 101, 119] ++ _ = _; rw [HY.out.2]) (by decide) hs4).mono ?_
      rintro e w5 ⟨F5, rfl, q5, k5, f5⟩
      have hs5 : w0.heap.size ≤ w5.heap.size := Nat.le_trans hs4 k5.size
      have hB5 := hB4.trans ((hq4.under k5 hs4).mono hBs)
      have hat : atL (L2 ++ [([110, 101, 119], a)]) (⟨#[110, 101, 119]⟩ : ByteArray).data.toList = some a := atL_in (x := ([110, 101, 119], a)) q5.nodup (by simp)
      have hat' := at_any _ t _ F5 _ ⟨#[110, 101, 119]⟩ w5 q5 (by decide)
      rw [hat] at hat'
      have hl5 : (L2 ++ [(([110, 101, 119] : List UInt8), a)]).length = 1024 := by rw [List.length_append, HY.out.1]; rfl
      generalize L2 ++ [([110, 101, 119], a)] = L5 at *
      have HZ := Lib.hid (And.intro hat' hl5)
      clear hat hat' hl5
      go_wp2_with fail
      refine HZ.out.1.mono ?_
      rintro e w6 ⟨rfl, hb6⟩
      go_wp2_with fail
      refine (len_any _ t _ F5 L5 w6 (q5.below hb6)).mono ?_
      rintro e w' ⟨rfl, rfl⟩
      rw [HZ.out.2]
      go_wp2
      go_ret
      exact ⟨rfl, hB5.trans (hb6.mono (Nat.le_trans hBs hs5))⟩
end Go.Proofs.Ytjcocgadhdgbjaa
