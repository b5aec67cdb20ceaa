/- merge: what Keys says (no program). -/
import Derived.Test.YtfolgcgkikkihaaDoorMgAgP
namespace Go.Proofs.YtfolgcgkikkihaaDoor
open Go.RowKit Go.Lib

section
variable {X Y Z : Ns}
noncomputable abbrev cW1 (X : Ns) : Wants := wset W0 1 2 X
noncomputable abbrev cW2 (X Y : Ns) : Wants := wset (cW1 X) 2 2 Y
noncomputable abbrev cW3 (X Y Z : Ns) : Wants := wset (cW2 X Y) 3 2 Z
theorem cw1_ok (hx : FewS X) : WOk (cW1 X) := wset_ok w0_ok hx.r (by decide)
theorem cw2_ok (hx : FewS X) (hy : FewS Y) : WOk (cW2 X Y) := wset_ok (cw1_ok hx) hy.r (by decide)
theorem cw3_ok (hx : FewS X) (hy : FewS Y) (hz : FewS Z) : WOk (cW3 X Y Z) := wset_ok (cw2_ok hx hy) hz.r (by decide)
theorem cw2_u (hx : FewS X) (hy : FewS Y) : uni (cW2 X Y) 2 = nUnion [X, Y] := by
  rw [uni_more (cw1_ok hx) hy.r (by decide) (wset_id (by decide)), uni_one w0_ok hx.r (by decide) (fun _ _ => rfl)]
theorem few3_r (hx : FewS X) (hy : FewS Y) (hz : FewS Z) : ∀ s ∈ [X, Y, Z], NsR s := fun s hs => by
  rcases List.mem_cons.1 hs with rfl | hs
  · exact hx.r
  · rcases List.mem_cons.1 hs with rfl | hs
    · exact hy.r
    · rcases List.mem_cons.1 hs with rfl | hs
      · exact hz.r
      · cases hs
theorem cw3_u (hx : FewS X) (hy : FewS Y) (hz : FewS Z) : uni (cW3 X Y Z) 2 = nUnion [X, Y, Z] := by
  rw [uni_more (cw2_ok hx hy) hz.r (by decide) ((wset_id (by decide)).trans (wset_id (by decide))), cw2_u hx hy]
  refine ns_ext (nsr_union fun s hs => ?_) (nsr_union (few3_r hx hy hz)) fun x => ?_
  · rcases List.mem_cons.1 hs with rfl | hs
    · exact (mid_union hx hy).r
    · rcases List.mem_cons.1 hs with rfl | hs
      · exact hz.r
      · cases hs
  · rw [mem_unionL, mem_unionL]
    simp only [List.mem_cons, List.not_mem_nil, or_false, exists_eq_or_imp, exists_eq_left, mem_unionL, or_assoc]
theorem mid_union3 (hx : FewS X) (hy : FewS Y) (hz : FewS Z) : MidS (nUnion [X, Y, Z]) ∧ (nList (nUnion [X, Y, Z])).length ≤ 64 := by
  have hl : (nList (nUnion [X, Y, Z])).length ≤ 64 := by
    refine Nat.le_trans (union_len _) ?_
    simp only [List.flatMap_cons, List.flatMap_nil, List.length_append, List.length_nil]
    have := hx.n; have := hy.n; have := hz.n
    omega
  refine ⟨⟨nsr_union (few3_r hx hy hz), Nat.le_trans (list_ns _) hl, fun x h => ?_⟩, hl⟩
  have h' : x ∈ srt ([X, Y, Z].flatMap (·.ns)) := h
  rw [srt_mem, List.mem_flatMap] at h'
  obtain ⟨s, hs, g⟩ := h'
  rcases List.mem_cons.1 hs with rfl | hs
  · exact hx.l x g
  · rcases List.mem_cons.1 hs with rfl | hs
    · exact hy.l x g
    · rcases List.mem_cons.1 hs with rfl | hs
      · exact hz.l x g
      · cases hs
theorem cw1_set (hx : FewS X) : setE W0 1 2 X = 0 ∧ setW W0 1 2 X = cW1 X := by
  have hu : uni (cW1 X) 2 = X := uni_one w0_ok hx.r (by decide) (fun _ _ => rfl)
  obtain ⟨h1, h2, _⟩ := setE_ok (W := W0) (i := 1) (k := 2) (s := X) (by decide) (by have := hx.len; omega) (by rw [hu]; have := hx.len; omega)
  exact ⟨h1, h2⟩
theorem cw2_set (hx : FewS X) (hy : FewS Y) : setE (cW1 X) 2 2 Y = 0 ∧ setW (cW1 X) 2 2 Y = cW2 X Y := by
  obtain ⟨h1, h2, _⟩ := setE_ok (W := cW1 X) (i := 2) (k := 2) (s := Y) (by decide) (by have := hy.len; omega) (by rw [cw2_u hx hy]; exact few_union hx hy)
  exact ⟨h1, h2⟩
theorem cw3_set (hx : FewS X) (hy : FewS Y) (hz : FewS Z) : setE (cW2 X Y) 3 2 Z = 0 ∧ setW (cW2 X Y) 3 2 Z = cW3 X Y Z := by
  obtain ⟨h1, h2, _⟩ := setE_ok (W := cW2 X Y) (i := 3) (k := 2) (s := Z) (by decide) (by have := hz.len; omega) (by rw [cw3_u hx hy hz]; exact (mid_union3 hx hy hz).2)
  exact ⟨h1, h2⟩
def hitN (s : Ns) (x : List UInt8) : Nat := (nList s).countP (· == x)
theorem hit_of {s : Ns} (h : NsR s) (x : List UInt8) : hitN s x = if (nList s).contains x then 1 else 0 := by
  unfold hitN
  have hn := list_nodup h
  generalize nList s = l at hn
  induction l with
  | nil => rfl
  | cons a l ih =>
    obtain ⟨h1, h2⟩ := List.nodup_cons.1 hn
    rw [List.countP_cons, ih h2, List.contains_cons]
    by_cases e : a = x
    · subst e
      have : l.contains a = false := by
        cases hc : l.contains a with
        | false => rfl
        | true => exact absurd (List.contains_iff_mem.1 hc) h1
      rw [this]
      simp
    · have e1 : (a == x) = false := by simpa using e
      have e2 : (x == a) = false := by simpa using fun h => e h.symm
      rw [e1, e2]
      simp
theorem hit_le {s : Ns} (h : NsR s) (x : List UInt8) : hitN s x ≤ 1 := by rw [hit_of h]; split <;> omega
theorem cw3_cnt (hx : FewS X) (hy : FewS Y) (hz : FewS Z) (x : List UInt8) : cnt (cW3 X Y Z) 2 x = hitN X x + hitN Y x + hitN Z x := by
  have h1 := cnt_set (W := W0) (i := 1) (k := 2) (s := X) (by decide) x
  have h2 := cnt_set (W := cW1 X) (i := 2) (k := 2) (s := Y) (by decide) x
  have h3 := cnt_set (W := cW2 X Y) (i := 3) (k := 2) (s := Z) (by decide) x
  rw [cnt_zero] at h1
  rw [show cW1 X 2 2 = Ns.zero from wset_id (by decide)] at h2
  rw [show cW2 X Y 3 2 = Ns.zero from (wset_id (by decide)).trans (wset_id (by decide))] at h3
  simp only [list_zero, List.contains_nil, Bool.false_eq_true, if_false, Nat.add_zero, Nat.zero_add] at h1 h2 h3
  rw [h3, h2, h1, hit_of hx.r, hit_of hy.r, hit_of hz.r]
theorem dg_small {n : Nat} (h : n ≤ 3) : dgT n = [UInt8.ofNat (48 + n)] := by
  match n, h with
  | 0, _ | 1, _ | 2, _ | 3, _ => rfl
  | n + 4, h => omega
theorem cw3_key (hx : FewS X) (hy : FewS Y) (hz : FewS Z) (x : List UInt8) : keyT (cW3 X Y Z) 2 x = x ++ [32, UInt8.ofNat (48 + (hitN X x + hitN Y x + hitN Z x))] := by
  unfold keyT
  rw [cw3_cnt hx hy hz, dg_small (by have := hit_le hx.r x; have := hit_le hy.r x; have := hit_le hz.r x; omega), List.append_assoc]
  rfl
theorem uni_far {k : Int} (hk : k ≠ 2) : uni (cW3 X Y Z) k = Ns.zero := by rw [uni_kind hk, uni_kind hk, uni_kind hk, uni_zero]
theorem key_none {k : Int} (hk : k ≠ 2) : keyL (cW3 X Y Z) k = [] := by unfold keyL; rw [uni_far hk]; rfl
theorem mk_sets3 {w : World} {B n1 c1 n2 c2 n3 c3 : Nat} {a1 a2 a3 : Option Addr} {t : TypeId} {b1 b2 b3 : Bool} {l1 l2 l3 : List (List UInt8)} (hb : Blk w B #[.bool b1, .slice a1 n1 c1, .bool b2, .slice a2 n2 c2, .bool b3, .slice a3 n3 c3] t) (h1 : TsAt w (.slice a1 n1 c1) l1) (hn1 : l1.length = n1) (h2 : TsAt w (.slice a2 n2 c2) l2) (hn2 : l2.length = n2) (h3 : TsAt w (.slice a3 n3 c3) l3) (hn3 : l3.length = n3) : SetsAt w (some ⟨B, 0, none⟩) [⟨b1, l1⟩, ⟨b2, l2⟩, ⟨b3, l3⟩] := by
  subst hn1; subst hn2; subst hn3
  intro i s hi
  match i with
  | 0 =>
    obtain rfl := Option.some.inj hi
    exact ⟨B, 0, a1, c1, rfl, hb.lt, hb.cell 0, hb.cell 1, h1⟩
  | 1 =>
    obtain rfl := Option.some.inj hi
    exact ⟨B, 0, a2, c2, rfl, hb.lt, hb.cell 2, hb.cell 3, h2⟩
  | 2 =>
    obtain rfl := Option.some.inj hi
    exact ⟨B, 0, a3, c3, rfl, hb.lt, hb.cell 4, hb.cell 5, h3⟩
  | i + 3 => simp at hi
theorem mk_fit3 (hx : FewS X) (hy : FewS Y) (hz : FewS Z) : NssFit [X, Y, Z] := ⟨fun s hs x hx' => by
    rcases List.mem_cons.1 hs with rfl | hs
    · exact hx.fit.1 x hx'
    · rcases List.mem_cons.1 hs with rfl | hs
      · exact hy.fit.1 x hx'
      · obtain rfl := List.mem_singleton.1 hs; exact hz.fit.1 x hx', by
    simp only [List.flatMap_cons, List.flatMap_nil, List.append_nil, List.length_append]
    have := hx.n; have := hy.n; have := hz.n
    omega, by show (3 : Nat) ≤ 1000000; omega⟩
theorem hit_all {s : Ns} {L : List (List UInt8)} (h : nList s = L) (x : List UInt8) {j : Nat} (hj : L.length ≤ j) : (L.take j).countP (· == x) = hitN s x := by
  subst h; unfold hitN; rw [List.take_of_length_le hj]
theorem hit_yes {L : List (List UInt8)} {x : List UInt8} {j : Nat} (hj : j < L.length) (h : L[j] = x) : (L.take (j + 1)).countP (· == x) = (L.take j).countP (· == x) + 1 := by
  rw [List.take_add_one, List.getElem?_eq_getElem hj, List.countP_append, h]
  simp
theorem hit_no {L : List (List UInt8)} {x : List UInt8} {j : Nat} (hj : j < L.length) (h : ¬ L[j] = x) : (L.take (j + 1)).countP (· == x) = (L.take j).countP (· == x) := by
  rw [List.take_add_one, List.getElem?_eq_getElem hj, List.countP_append]
  simp [h]
theorem ts_cell {w : World} {a : Option Addr} {c n : Nat} {L : List (List UInt8)} (h : TsAt w (.slice a n c) L) {j : Nat} (hj : j < L.length) : ∃ b off, a = some ⟨b, off, none⟩ ∧ w.cell? ⟨b, off + j, none⟩ = some (.string ⟨L[j].toArray⟩) := by
  obtain ⟨a', c', e, _, _, h3⟩ := h.out
  injection e with e1 e2 e3
  subst e1
  obtain ⟨b, off, e, _, h0⟩ := h3 j hj
  exact ⟨b, off, e, h0⟩
theorem mid_len {s : Ns} (h : MidS s) {x : List UInt8} (hx : x ∈ nList s) : x.length ≤ 64 := by
  rcases (mem_list s x).1 hx with ⟨_, rfl⟩ | hx
  · decide
  · exact h.l x hx
theorem byteD {j : Nat} (hj : j ≤ 3) : (UInt8.ofNat (48 + j)).toNat = 48 + j := by
  match j, hj with
  | 0, _ | 1, _ | 2, _ | 3, _ => rfl
  | j + 4, h => omega
theorem cat_two {x : List UInt8} {u : UInt8} : (({ data := x.toArray } : ByteArray) ++ { data := #[u] }) = { data := (x ++ [u]).toArray } := by
  apply ByteArray.ext; simp
end
end Go.Proofs.YtfolgcgkikkihaaDoor
