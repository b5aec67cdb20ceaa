/- ledger: each call, of a Ledger wherever it lies; plain facts on what they leave. -/
import Derived.Test.YtdaelapamkmcaaaDoorLdNote
import Derived.Test.YtdaelapamkmcaaaDoorLdMarks
namespace Go.Proofs.YtdaelapamkmcaaaDoor
open Go.RowKit Go.Lib

theorem LdIs.hB {base l : Nat} {ms : List Mk} {w : World} (h : LdIs base l ms w) : base ≤ w.heap.size := by
  obtain ⟨_, v, h2⟩ := h
  exact h2.hB
theorem new_is (w : World) : Calls Tryd.prog 5 #[] w fun e w' => ∃ l, e = .returned (.pointer (some ⟨l, 0, none⟩)) ∧ LdIs w.heap.size l [] w' ∧ Below w.heap.size w w' :=
  (new_any w).mono fun _ _ ⟨l, h1, h2, h3⟩ => ⟨l, h1, ⟨⟨List.Pairwise.nil, Nat.zero_le _, fun m hm => by cases hm⟩, _, h2⟩, h3⟩
theorem begin_is (base l : Nat) (t : Int) (x : ByteArray) (q : Nat) (ms : List Mk) (w : World) (h : LdIs base l ms w) (hq : q < 2 ^ 64) :
    Calls Tryd.prog 11 #[.pointer (some ⟨l, 0, none⟩), .agg #[.int .i64 t, .string x], .int .u64 (q : Int)] w fun e w' => e = .returned (.int .i64 (begE t x q ms)) ∧ LdIs base l (begM t x q ms) w' ∧ Kept base w w' := by
  obtain ⟨h1, v, h2⟩ := h
  exact (begin_any base l v t x q ms w h2 h1).mono fun _ _ ⟨e1, e2, e3⟩ => ⟨e1, ⟨begM_ok h1 hq, e2⟩, e3⟩
theorem note_is (g b : Addr) (base l : Nat) (r : St) (ms : List Mk) (w : World) (hg : Gv g w) (hn : Gn b w) (hq : r.q < 2 ^ 64) (h : LdIs base l ms w) :
    Calls Tryd.prog 7 #[.pointer (some ⟨l, 0, none⟩), .agg #[.int .i64 r.t, .string r.x, .int .u64 (r.q : Int), .bool r.f, .string r.s]] w fun e w' => e = .returned (.int .i64 (noteE r ms)) ∧ LdIs base l (noteR r ms) w' ∧ Kept base w w' := by
  obtain ⟨h1, v, h2⟩ := h
  exact (note_any g b base l v r ms w hg hn hq h2 h1).mono fun _ _ ⟨e1, e2, e3⟩ => ⟨e1, ⟨noteR_ok h1, v, e2⟩, e3⟩
theorem state_is (base l : Nat) (t : Int) (x : ByteArray) (q : Nat) (ms : List Mk) (w : World) (h : LdIs base l ms w) :
    Calls Tryd.prog 13 #[.pointer (some ⟨l, 0, none⟩), .agg #[.int .i64 t, .string x], .int .u64 (q : Int)] w fun e w' => e = .returned (.tuple #[.int .i64 (stateE t x q ms).1, .string (stateE t x q ms).2]) ∧ Below w.heap.size w w' := by
  obtain ⟨h1, v, h2⟩ := h
  exact state_any base l v t x q ms w h2 h1
theorem erase_is (base l : Nat) (ms : List Mk) (w : World) (h : LdIs base l ms w) :
    Calls Tryd.prog 9 #[.pointer (some ⟨l, 0, none⟩)] w fun e w' => e = .returned (.tuple #[]) ∧ LdIs base l (eraseM ms) w' ∧ Kept base w w' := by
  obtain ⟨h1, v, h2⟩ := h
  refine (erase_any base l v ms w h2 h1.len).mono fun _ _ ⟨e1, e2, e3⟩ => ⟨e1, ⟨⟨h1.srt.filter _, ?_, fun m hm => h1.ok m (List.mem_filter.1 hm).1⟩, e2⟩, e3⟩
  exact Nat.le_trans (List.length_filter_le _ _) h1.len
theorem marks_is (base l : Nat) (ms : List Mk) (w : World) (h : LdIs base l ms w) : Calls Tryd.prog 15 #[.pointer (some ⟨l, 0, none⟩)] w (MksPost ms w) := by
  obtain ⟨h1, v, h2⟩ := h
  obtain ⟨a, c, rfl, hrd⟩ := h2.rd
  exact marks_any l c a ms w hrd h1.ok h1.len
/-- What stands low: the sentinels, and what the law was called with. -/
theorem LdIs.gv {base l : Nat} {ms : List Mk} {w w' : World} {g : Addr} (h : LdIs base l ms w) (hg : Gv g w) (hB : 1 < base) (hk : Kept base w w') : Gv g w' := gv_kept hg hB h.hB hk
theorem LdIs.gn {base l : Nat} {ms : List Mk} {w w' : World} {b : Addr} (h : LdIs base l ms w) (hn : Gn b w) (hB : 0 < base) (hk : Kept base w w') : Gn b w' := gn_kept hn hB h.hB hk

theorem hasM_any (t : Int) (x : ByteArray) (q : Nat) (ms : List Mk) : hasM t x q ms = ms.any fun m => keyM t x m && decide (m.q = q) := by
  unfold hasM findM
  rw [List.isSome_find?]
theorem keyM_self (m : Mk) : keyM m.t m.x m = true := decide_eq_true ⟨rfl, rfl⟩
theorem keyM_iff {t : Int} {x : ByteArray} {m : Mk} : keyM t x m = true ↔ m.t = t ∧ m.x = x := by unfold keyM; rw [decide_eq_true_eq]
/-- A version that stands behind all that there is. -/
theorem beg_last {t : Int} {x : ByteArray} {q : Nat} {ms : List Mk} (hb : badK t x q = false) (hl : ms.length < 1024) (ha : ∀ m ∈ ms, 0 < ordM t x q m) : begE t x q ms = 0 ∧ begM t x q ms = ms ++ [⟨t, x, q, 1, ⟨#[]⟩⟩] := by
  have hs : staleM t x q ms = false := by
    unfold staleM
    rw [List.any_eq_false]
    intro m hm
    simp only [Bool.and_eq_true, decide_eq_true_eq, keyM_iff]
    rintro ⟨⟨h1, h2⟩, h3⟩
    have := ha m hm
    have h4 : ordM t x q m ≤ 0 := ordM_le.2 (.inr ⟨h1.symm, h2.symm, h3⟩)
    omega
  have hp : posM t x q ms = ms.length := by
    unfold posM
    rw [List.findIdx_eq_length]
    intro m hm
    have := ha m hm
    exact decide_eq_false (by omega)
  unfold begE begM
  rw [hb, hs, hp]
  refine ⟨rfl, ?_⟩
  simp only [Bool.false_eq_true, if_false]
  unfold insM fullM
  rw [List.take_length, List.drop_length, if_neg (by rw [List.length_append]; simp; omega)]
theorem ordM_gt_same {t : Int} {x : ByteArray} {q : Nat} {m : Mk} (h1 : m.t = t) (h2 : m.x = x) (h3 : m.q < q) : 0 < ordM t x q m := by
  have h : ¬ ordM t x q m ≤ 0 := by
    rw [ordM_le]
    rintro (h | h)
    · rw [h1, h2, ord_self] at h; omega
    · omega
  omega
/-- A name of one byte. -/
abbrev nm1 (b : UInt8) : ByteArray := ⟨#[b]⟩
theorem badK_one (t : Int) (b : UInt8) (q : Nat) (ht : 1 ≤ t) (ht' : t ≤ 5) (hb : nmB (b.toNat : Int) = true) (hs : b ≠ 42) (hq : 0 < q) : badK t (nm1 b) q = false := by
  have h1 : nmOk (nm1 b) = true := by
    unfold nmOk
    have h3 : ((nm1 b).data.toList.all fun x => nmB (x.toNat : Int)) = true := by
      show (nmB (b.toNat : Int) && true) = true
      rw [hb]; rfl
    rw [h3]; rfl
  have h2 : starB (nm1 b) = false := by
    unfold starB
    rw [ByteArray.toList_eq]
    show ([b] == [42]) = false
    rw [beq_eq_false_iff_ne]
    intro e
    exact hs (by simpa using e)
  unfold badK kyOk
  rw [h1, h2, decide_eq_true ht, decide_eq_true ht']
  have : ((q : Int) == 0) = false := beq_eq_false_iff_ne.2 (by omega)
  rw [this]; rfl
/-- A status that says OK. -/
theorem stOk_one (t : Int) (b : UInt8) (q : Nat) (ht : 1 ≤ t) (ht' : t ≤ 5) (hb : nmB (b.toNat : Int) = true) : St.ok ⟨t, nm1 b, q, true, ⟨#[]⟩⟩ = decide (0 < q) := by
  have h1 : nmOk (nm1 b) = true := by
    unfold nmOk
    have h3 : ((nm1 b).data.toList.all fun x => nmB (x.toNat : Int)) = true := by
      show (nmB (b.toNat : Int) && true) = true
      rw [hb]; rfl
    rw [h3]; rfl
  unfold St.ok
  dsimp only
  rw [h1, decide_eq_true ht, decide_eq_true ht']
  by_cases h : 0 < q
  · have : ((q : Int) != 0) = true := by rw [bne_iff_ne]; omega
    rw [this, decide_eq_true h]; rfl
  · have h0 : q = 0 := by omega
    subst h0; rfl
end Go.Proofs.YtdaelapamkmcaaaDoor
