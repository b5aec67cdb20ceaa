/- timer: lists of timers by number; plain. -/
import Derived.Test.YtjcocgadhdgbjaaTmFull
import Derived.Test.YtjcocgadhdgbjaaTmOpen
namespace Go.Proofs.Ytjcocgadhdgbjaa
open Go.RowKit

def idB (j : Nat) : List UInt8 := [UInt8.ofNat (97 + j)]
theorem idB_inj {i j : Nat} (hi : i < 100) (hj : j < 100) (h : idB i = idB j) : i = j := by
  simp only [idB, List.cons.injEq, and_true] at h
  have h1 := congrArg UInt8.toNat h
  simp at h1
  omega
/-- The first k of the times ts, each by its number. -/
def tml (ts : List Nat) (k : Nat) : List Tm := (List.range k).map fun j => (idB j, ts.getD j 0)
theorem tml_len (ts : List Nat) (k : Nat) : (tml ts k).length = k := by simp [tml]
theorem tml_succ (ts : List Nat) (k : Nat) : tml ts k ++ [(idB k, ts.getD k 0)] = tml ts (k + 1) := by simp [tml, List.range_succ]
theorem tml_mem {ts : List Nat} {k : Nat} {x : Tm} (h : x ∈ tml ts k) : ∃ j, j < k ∧ x = (idB j, ts.getD j 0) := by
  obtain ⟨j, hj, rfl⟩ := List.mem_map.1 h
  exact ⟨j, List.mem_range.1 hj, rfl⟩
theorem tml_in {ts : List Nat} {k j : Nat} (h : j < k) : (idB j, ts.getD j 0) ∈ tml ts k := List.mem_map.2 ⟨j, List.mem_range.2 h, rfl⟩
theorem tml_next {ts : List Nat} {k : Nat} (h : k < 100) : dropL (tml ts k) (idB k) = tml ts k := dropL_id fun x hx e => by
  obtain ⟨j, hj, rfl⟩ := tml_mem hx
  have := idB_inj (by omega) h e
  omega
theorem nd_drop {L : List Tm} (h : (L.map (·.1)).Nodup) (id : List UInt8) : ((dropL L id).map (·.1)).Nodup := by
  unfold dropL
  exact h.sublist (List.filter_sublist.map _)
/-- What falls due, and what is left: all. -/
theorem dueL_len (now : Nat) : ∀ (n : Nat) (L : List Tm), L.length ≤ n → (L.map (·.1)).Nodup → (dueL now L).1.length + (dueL now L).2.length = L.length ∧ ∀ x ∈ (dueL now L).2, x ∈ L := by
  intro n
  induction n with
  | zero =>
    intro L hl _
    obtain rfl : L = [] := List.eq_nil_of_length_eq_zero (by omega)
    exact ⟨rfl, fun x hx => hx⟩
  | succ n ih =>
    intro L hl hn
    cases hx : nextL L with
    | none => rw [dueL_none hx]; exact ⟨by simp, fun x hx => hx⟩
    | some x =>
      by_cases hle : x.2 ≤ now
      · rw [dueL_go hx hle]
        have hm := nextL_mem hx
        have h1 := dropL_len hn hm
        obtain ⟨h2, h3⟩ := ih (dropL L x.1) (by omega) (nd_drop hn _)
        refine ⟨?_, fun y hy => drop_sub (h3 y hy)⟩
        show ((dueL now (dropL L x.1)).1.length + 1) + (dueL now (dropL L x.1)).2.length = L.length
        omega
      · rw [dueL_stop hx hle]; exact ⟨by simp, fun x hx => hx⟩
theorem byte_conv {k d : Nat} (hd : 97 + k = d) (hk : k < 100) (W : World) : (convert 46 9 (.slice (some ⟨W.heap.size, 0, none⟩) 1 1)).run Try.prog (W.alloc (.cells #[.int .u8 (d : Int)] 5)) = .ok (.string ⟨#[UInt8.ofNat (97 + k)]⟩) (W.alloc (.cells #[.int .u8 (d : Int)] 5)) := by
  have du : (UInt8.ofNat (97 + k)).toNat = d := by simp; omega
  exact bytes_conv (l := [UInt8.ofNat (97 + k)]) (c := 1) (by simp only [List.map_cons, List.map_nil, du]) (Blk.new W _ _)
theorem byte_convd {k d : Nat} (hd : 97 + k = d) (hk : k < 100) (W : World) : (convert 46 9 (.slice (some ⟨W.heap.size, 0, none⟩) 1 1)).run Try.prog (W.alloc (.cells #[.int .u8 (d : Int)] 5)).drew = .ok (.string ⟨#[UInt8.ofNat (97 + k)]⟩) (W.alloc (.cells #[.int .u8 (d : Int)] 5)).drew := by
  have du : (UInt8.ofNat (97 + k)).toNat = d := by simp; omega
  exact bytes_conv (l := [UInt8.ofNat (97 + k)]) (c := 1) (by simp only [List.map_cons, List.map_nil, du]) (W := (W.alloc (.cells #[.int .u8 (d : Int)] 5)).drew) (Blk.new W _ _)
theorem TmAt.idlen {base t N : Nat} {F : Nat → Prop} {L : List Tm} {w : World} (h : TmAt base t F N L w) {x : Tm} (hx : x ∈ L) : x.1.length ≤ 64 := by
  obtain ⟨p, m, v, hh, T, LE, hb, hq, hperm, rfl, _⟩ := h
  obtain ⟨e, he, rfl⟩ := List.mem_map.1 hx
  exact hq.ids.2 e (hperm.mem_iff.2 he)
def idS (k : Nat) : ByteArray := ⟨#[UInt8.ofNat (97 + k)]⟩
theorem byte_cv {k d : Nat} (hd : 97 + k = d) (hk : k < 100) : ∃ Z : ByteArray, Z = idS k ∧ (∀ W : World, (convert 46 9 (.slice (some ⟨W.heap.size, 0, none⟩) 1 1)).run Try.prog (W.alloc (.cells #[.int .u8 (d : Int)] 5)) = .ok (.string Z) (W.alloc (.cells #[.int .u8 (d : Int)] 5))) ∧
    ∀ W : World, (convert 46 9 (.slice (some ⟨W.heap.size, 0, none⟩) 1 1)).run Try.prog (W.alloc (.cells #[.int .u8 (d : Int)] 5)).drew = .ok (.string Z) (W.alloc (.cells #[.int .u8 (d : Int)] 5)).drew := ⟨_, rfl, byte_conv hd hk, byte_convd hd hk⟩
/-- Set of the next one. -/
theorem set_tml (base t k : Nat) (F : Nat → Prop) (ts : List Nat) (x : Int) (Z : ByteArray) (hZ : Z = idS k) (w : World) (hq : TmAt base t F k (tml ts k) w) (hx : x = ((ts.getD k 0 : Nat) : Int)) (hk : k < 100) (hbase : base ≤ w.heap.size) :
    Calls Try.prog 17 #[.pointer (some ⟨t, 0, none⟩), .string Z, .int .u64 x] w (TmPost base t F (k + 1) (tml ts (k + 1)) (.int .i64 0) w) := by
  subst hZ
  exact set_in base t k F (tml ts k) (tml ts (k + 1)) (idS k) x (ts.getD k 0) w hq (by show 0 < 1; decide) (by show 1 ≤ 64; decide) hx (by show (dropL (tml ts k) (idB k)).length < 1024; rw [tml_next hk, tml_len]; omega) (by show dropL (tml ts k) (idB k) ++ [(idB k, ts.getD k 0)] = _; rw [tml_next hk, tml_succ]) (by omega) hbase
end Go.Proofs.Ytjcocgadhdgbjaa
