/- Put: the walk. -/
import Derived.Test.YtogkdekjcbljnaaDoorField
import Derived.Test.YtogkdekjcbljnaaDoorVarint
import Derived.Deep.RegionHeld3
import Derived.Deep.RegionWith
import Derived.Deep.DeepCutAuto
namespace Go.Proofs.YtogkdekjcbljnaaDoor
open Go.RowKit

/-- A Field's bytes. -/
def putL (num kind : Int) (n : Nat) (s : ByteArray) : List UInt8 :=
  vnt (num.toNat * 8 + kind.toNat) ++ (if kind = 0 then vnt n else if kind = 2 then vnt s.size ++ s.data.toList else s.data.toList)

/-- Whose box stands at B. -/
def Bx (B : Nat) (num kind : Int) (n : Nat) (s : ByteArray) (b : Addr) (w0 w' : World) : Prop :=
  w'.cell? ⟨B, 0, none⟩ = some (.int .i64 num) ∧ w'.cell? ⟨B, 1, none⟩ = some (.int .i64 kind) ∧ w'.cell? ⟨B, 2, none⟩ = some (.int .u64 n) ∧ w'.cell? ⟨B, 3, none⟩ = some (.string s) ∧
    w'.cell? ⟨1, 0, none⟩ = some (Tryd.S b) ∧ B < w'.heap.size ∧ 1 < w'.heap.size ∧ Below B w0 w'

theorem Bx.next {B : Nat} {num kind : Int} {n : Nat} {s : ByteArray} {b : Addr} {w0 wc w' : World} (h : Bx B num kind n s b w0 wc) (hb : Below wc.heap.size wc w') : Bx B num kind n s b w0 w' := by
  obtain ⟨h0, h1, h2, h3, h4, h5, h6, h7⟩ := h
  exact ⟨(hb.cell (p := ⟨B, 0, none⟩) h5).trans h0, (hb.cell (p := ⟨B, 1, none⟩) h5).trans h1, (hb.cell (p := ⟨B, 2, none⟩) h5).trans h2, (hb.cell (p := ⟨B, 3, none⟩) h5).trans h3,
    (hb.cell (p := ⟨1, 0, none⟩) h6).trans h4, Nat.lt_of_lt_of_le h5 hb.size, Nat.lt_of_lt_of_le h6 hb.size, h7.trans (hb.mono (Nat.le_of_lt h5))⟩
theorem Bx.start {num kind : Int} {n : Nat} {s : ByteArray} {b : Addr} {w : World} (hg : Gv b w) :
    Bx w.heap.size num kind n s b w (w.alloc (.cells #[.int .i64 num, .int .i64 kind, .int .u64 n, .string s] 151)).drew := by
  have h := (Below.refl w.heap.size w).alloc (Nat.le_refl _) (.cells #[.int .i64 num, .int .i64 kind, .int .u64 n, .string s] 151)
  refine ⟨?_, ?_, ?_, ?_, ?_, ?_, ?_, h.drew⟩
  · simp
  · simp
  · simp
  · simp
  · have := (hg.below h).1; simpa using this
  · simp
  · have := hg.2; simp <;> omega

theorem Bx.below {B : Nat} {num kind : Int} {n : Nat} {s : ByteArray} {b : Addr} {w0 w' : World} (h : Bx B num kind n s b w0 w') : Below B w0 w' := h.2.2.2.2.2.2.2
theorem Bx.gv {B : Nat} {num kind : Int} {n : Nat} {s : ByteArray} {b : Addr} {w0 w' : World} (h : Bx B num kind n s b w0 w') : Gv b w' := ⟨h.2.2.2.2.1, h.2.2.2.2.2.2.1⟩

set_option maxRecDepth 100000 in
set_option maxHeartbeats 1000000 in
theorem put_no (num kind : Int) (n : Nat) (s : ByteArray) (b : Addr) (w : World) (hg : Gv b w) (ho : okF num kind n s = false) :
    Calls Tryd.prog 78 #[fdV num kind n s] w fun e w' => e = .returned (.tuple #[.string ⟨#[]⟩, .bool false]) ∧ Below w.heap.size w w' := by
  have HO := Lib.hid ho; clear ho
  have hg0 := hg.1
  have hg1 := hg.2
  go_enter Tryd.func78, Tryd.ntmps78
  go_wp2_with fail
  go_region_held3 (fun w' => w'.cell? ⟨w.heap.size, 0, none⟩ = some (.int .i64 num) ∧ w'.cell? ⟨w.heap.size, 1, none⟩ = some (.int .i64 kind) ∧ w'.cell? ⟨w.heap.size, 2, none⟩ = some (.int .u64 n) ∧ w'.cell? ⟨w.heap.size, 3, none⟩ = some (.string s) ∧ w'.cell? ⟨1, 0, none⟩ = some (Tryd.S b) ∧ w.heap.size < w'.heap.size ∧ 1 < w'.heap.size ∧ Below w.heap.size w w')
    (first | exact Bx.start hg | go_keep | (refine Bx.next (B := w.heap.size) (num := num) (kind := kind) (n := n) (s := s) (b := b) (w0 := w) ?_ hb; first | exact Bx.start hg | assumption))
    (first | (go_at_call 82; refine (checkField_no num kind n s b _ ?_ HO.out).mono ?_; (first | exact (Bx.start hg).gv | exact Bx.gv (B := w.heap.size) (num := num) (kind := kind) (n := n) (s := s) (b := b) (w0 := w) (by assumption)); rintro e w' ⟨rfl, hb⟩) | (go_at_call 26; refine (is_self b _).mono ?_; rintro e w' ⟨rfl, rfl⟩))
  go_wp2
  go_ret2
  exact ⟨rfl, Bx.below ‹_›⟩

theorem tag_or (num : Int) (k : Nat) (h1 : 1 ≤ num) (h2 : num ≤ 536870911) (hk : k < 8) : bits .or .u64 (num * 8) (k : Int) = ((num.toNat * 8 + k : Nat) : Int) := by
  obtain ⟨m, rfl⟩ := Int.eq_ofNat_of_zero_le (show 0 ≤ num by omega)
  rw [show ((m : Int) * 8) = ((m * 8 : Nat) : Int) by omega, u64_or_nat _ _ (by omega) (by omega), Int.toNat_natCast]
  congr 1
  have := Nat.two_pow_add_eq_or_of_lt (i := 3) (b := k) (by omega) m
  rw [show m * 8 = 2 ^ 3 * m by omega, ← this]

/-- A number's bytes under a name of their own. -/
theorem varint_arg (x : Int) (n : Nat) (T : ByteArray) (w : World) (hx : x = n) (hn : n < 2 ^ 64) (hT : T = ⟨(vnt n).toArray⟩) :
    Calls Tryd.prog 83 #[.int .u64 x] w fun e w' => e = .returned (.string T) ∧ Below w.heap.size w w' := by
  subst hx; subst hT; exact varint_any n w hn
theorem vnt_size {n : Nat} {T : ByteArray} (h : T = ⟨(vnt n).toArray⟩) : T.size ≤ 10 := by
  subst h; have := (vnt_len n).2; simpa [ByteArray.size] using this

theorem bytes_ext {a b : ByteArray} (h : a.data.toList = b.data.toList) : a = b := by
  apply ByteArray.ext; exact Array.toList_inj.1 h

theorem put_end {r : Value} {X : ByteArray} {l : List UInt8} (hr : r = .tuple #[.string X, .bool true]) (h : X.data.toList = l) : Ending.returned r = .returned (.tuple #[.string ⟨l.toArray⟩, .bool true]) := by
  subst hr; subst h; rfl

set_option maxRecDepth 100000 in
set_option maxHeartbeats 1000000 in
theorem put_ok0 (num : Int) (n : Nat) (s : ByteArray) (b : Addr) (w : World) (hg : Gv b w) (hn : n < 2 ^ 64) (_hs : s.size ≤ 140737488355328) (h1 : 1 ≤ num) (h2 : num ≤ 536870911) (ho : okF num 0 n s = true) :
    Calls Tryd.prog 78 #[fdV num 0 n s] w fun e w' => e = .returned (.tuple #[.string ⟨(putL num 0 n s).toArray⟩, .bool true]) ∧ Below w.heap.size w w' := by
  obtain ⟨T, hT⟩ : ∃ T : ByteArray, T = ⟨(vnt (num.toNat * 8 + 0)).toArray⟩ := ⟨_, rfl⟩
  obtain ⟨V, hV⟩ : ∃ T : ByteArray, T = ⟨(vnt n).toArray⟩ := ⟨_, rfl⟩
  obtain ⟨L, hL⟩ : ∃ T : ByteArray, T = ⟨(vnt s.size).toArray⟩ := ⟨_, rfl⟩
  have hT1 := vnt_size hT
  have hV1 := vnt_size hV
  have hL1 := vnt_size hL
  have HTT := Lib.hid hT; clear hT
  have HVV := Lib.hid hV; clear hV
  have HLL := Lib.hid hL; clear hL
  have HO := Lib.hid ho; clear ho
  have HN := Lib.hid hn; clear hn
  have hg0 := hg.1
  have hg1 := hg.2
  have HT := Lib.hid (tag_or num 0 h1 h2 (by omega))
  go_enter Tryd.func78, Tryd.ntmps78
  go_wp2_with fail
  go_region_held3 (fun w' => w'.cell? ⟨w.heap.size, 0, none⟩ = some (.int .i64 num) ∧ w'.cell? ⟨w.heap.size, 1, none⟩ = some (.int .i64 0) ∧ w'.cell? ⟨w.heap.size, 2, none⟩ = some (.int .u64 n) ∧ w'.cell? ⟨w.heap.size, 3, none⟩ = some (.string s) ∧ w'.cell? ⟨1, 0, none⟩ = some (Tryd.S b) ∧ w.heap.size < w'.heap.size ∧ 1 < w'.heap.size ∧ Below w.heap.size w w')
    (first | exact Bx.start hg | go_keep | (refine Bx.next (B := w.heap.size) (num := num) (kind := 0) (n := n) (s := s) (b := b) (w0 := w) ?_ hb; first | exact Bx.start hg | assumption))
    (first | (go_at_call 82; refine (checkField_ok num 0 n s b _ ?_ HO.out).mono ?_; (first | exact (Bx.start hg).gv | exact Bx.gv (B := w.heap.size) (num := num) (kind := 0) (n := n) (s := s) (b := b) (w0 := w) (by assumption)); rintro e w' ⟨rfl, hb⟩) | (go_at_call 26; refine (is_nil b _).mono ?_; rintro e w' ⟨rfl, rfl⟩))
  have HB1 : Bx w.heap.size num 0 n s b w _ := ‹_›
  go_wp2_with fail
  refine (varint_arg _ (num.toNat * 8 + 0) T _ HT.out (by omega) HTT.out).mono ?_
  rintro e w2 ⟨rfl, hb2⟩
  have HB2 := HB1.next hb2
  clear HB1 hb2 hb
  obtain ⟨c0, c1, c2, c3, c4, c5, c6, c7⟩ := id HB2
  go_wp2_with fail
  refine (varint_arg _ n V _ rfl HN.out HVV.out).mono ?_
  rintro e w3 ⟨rfl, hb3⟩
  go_wp2
  go_ret2
  refine ⟨put_end (X := T ++ V) rfl ?_, (HB2.next hb3).below⟩
  rw [HTT.out, HVV.out]; simp [putL]

set_option maxRecDepth 100000 in
set_option maxHeartbeats 1000000 in
theorem put_ok1 (num : Int) (n : Nat) (s : ByteArray) (b : Addr) (w : World) (hg : Gv b w) (hn : n < 2 ^ 64) (_hs : s.size ≤ 140737488355328) (h1 : 1 ≤ num) (h2 : num ≤ 536870911) (ho : okF num 1 n s = true) :
    Calls Tryd.prog 78 #[fdV num 1 n s] w fun e w' => e = .returned (.tuple #[.string ⟨(putL num 1 n s).toArray⟩, .bool true]) ∧ Below w.heap.size w w' := by
  obtain ⟨T, hT⟩ : ∃ T : ByteArray, T = ⟨(vnt (num.toNat * 8 + 1)).toArray⟩ := ⟨_, rfl⟩
  obtain ⟨V, hV⟩ : ∃ T : ByteArray, T = ⟨(vnt n).toArray⟩ := ⟨_, rfl⟩
  obtain ⟨L, hL⟩ : ∃ T : ByteArray, T = ⟨(vnt s.size).toArray⟩ := ⟨_, rfl⟩
  have hT1 := vnt_size hT
  have hV1 := vnt_size hV
  have hL1 := vnt_size hL
  have HTT := Lib.hid hT; clear hT
  have HVV := Lib.hid hV; clear hV
  have HLL := Lib.hid hL; clear hL
  have HO := Lib.hid ho; clear ho
  have HN := Lib.hid hn; clear hn
  have hg0 := hg.1
  have hg1 := hg.2
  have HT := Lib.hid (tag_or num 1 h1 h2 (by omega))
  go_enter Tryd.func78, Tryd.ntmps78
  go_wp2_with fail
  go_region_held3 (fun w' => w'.cell? ⟨w.heap.size, 0, none⟩ = some (.int .i64 num) ∧ w'.cell? ⟨w.heap.size, 1, none⟩ = some (.int .i64 1) ∧ w'.cell? ⟨w.heap.size, 2, none⟩ = some (.int .u64 n) ∧ w'.cell? ⟨w.heap.size, 3, none⟩ = some (.string s) ∧ w'.cell? ⟨1, 0, none⟩ = some (Tryd.S b) ∧ w.heap.size < w'.heap.size ∧ 1 < w'.heap.size ∧ Below w.heap.size w w')
    (first | exact Bx.start hg | go_keep | (refine Bx.next (B := w.heap.size) (num := num) (kind := 1) (n := n) (s := s) (b := b) (w0 := w) ?_ hb; first | exact Bx.start hg | assumption))
    (first | (go_at_call 82; refine (checkField_ok num 1 n s b _ ?_ HO.out).mono ?_; (first | exact (Bx.start hg).gv | exact Bx.gv (B := w.heap.size) (num := num) (kind := 1) (n := n) (s := s) (b := b) (w0 := w) (by assumption)); rintro e w' ⟨rfl, hb⟩) | (go_at_call 26; refine (is_nil b _).mono ?_; rintro e w' ⟨rfl, rfl⟩))
  have HB1 : Bx w.heap.size num 1 n s b w _ := ‹_›
  go_wp2_with fail
  refine (varint_arg _ (num.toNat * 8 + 1) T _ HT.out (by omega) HTT.out).mono ?_
  rintro e w2 ⟨rfl, hb2⟩
  have HB2 := HB1.next hb2
  clear HB1 hb2 hb
  obtain ⟨c0, c1, c2, c3, c4, c5, c6, c7⟩ := id HB2
  go_wp2
  go_ret2
  refine ⟨put_end (X := T ++ s) rfl ?_, HB2.below⟩
  rw [HTT.out]; simp [putL]

set_option maxRecDepth 100000 in
set_option maxHeartbeats 1000000 in
theorem put_ok5 (num : Int) (n : Nat) (s : ByteArray) (b : Addr) (w : World) (hg : Gv b w) (hn : n < 2 ^ 64) (_hs : s.size ≤ 140737488355328) (h1 : 1 ≤ num) (h2 : num ≤ 536870911) (ho : okF num 5 n s = true) :
    Calls Tryd.prog 78 #[fdV num 5 n s] w fun e w' => e = .returned (.tuple #[.string ⟨(putL num 5 n s).toArray⟩, .bool true]) ∧ Below w.heap.size w w' := by
  obtain ⟨T, hT⟩ : ∃ T : ByteArray, T = ⟨(vnt (num.toNat * 8 + 5)).toArray⟩ := ⟨_, rfl⟩
  obtain ⟨V, hV⟩ : ∃ T : ByteArray, T = ⟨(vnt n).toArray⟩ := ⟨_, rfl⟩
  obtain ⟨L, hL⟩ : ∃ T : ByteArray, T = ⟨(vnt s.size).toArray⟩ := ⟨_, rfl⟩
  have hT1 := vnt_size hT
  have hV1 := vnt_size hV
  have hL1 := vnt_size hL
  have HTT := Lib.hid hT; clear hT
  have HVV := Lib.hid hV; clear hV
  have HLL := Lib.hid hL; clear hL
  have HO := Lib.hid ho; clear ho
  have HN := Lib.hid hn; clear hn
  have hg0 := hg.1
  have hg1 := hg.2
  have HT := Lib.hid (tag_or num 5 h1 h2 (by omega))
  go_enter Tryd.func78, Tryd.ntmps78
  go_wp2_with fail
  go_region_held3 (fun w' => w'.cell? ⟨w.heap.size, 0, none⟩ = some (.int .i64 num) ∧ w'.cell? ⟨w.heap.size, 1, none⟩ = some (.int .i64 5) ∧ w'.cell? ⟨w.heap.size, 2, none⟩ = some (.int .u64 n) ∧ w'.cell? ⟨w.heap.size, 3, none⟩ = some (.string s) ∧ w'.cell? ⟨1, 0, none⟩ = some (Tryd.S b) ∧ w.heap.size < w'.heap.size ∧ 1 < w'.heap.size ∧ Below w.heap.size w w')
    (first | exact Bx.start hg | go_keep | (refine Bx.next (B := w.heap.size) (num := num) (kind := 5) (n := n) (s := s) (b := b) (w0 := w) ?_ hb; first | exact Bx.start hg | assumption))
    (first | (go_at_call 82; refine (checkField_ok num 5 n s b _ ?_ HO.out).mono ?_; (first | exact (Bx.start hg).gv | exact Bx.gv (B := w.heap.size) (num := num) (kind := 5) (n := n) (s := s) (b := b) (w0 := w) (by assumption)); rintro e w' ⟨rfl, hb⟩) | (go_at_call 26; refine (is_nil b _).mono ?_; rintro e w' ⟨rfl, rfl⟩))
  have HB1 : Bx w.heap.size num 5 n s b w _ := ‹_›
  go_wp2_with fail
  refine (varint_arg _ (num.toNat * 8 + 5) T _ HT.out (by omega) HTT.out).mono ?_
  rintro e w2 ⟨rfl, hb2⟩
  have HB2 := HB1.next hb2
  clear HB1 hb2 hb
  obtain ⟨c0, c1, c2, c3, c4, c5, c6, c7⟩ := id HB2
  go_wp2
  go_ret2
  refine ⟨put_end (X := T ++ s) rfl ?_, HB2.below⟩
  rw [HTT.out]; simp [putL]

set_option maxRecDepth 100000 in
set_option maxHeartbeats 1000000 in
theorem put_ok2 (num : Int) (n : Nat) (s : ByteArray) (b : Addr) (w : World) (hg : Gv b w) (hn : n < 2 ^ 64) (hs : s.size ≤ 140737488355328) (h1 : 1 ≤ num) (h2 : num ≤ 536870911) (ho : okF num 2 n s = true) :
    Calls Tryd.prog 78 #[fdV num 2 n s] w fun e w' => e = .returned (.tuple #[.string ⟨(putL num 2 n s).toArray⟩, .bool true]) ∧ Below w.heap.size w w' := by
  obtain ⟨T, hT⟩ : ∃ T : ByteArray, T = ⟨(vnt (num.toNat * 8 + 2)).toArray⟩ := ⟨_, rfl⟩
  obtain ⟨V, hV⟩ : ∃ T : ByteArray, T = ⟨(vnt n).toArray⟩ := ⟨_, rfl⟩
  obtain ⟨L, hL⟩ : ∃ T : ByteArray, T = ⟨(vnt s.size).toArray⟩ := ⟨_, rfl⟩
  have hT1 := vnt_size hT
  have hV1 := vnt_size hV
  have hL1 := vnt_size hL
  have HTT := Lib.hid hT; clear hT
  have HVV := Lib.hid hV; clear hV
  have HLL := Lib.hid hL; clear hL
  have HO := Lib.hid ho; clear ho
  have HN := Lib.hid hn; clear hn
  have hg0 := hg.1
  have hg1 := hg.2
  have HT := Lib.hid (tag_or num 2 h1 h2 (by omega))
  go_enter Tryd.func78, Tryd.ntmps78
  go_wp2_with fail
  go_region_held3 (fun w' => w'.cell? ⟨w.heap.size, 0, none⟩ = some (.int .i64 num) ∧ w'.cell? ⟨w.heap.size, 1, none⟩ = some (.int .i64 2) ∧ w'.cell? ⟨w.heap.size, 2, none⟩ = some (.int .u64 n) ∧ w'.cell? ⟨w.heap.size, 3, none⟩ = some (.string s) ∧ w'.cell? ⟨1, 0, none⟩ = some (Tryd.S b) ∧ w.heap.size < w'.heap.size ∧ 1 < w'.heap.size ∧ Below w.heap.size w w')
    (first | exact Bx.start hg | go_keep | (refine Bx.next (B := w.heap.size) (num := num) (kind := 2) (n := n) (s := s) (b := b) (w0 := w) ?_ hb; first | exact Bx.start hg | assumption))
    (first | (go_at_call 82; refine (checkField_ok num 2 n s b _ ?_ HO.out).mono ?_; (first | exact (Bx.start hg).gv | exact Bx.gv (B := w.heap.size) (num := num) (kind := 2) (n := n) (s := s) (b := b) (w0 := w) (by assumption)); rintro e w' ⟨rfl, hb⟩) | (go_at_call 26; refine (is_nil b _).mono ?_; rintro e w' ⟨rfl, rfl⟩))
  have HB1 : Bx w.heap.size num 2 n s b w _ := ‹_›
  go_wp2_with fail
  refine (varint_arg _ (num.toNat * 8 + 2) T _ HT.out (by omega) HTT.out).mono ?_
  rintro e w2 ⟨rfl, hb2⟩
  have HB2 := HB1.next hb2
  clear HB1 hb2 hb
  obtain ⟨c0, c1, c2, c3, c4, c5, c6, c7⟩ := id HB2
  have HW := Lib.hid (show IntKind.u64.wrap (s.size : Int) = (s.size : Int) from IntWalk.u64_in _ (by omega))
  have hTL : ¬ (9223372036854775807 < T.size + L.size) := by omega
  have hTLs : ¬ (9223372036854775807 < T.size + L.size + s.size) := by omega
  have HB2d := HB2.next (Below.refl _ _).drew
  go_wp2_with fail
  go_region_held3 (fun w' => w'.cell? ⟨w.heap.size, 0, none⟩ = some (.int .i64 num) ∧ w'.cell? ⟨w.heap.size, 1, none⟩ = some (.int .i64 2) ∧ w'.cell? ⟨w.heap.size, 2, none⟩ = some (.int .u64 n) ∧ w'.cell? ⟨w.heap.size, 3, none⟩ = some (.string s) ∧ w'.cell? ⟨1, 0, none⟩ = some (Tryd.S b) ∧ w.heap.size < w'.heap.size ∧ 1 < w'.heap.size ∧ Below w.heap.size w w')
    (first | exact HB2d | go_keep | (refine Bx.next (B := w.heap.size) (num := num) (kind := 2) (n := n) (s := s) (b := b) (w0 := w) ?_ hb; first | exact HB2d | assumption))
    (first | (go_at_call 83; refine (varint_arg _ s.size L _ HW.out (by omega) HLL.out).mono ?_; rintro e w' ⟨rfl, hb⟩))
  have HB3 : Bx w.heap.size num 2 n s b w _ := ‹_›
  go_wp2
  go_ret2
  refine ⟨put_end (X := T ++ L ++ s) rfl ?_, HB3.below⟩
  rw [HTT.out, HLL.out]; simp [putL]
end Go.Proofs.YtogkdekjcbljnaaDoor
