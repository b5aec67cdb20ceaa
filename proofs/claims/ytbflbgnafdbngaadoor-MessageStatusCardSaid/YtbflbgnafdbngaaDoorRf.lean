/- readField: the walk. -/
import Derived.Test.YtbflbgnafdbngaaDoorTag
import Derived.Test.YtbflbgnafdbngaaDoorShelf
import Derived.Lib.Strings
namespace Go.Proofs.YtbflbgnafdbngaaDoor
open Go.RowKit

/-- A Field. -/
structure Fd where
  num : Nat
  kind : Nat
  n : Nat
  s : List UInt8
def Fd.v (f : Fd) : Value := fdV (f.num : Int) (f.kind : Int) f.n ⟨f.s.toArray⟩

/-- The field that l begins with, and of how many bytes. -/
def fieldOf (l : List UInt8) : Option (Fd × Nat) :=
  match tagOf l with
  | none => none
  | some (t, k) =>
    if t % 8 = 1 ∨ t % 8 = 5 then
      if k + (fsz ((t % 8 : Nat) : Int)).toNat ≤ l.length then some (⟨t / 8, t % 8, 0, (l.drop k).take (fsz ((t % 8 : Nat) : Int)).toNat⟩, k + (fsz ((t % 8 : Nat) : Int)).toNat) else none
    else match rd (l.drop k) with
      | none => none
      | some (v, m) =>
        if t % 8 = 0 then some (⟨t / 8, 0, v, []⟩, k + m)
        else if v ≤ l.length - (k + m) then some (⟨t / 8, 2, 0, (l.drop (k + m)).take v⟩, k + m + v) else none

def flt1 (b : Addr) (j : Int) : Value := .iface 145 (.agg #[.int .i64 j, Tryd.S b])
def flt2 (b : Addr) (i j : Int) : Value := .iface 145 (.agg #[.int .i64 i, flt1 b j])
def FltV (b : Addr) (v : Value) : Prop := (∃ j, v = flt1 b j) ∨ ∃ i j, v = flt2 b i j

/-- What readField comes to. -/
def RfPost (b : Addr) (r : Option (Fd × Nat)) (w : World) (e : Ending) (w' : World) : Prop :=
  match r with
  | some (f, k) => e = .returned (.tuple #[f.v, .int .i64 k, .nilIface]) ∧ Below w.heap.size w w'
  | none => (∃ v, FltV b v ∧ e = .returned (.tuple #[fdV 0 0 0 ⟨#[]⟩, .int .i64 0, v])) ∧ Below w.heap.size w w'

/-- The four cells of a Field's block. -/
structure Four (W : World) (B : Nat) (c0 c1 c2 c3 : Value) : Prop where
  c0 : W.cell? ⟨B, 0, none⟩ = some c0
  c1 : W.cell? ⟨B, 1, none⟩ = some c1
  c2 : W.cell? ⟨B, 2, none⟩ = some c2
  c3 : W.cell? ⟨B, 3, none⟩ = some c3
  f0 : W.frozen? ⟨B, 0, none⟩ = false
  f1 : W.frozen? ⟨B, 1, none⟩ = false
  f2 : W.frozen? ⟨B, 2, none⟩ = false
  f3 : W.frozen? ⟨B, 3, none⟩ = false
  lt : B < W.heap.size
theorem Four.below {W W' : World} {B : Nat} {c0 c1 c2 c3 : Value} (h : Four W B c0 c1 c2 c3) (hb : Below W.heap.size W W') : Four W' B c0 c1 c2 c3 :=
  ⟨(hb.cell (p := ⟨B, 0, none⟩) h.lt).trans h.c0, (hb.cell (p := ⟨B, 1, none⟩) h.lt).trans h.c1, (hb.cell (p := ⟨B, 2, none⟩) h.lt).trans h.c2, (hb.cell (p := ⟨B, 3, none⟩) h.lt).trans h.c3,
    (hb.frozen (p := ⟨B, 0, none⟩) h.lt).trans h.f0, (hb.frozen (p := ⟨B, 1, none⟩) h.lt).trans h.f1, (hb.frozen (p := ⟨B, 2, none⟩) h.lt).trans h.f2, (hb.frozen (p := ⟨B, 3, none⟩) h.lt).trans h.f3, Nat.lt_of_lt_of_le h.lt hb.size⟩
theorem Four.alloc {W : World} {B : Nat} {c0 c1 c2 c3 : Value} (h : Four W B c0 c1 c2 c3) (O : Obj) : Four (W.alloc O) B c0 c1 c2 c3 := h.below ((Below.refl _ _).alloc (Nat.le_refl _) _)
theorem Four.new (W : World) (c0 c1 c2 c3 : Value) (t : TypeId) : Four (W.alloc (.cells #[c0, c1, c2, c3] t)) W.heap.size c0 c1 c2 c3 := by
  refine ⟨?_, ?_, ?_, ?_, ?_, ?_, ?_, ?_, ?_⟩ <;> simp
theorem Four.alls {W : World} {B : Nat} {c0 c1 c2 c3 : Value} (h : Four W B c0 c1 c2 c3) :
    (∀ O, (W.alloc O).cell? ⟨B, 0, none⟩ = some c0) ∧ (∀ O, (W.alloc O).cell? ⟨B, 1, none⟩ = some c1) ∧ (∀ O, (W.alloc O).cell? ⟨B, 2, none⟩ = some c2) ∧ (∀ O, (W.alloc O).cell? ⟨B, 3, none⟩ = some c3) ∧
    (∀ O, (W.alloc O).frozen? ⟨B, 0, none⟩ = false) ∧ (∀ O, (W.alloc O).frozen? ⟨B, 1, none⟩ = false) ∧ (∀ O, (W.alloc O).frozen? ⟨B, 2, none⟩ = false) ∧ (∀ O, (W.alloc O).frozen? ⟨B, 3, none⟩ = false) :=
  ⟨fun O => (h.alloc O).c0, fun O => (h.alloc O).c1, fun O => (h.alloc O).c2, fun O => (h.alloc O).c3, fun O => (h.alloc O).f0, fun O => (h.alloc O).f1, fun O => (h.alloc O).f2, fun O => (h.alloc O).f3⟩

theorem RfPost.no {b : Addr} {r : Option (Fd × Nat)} {w : World} {e : Ending} {w' : World} {v : Value} (hr : r = none) (hv : FltV b v) (he : e = .returned (.tuple #[fdV 0 0 0 ⟨#[]⟩, .int .i64 0, v])) (hb : Below w.heap.size w w') : RfPost b r w e w' := by
  subst hr; exact ⟨⟨v, hv, he⟩, hb⟩

theorem RfPost.yes {b : Addr} {r : Option (Fd × Nat)} {w : World} {e : Ending} {w' : World} {f : Fd} {k : Nat} {num kind n K : Int} {X : ByteArray} (hr : r = some (f, k)) (he : e = .returned (.tuple #[.agg #[.int .i64 num, .int .i64 kind, .int .u64 n, .string X], .int .i64 K, .nilIface])) (h1 : (f.num : Int) = num) (h2 : (f.kind : Int) = kind) (h3 : (f.n : Int) = n) (h4 : X.data.toList = f.s) (h5 : (k : Int) = K) (hb : Below w.heap.size w w') : RfPost b r w e w' := by
  subst hr h1 h2 h3 h5; rw [he]; refine ⟨?_, hb⟩
  have : X = ⟨f.s.toArray⟩ := by rw [← h4]
  rw [this]; rfl

theorem readTag_some (s : ByteArray) (b : Addr) (w : World) (hs : s.size ≤ maxLen) (hg : Gv b w) (t k : Nat) (num kind : Int) (ht : tagOf s.data.toList = some (t, k)) (h1 : ((t / 8 : Nat) : Int) = num) (h2 : ((t % 8 : Nat) : Int) = kind) :
    Calls Tryd.prog 73 #[.string s] w fun e w' => e = .returned (.tuple #[.agg #[.int .i64 num, .int .i64 kind, .int .u64 0, .string ⟨#[]⟩], .int .i64 k, .nilIface]) ∧ Below w.heap.size w w' := by
  subst h1 h2
  refine (readTag_any s b w hs hg).mono ?_
  rw [ht]
  rintro e w' ⟨rfl, hb⟩
  exact ⟨rfl, hb⟩

theorem tagOf_size {l : List UInt8} {t k : Nat} (h : tagOf l = some (t, k)) : 0 < k ∧ k ≤ l.length ∧ k ≤ 10 ∧ t / 8 ≤ 536870911 := by
  unfold tagOf at h
  split at h
  · simp at h
  · rename_i t' k' hr
    split at h
    · simp at h
      obtain ⟨rfl, rfl⟩ := h
      have := rd_size hr
      omega
    · simp at h

theorem fsz_eq (k v : Int) (w : World) (h : fsz k = v) : Calls Tryd.prog 59 #[.int .i64 k] w fun e w' => e = .returned (.int .i64 v) ∧ w = w' := by
  subst h; exact fsz_any k w
theorem extract_list (s : ByteArray) (a b : Nat) : (s.extract a b).data.toList = (s.data.toList.drop a).take (b - a) := by
  rw [Lib.extract_data]
theorem extract_tail (s : ByteArray) (a : Nat) : (s.extract a s.size).data.toList = s.data.toList.drop a := by
  rw [extract_list, List.take_of_length_le (by simp)]
theorem readNumber_at (s : ByteArray) (k : Nat) (b : Addr) (w : World) (r : Option (Nat × Nat)) (hs : s.size ≤ 140737488355328) (hg : Gv b w) (hr : rd (s.data.toList.drop k) = r) :
    Calls Tryd.prog 74 #[.string (s.extract k s.size)] w fun e w' => RdPost b r w e w' := by
  subst hr
  have h := readNumber_any (s.extract k s.size) b w (by unfold maxLen; simp; omega) hg
  rwa [extract_tail] at h


set_option maxRecDepth 100000 in
set_option maxHeartbeats 1000000 in
theorem readField_tag (s : ByteArray) (b : Addr) (w : World) (hs : s.size ≤ 140737488355328) (hg : Gv b w)  (ht : tagOf s.data.toList = none) :
    Calls Tryd.prog 72 #[.string s] w fun e w' => RfPost b (fieldOf s.data.toList) w e w' := by
  have HF := Lib.hid (show fieldOf s.data.toList = none by simp [fieldOf, ht])
  have HT := Lib.hid ht; clear ht
  have hif := Tryd.ifaceErr
  go_enter Tryd.func72, Tryd.ntmps72
  go_wp2_with (first | (go_at_call 73; refine (readTag_any s b _ (by unfold maxLen; omega) (hg.alloc _)).mono ?_; rw [HT.out]; rintro e w1 ⟨⟨j, rfl⟩, hb⟩; have hB : Below w.heap.size w w1 := ((Below.refl _ _).alloc (Nat.le_refl _) _).trans (hb.mono (by simp)); have hg1 := hg.below hB; obtain ⟨q0, q1, q2, q3, r0, r1, r2, r3, hz⟩ := (Four.new w (.int .i64 0) (.int .i64 0) (.int .u64 0) (.string ⟨#[]⟩) 59).below hb; clear hb))
  refine bodyPost_ret (v := .tuple #[fdV 0 0 0 ⟨#[]⟩, .int .i64 0, .iface 145 (.agg #[.int .i64 j, Tryd.S b])]) (by simp [results, Tryd.results72, go_sem, q0, q1, q2, q3, hz]) rfl ?_
  refine RfPost.no HF.out (.inl ⟨j, rfl⟩) rfl ?_
  repeat' (first | exact hB | refine Below.drew ?_ | refine Below.alloc ?_ (by simp <;> omega) _ | refine Below.setCell ?_ (by first | omega | (simp <;> omega)) _)

set_option maxRecDepth 100000 in
set_option maxHeartbeats 1000000 in
theorem readField_short1 (s : ByteArray) (b : Addr) (w : World) (hs : s.size ≤ 140737488355328) (hg : Gv b w) (t k : Nat) (ht : tagOf s.data.toList = some (t, k)) (hk8 : t % 8 = 1) (hlen : s.size < k + 8) :
    Calls Tryd.prog 72 #[.string s] w fun e w' => RfPost b (fieldOf s.data.toList) w e w' := by
  have HF := Lib.hid (show fieldOf s.data.toList = none by simp [fieldOf, ht, hk8, fsz]; omega)
  have hk := tagOf_size ht
  have hkl : k ≤ s.size := by simpa using hk.2.1
  have hkt := hk.2.2.2
  clear hk
  obtain ⟨num, hnum⟩ : ∃ num : Int, ((t / 8 : Nat) : Int) = num := ⟨_, rfl⟩
  have HN := Lib.hid hnum; clear hnum
  have HK := Lib.hid (show ((t % 8 : Nat) : Int) = 1 by omega); clear hk8
  have HT := Lib.hid ht; clear ht
  have hif := Tryd.ifaceErr
  go_enter Tryd.func72, Tryd.ntmps72
  go_wp2_with (first | (go_at_call 73; refine (readTag_some s b _ (by unfold maxLen; omega) (hg.alloc _) t k num 1 HT.out HN.out HK.out).mono ?_; rintro e w1 ⟨rfl, hb⟩; have hB : Below w.heap.size w w1 := ((Below.refl _ _).alloc (Nat.le_refl _) _).trans (hb.mono (by simp)); have hg1 := hg.below hB; obtain ⟨q0, q1, q2, q3, r0, r1, r2, r3, hz⟩ := (Four.new w (.int .i64 0) (.int .i64 0) (.int .u64 0) (.string ⟨#[]⟩) 59).below hb; clear hb; have hgc := hg1.1; have hgz := hg1.2; have hne1 : ¬ w.heap.size = 1 := (by have := hg.2; omega); have hne2 : ¬ 1 = w.heap.size := (by have := hg.2; omega)) | (go_at_call 59; refine (fsz_eq 1 8 _ rfl).mono ?_; rintro e w' ⟨rfl, rfl⟩))
  go_region
  go_wp2
  refine bodyPost_ret (v := .tuple #[fdV 0 0 0 ⟨#[]⟩, .int .i64 0, .iface 145 (.agg #[.int .i64 k, Tryd.S b])]) (by simp [results, Tryd.results72, go_sem, q0, q1, q2, q3, hz]) rfl ?_
  refine RfPost.no HF.out (.inl ⟨k, rfl⟩) rfl ?_
  repeat' (first | exact hB | refine Below.drew ?_ | refine Below.alloc ?_ (by simp <;> omega) _ | refine Below.setCell ?_ (by first | omega | (simp <;> omega)) _)

set_option maxRecDepth 100000 in
set_option maxHeartbeats 1000000 in
theorem readField_short5 (s : ByteArray) (b : Addr) (w : World) (hs : s.size ≤ 140737488355328) (hg : Gv b w) (t k : Nat) (ht : tagOf s.data.toList = some (t, k)) (hk8 : t % 8 = 5) (hlen : s.size < k + 4) :
    Calls Tryd.prog 72 #[.string s] w fun e w' => RfPost b (fieldOf s.data.toList) w e w' := by
  have HF := Lib.hid (show fieldOf s.data.toList = none by simp [fieldOf, ht, hk8, fsz]; omega)
  have hk := tagOf_size ht
  have hkl : k ≤ s.size := by simpa using hk.2.1
  have hkt := hk.2.2.2
  clear hk
  obtain ⟨num, hnum⟩ : ∃ num : Int, ((t / 8 : Nat) : Int) = num := ⟨_, rfl⟩
  have HN := Lib.hid hnum; clear hnum
  have HK := Lib.hid (show ((t % 8 : Nat) : Int) = 5 by omega); clear hk8
  have HT := Lib.hid ht; clear ht
  have hif := Tryd.ifaceErr
  go_enter Tryd.func72, Tryd.ntmps72
  go_wp2_with (first | (go_at_call 73; refine (readTag_some s b _ (by unfold maxLen; omega) (hg.alloc _) t k num 5 HT.out HN.out HK.out).mono ?_; rintro e w1 ⟨rfl, hb⟩; have hB : Below w.heap.size w w1 := ((Below.refl _ _).alloc (Nat.le_refl _) _).trans (hb.mono (by simp)); have hg1 := hg.below hB; obtain ⟨q0, q1, q2, q3, r0, r1, r2, r3, hz⟩ := (Four.new w (.int .i64 0) (.int .i64 0) (.int .u64 0) (.string ⟨#[]⟩) 59).below hb; clear hb; have hgc := hg1.1; have hgz := hg1.2; have hne1 : ¬ w.heap.size = 1 := (by have := hg.2; omega); have hne2 : ¬ 1 = w.heap.size := (by have := hg.2; omega)) | (go_at_call 59; refine (fsz_eq 5 4 _ rfl).mono ?_; rintro e w' ⟨rfl, rfl⟩))
  go_region
  go_wp2
  refine bodyPost_ret (v := .tuple #[fdV 0 0 0 ⟨#[]⟩, .int .i64 0, .iface 145 (.agg #[.int .i64 k, Tryd.S b])]) (by simp [results, Tryd.results72, go_sem, q0, q1, q2, q3, hz]) rfl ?_
  refine RfPost.no HF.out (.inl ⟨k, rfl⟩) rfl ?_
  repeat' (first | exact hB | refine Below.drew ?_ | refine Below.alloc ?_ (by simp <;> omega) _ | refine Below.setCell ?_ (by first | omega | (simp <;> omega)) _)
end Go.Proofs.YtbflbgnafdbngaaDoor
