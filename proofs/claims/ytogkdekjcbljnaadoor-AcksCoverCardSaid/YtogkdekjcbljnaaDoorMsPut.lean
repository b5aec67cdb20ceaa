/- message: what is written into one: a number, a flag, a text, texts. -/
import Derived.Test.YtogkdekjcbljnaaDoorMsBld
import Derived.Test.YtogkdekjcbljnaaDoorNum
import Derived.Lib.AppendIntMem
import Derived.BigQuiet
namespace Go.Proofs.YtogkdekjcbljnaaDoor
open Go.RowKit

/-- A field of a number; nothing, if it is 0. -/
def nmb (num : Int) (n : Nat) : List UInt8 := if n = 0 then [] else numberL num n
/-- A field of a text; nothing, if it is empty. -/
def txt (num : Int) (s : ByteArray) : List UInt8 := if s.size = 0 then [] else textL num s
/-- The message at b, which says l. -/
abbrev Bu (B b : Nat) (l : List UInt8) (w : World) : Prop := Lib.IsBuilder 110 5 B b (Lib.byteCells l) w
theorem Bu.later {B b : Nat} {l : List UInt8} {w w' : World} (h : Bu B b l w) (hb : Below w.heap.size w w') : Bu B b l w' := isBuilder_below h hb
theorem gv_base {B : Nat} {b : Addr} {w w' : World} (h : Gv b w) (hB : 1 < B) (hb : Below B w w') : Gv b w' := ⟨(hb.cell (p := ⟨1, 0, none⟩) hB).trans h.1, Nat.lt_of_lt_of_le h.2 hb.size⟩
def BuPost (B b : Nat) (l : List UInt8) (w : World) (e : Ending) (w' : World) : Prop := e = .returned (.tuple #[]) ∧ Bu B b l w' ∧ Below B w w'

set_option maxRecDepth 100000 in
set_option maxHeartbeats 1000000 in
theorem mnumber_any (B b : Nat) (l : List UInt8) (num : Int) (n : Nat) (g : Addr) (w : World) (h : Bu B b l w) (hn : n < 2 ^ 64) (hg : Gv g w) (hB : B ≤ w.heap.size) (hl : l.length + (numberL num n).length ≤ 140737488355328) :
    Calls Tryd.prog 47 #[.pointer (some ⟨b, 0, none⟩), .int .i64 num, .int .u64 (n : Int)] w (BuPost B b (l ++ nmb num n) w) := by
  by_cases h0 : n = 0
  · subst h0
    have HL := Lib.hid h
    clear h
    go_enter Tryd.func47, Tryd.ntmps47
    go_wp2_with fail
    go_end0
    exact ⟨rfl, by simpa [nmb] using HL.out, Below.refl _ _⟩
  · have hne : ((n : Int) == 0) = false := by simpa using h0
    have hnd : decide (n = 0) = false := decide_eq_false h0
    have hbd : Below w.heap.size w w.drew := (Below.refl _ _).drew
    have HD := Lib.hid hbd
    have HU := Lib.hid (h.later hbd)
    have HN := Lib.hid (fun W (hW : Gv g W) => number_any num n g W hW (by simpa using hn))
    have HG := Lib.hid (hg.below hbd)
    have HX := Lib.hid (show nmb num n = numberL num n from if_neg h0)
    rw [HX.out]
    have HS := Lib.hid (And.intro hB hl)
    generalize numberL num n = X at HN HX HS ⊢
    clear h hbd hg hB hl hn
    go_enter Tryd.func47, Tryd.ntmps47
    go_wp2_with fail
    go_region_held3 (fun _ => True) (exact trivial) ((first | (go_at_call 69; refine (HN.out _ HG.out).mono ?_; rintro e w1 ⟨rfl, hb1⟩) | (go_at_call 68; refine (writeString_any B b (Lib.byteCells l) ⟨X.toArray⟩ w1 (HU.out.later hb1) (by rw [Lib.byteCells_length]; exact HS.out.2) (by have := HD.out.size; have := hb1.size; have := HS.out.1; omega)).mono ?_; rintro e w2 ⟨rfl, hbu, hb2⟩)))
    have HF := Lib.hid (And.intro hbu (((HD.out.trans (hb1.mono HD.out.size)).mono HS.out.1).trans hb2))
    clear hbu hb1 hb2
    go_wp2_with fail
    go_end0
    refine ⟨rfl, ?_, HF.out.2⟩
    have := HF.out.1
    unfold Bu
    rw [Lib.byteCells_append]
    exact Or.inr this
theorem ba_nil {s : ByteArray} (h : s.size = 0) : s = ⟨#[]⟩ := by
  obtain ⟨d⟩ := s
  have : d.size = 0 := h
  rw [Array.eq_empty_of_size_eq_zero this]
theorem ba_ne {s : ByteArray} (h : ¬ s.size = 0) : ¬ s.toList = [] := by
  intro e
  rw [ByteArray.toList_eq] at e
  exact h (by show s.data.size = 0; rw [← Array.length_toList, e]; rfl)
set_option maxRecDepth 100000 in
set_option maxHeartbeats 1000000 in
theorem mtext_any (B b : Nat) (l : List UInt8) (num : Int) (s : ByteArray) (g : Addr) (w : World) (h : Bu B b l w) (hn : s.size ≤ 140737488355328) (hg : Gv g w) (hB : B ≤ w.heap.size) (hl : l.length + (textL num s).length ≤ 140737488355328) :
    Calls Tryd.prog 48 #[.pointer (some ⟨b, 0, none⟩), .int .i64 num, .string s] w (BuPost B b (l ++ txt num s) w) := by
  by_cases h0 : s.size = 0
  · obtain rfl := ba_nil h0
    have HL := Lib.hid h
    clear h h0
    go_enter Tryd.func48, Tryd.ntmps48
    go_wp2_with fail
    go_end0
    exact ⟨rfl, by rw [show txt num ⟨#[]⟩ = [] from rfl, List.append_nil]; exact HL.out, Below.refl _ _⟩
  · have hne := ba_ne h0
    have hnb : (s.toList == []) = false := by simpa using hne
    have hbd : Below w.heap.size w w.drew := (Below.refl _ _).drew
    have HD := Lib.hid hbd
    have HU := Lib.hid (h.later hbd)
    have HN := Lib.hid (fun W (hW : Gv g W) => text_any num s g W hW hn)
    have HG := Lib.hid (hg.below hbd)
    have HX := Lib.hid (show txt num s = textL num s from if_neg h0)
    rw [HX.out]
    have HS := Lib.hid (And.intro hB hl)
    generalize textL num s = X at HN HX HS ⊢
    clear h hbd hg hB hl hn
    go_enter Tryd.func48, Tryd.ntmps48
    go_wp2_with fail
    go_region_held3 (fun _ => True) (exact trivial) ((first | (go_at_call 70; refine (HN.out _ HG.out).mono ?_; rintro e w1 ⟨rfl, hb1⟩) | (go_at_call 68; refine (writeString_any B b (Lib.byteCells l) ⟨X.toArray⟩ w1 (HU.out.later hb1) (by rw [Lib.byteCells_length]; exact HS.out.2) (by have := HD.out.size; have := hb1.size; have := HS.out.1; omega)).mono ?_; rintro e w2 ⟨rfl, hbu, hb2⟩)))
    have HF := Lib.hid (And.intro hbu (((HD.out.trans (hb1.mono HD.out.size)).mono HS.out.1).trans hb2))
    clear hbu hb1 hb2
    go_wp2_with fail
    go_end0
    refine ⟨rfl, ?_, HF.out.2⟩
    have := HF.out.1
    unfold Bu
    rw [Lib.byteCells_append]
    exact Or.inr this
/-- A field of a flag; nothing, if it is false. -/
def flg (num : Int) (f : Bool) : List UInt8 := if f then numberL num 1 else []
set_option maxRecDepth 100000 in
theorem mflag_any (B b : Nat) (l : List UInt8) (num : Int) (f : Bool) (g : Addr) (w : World) (h : Bu B b l w) (hg : Gv g w) (hB : B ≤ w.heap.size) (hl : l.length + (numberL num 1).length ≤ 140737488355328) :
    Calls Tryd.prog 49 #[.pointer (some ⟨b, 0, none⟩), .int .i64 num, .bool f] w (BuPost B b (l ++ flg num f) w) := by
  cases f with
  | false =>
    have HL := Lib.hid h
    clear h
    go_enter Tryd.func49, Tryd.ntmps49
    go_wp2_with fail
    go_end0
    exact ⟨rfl, by simpa [flg] using HL.out, Below.refl _ _⟩
  | true =>
    have HN := Lib.hid (mnumber_any B b l num 1 g w h (by decide) hg hB hl)
    have HX := Lib.hid (show l ++ flg num true = l ++ nmb num 1 from rfl)
    rw [HX.out]
    clear h hg hB hl
    go_enter Tryd.func49, Tryd.ntmps49
    go_wp2_with (go_at_call 47; refine HN.out.mono ?_; rintro e w1 ⟨rfl, hb1, hb2⟩)
    go_end0
    exact ⟨rfl, hb1, hb2⟩
theorem bu_new (w : World) : Bu w.heap.size w.heap.size [] (w.alloc (.cells #[.pointer none, .slice none 0 0] 110)) := Lib.fresh_isBuilder 110 5 w
set_option maxRecDepth 100000 in
set_option maxHeartbeats 1000000 in
theorem begun_any (k : Nat) (hk : k < 256) (w : World) : Calls Tryd.prog 46 #[.int .u8 (k : Int)] w fun e w' => ∃ b, e = .returned (.pointer (some ⟨b, 0, none⟩)) ∧ Bu w.heap.size b [k.toUInt8] w' ∧ Below w.heap.size w w' := by
  obtain ⟨w0, hw0, hb0⟩ : ∃ w0, w.alloc (.cells #[.pointer none, .slice none 0 0] 110) = w0 ∧ Below w.heap.size w w0 := ⟨_, rfl, (Below.refl _ _).alloc (Nat.le_refl _) _⟩
  have hu := bu_new w
  rw [hw0] at hu
  have HW := Lib.hid hw0
  have HB := Lib.hid hb0
  have HU := Lib.hid hu
  clear hw0 hb0 hu
  go_enter Tryd.func46, Tryd.ntmps46
  go_wp2_with (go_at_call 67; rw [HW.out]; refine (writeByte_any w.heap.size w.heap.size [] (k : Int) w0 HU.out (by decide) HB.out.size).mono ?_; rintro e w1 ⟨rfl, hb1, hb2⟩)
  go_ret
  refine ⟨_, rfl, ?_, HB.out.trans hb2⟩
  have e : Lib.byteCells [k.toUInt8] = [] ++ [Value.int .u8 (k : Int)] := by
    show [Value.int .u8 ((k.toUInt8).toNat : Int)] = [Value.int .u8 (k : Int)]
    rw [show k.toUInt8.toNat = k from by simpa using Nat.mod_eq_of_lt hk]
  unfold Bu
  rw [e]
  exact Or.inr hb1
end Go.Proofs.YtogkdekjcbljnaaDoor
