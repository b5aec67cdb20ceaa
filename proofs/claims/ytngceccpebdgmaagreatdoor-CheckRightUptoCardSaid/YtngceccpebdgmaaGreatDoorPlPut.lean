/- payload: where a field stands, and how one field is put: the walks. -/
import Derived.Test.YtngceccpebdgmaaGreatDoorNum
import Derived.Test.YtngceccpebdgmaaGreatDoorPlHas
namespace Go.Proofs.YtngceccpebdgmaaGreatDoor
open Go.RowKit

theorem payloadParts_1 (B : Nat) (w : World) : Calls Tryz.prog 80 #[.pointer (some ⟨B, 0, none⟩)] w fun e w' => e = .returned (.pointer (some ⟨B, 0, none⟩)) ∧ w = w' := by
  go_enter Tryz.func80, Tryz.ntmps80
  go_wp2
  go_ret
  exact ⟨rfl, rfl⟩
theorem payloadParts_2 (B : Nat) (w : World) : Calls Tryz.prog 82 #[.pointer (some ⟨B, 0, none⟩)] w fun e w' => e = .returned (.pointer (some ⟨B, 1, none⟩)) ∧ w = w' := by
  go_enter Tryz.func82, Tryz.ntmps82
  go_wp2
  go_ret
  exact ⟨rfl, rfl⟩
theorem payloadParts_3 (B : Nat) (w : World) : Calls Tryz.prog 83 #[.pointer (some ⟨B, 0, none⟩)] w fun e w' => e = .returned (.pointer (some ⟨B, 2, none⟩)) ∧ w = w' := by
  go_enter Tryz.func83, Tryz.ntmps83
  go_wp2
  go_ret
  exact ⟨rfl, rfl⟩
theorem payloadParts_4 (B : Nat) (w : World) : Calls Tryz.prog 85 #[.pointer (some ⟨B, 0, none⟩)] w fun e w' => e = .returned (.pointer (some ⟨B, 3, none⟩)) ∧ w = w' := by
  go_enter Tryz.func85, Tryz.ntmps85
  go_wp2
  go_ret
  exact ⟨rfl, rfl⟩
theorem payloadParts_5 (B : Nat) (w : World) : Calls Tryz.prog 87 #[.pointer (some ⟨B, 0, none⟩)] w fun e w' => e = .returned (.pointer (some ⟨B, 4, none⟩)) ∧ w = w' := by
  go_enter Tryz.func87, Tryz.ntmps87
  go_wp2
  go_ret
  exact ⟨rfl, rfl⟩
theorem payloadParts_6 (B : Nat) (w : World) : Calls Tryz.prog 88 #[.pointer (some ⟨B, 0, none⟩)] w fun e w' => e = .returned (.pointer (some ⟨B, 5, none⟩)) ∧ w = w' := by
  go_enter Tryz.func88, Tryz.ntmps88
  go_wp2
  go_ret
  exact ⟨rfl, rfl⟩
theorem payloadParts_7 (B : Nat) (w : World) : Calls Tryz.prog 90 #[.pointer (some ⟨B, 0, none⟩)] w fun e w' => e = .returned (.pointer (some ⟨B, 6, none⟩)) ∧ w = w' := by
  go_enter Tryz.func90, Tryz.ntmps90
  go_wp2
  go_ret
  exact ⟨rfl, rfl⟩
theorem payloadParts_8 (B : Nat) (w : World) : Calls Tryz.prog 92 #[.pointer (some ⟨B, 0, none⟩)] w fun e w' => e = .returned (.pointer (some ⟨B, 7, none⟩)) ∧ w = w' := by
  go_enter Tryz.func92, Tryz.ntmps92
  go_wp2
  go_ret
  exact ⟨rfl, rfl⟩
theorem ruleParts_1 (B : Nat) (w : World) : Calls Tryz.prog 117 #[.pointer (some ⟨B, 0, none⟩)] w fun e w' => e = .returned (.pointer (some ⟨B, 0, none⟩)) ∧ w = w' := by
  go_enter Tryz.func117, Tryz.ntmps117
  go_wp2
  go_ret
  exact ⟨rfl, rfl⟩
theorem ruleParts_2 (B : Nat) (w : World) : Calls Tryz.prog 118 #[.pointer (some ⟨B, 0, none⟩)] w fun e w' => e = .returned (.pointer (some ⟨B, 1, none⟩)) ∧ w = w' := by
  go_enter Tryz.func118, Tryz.ntmps118
  go_wp2
  go_ret
  exact ⟨rfl, rfl⟩
theorem addrParts_1 (B : Nat) (w : World) : Calls Tryz.prog 124 #[.pointer (some ⟨B, 0, none⟩)] w fun e w' => e = .returned (.pointer (some ⟨B, 0, none⟩)) ∧ w = w' := by
  go_enter Tryz.func124, Tryz.ntmps124
  go_wp2
  go_ret
  exact ⟨rfl, rfl⟩
theorem addrParts_2 (B : Nat) (w : World) : Calls Tryz.prog 126 #[.pointer (some ⟨B, 0, none⟩)] w fun e w' => e = .returned (.pointer (some ⟨B, 1, none⟩)) ∧ w = w' := by
  go_enter Tryz.func126, Tryz.ntmps126
  go_wp2
  go_ret
  exact ⟨rfl, rfl⟩
theorem addrParts_3 (B : Nat) (w : World) : Calls Tryz.prog 127 #[.pointer (some ⟨B, 0, none⟩)] w fun e w' => e = .returned (.pointer (some ⟨B, 2, none⟩)) ∧ w = w' := by
  go_enter Tryz.func127, Tryz.ntmps127
  go_wp2
  go_ret
  exact ⟨rfl, rfl⟩

set_option maxRecDepth 100000 in
set_option maxHeartbeats 1000000 in
theorem putPayload_0 (B bo bp bn : Nat) (num : Int) (s : ByteArray) (b : Addr) (w : World) (hg : Gv b w) (hs : s.size ≤ 140737488355328)
    (ho : w.cell? ⟨bo, 0, none⟩ = some (.func (.func 80) #[] #[])) (hp : w.cell? ⟨bp, 0, none⟩ = some (.func (.func 107) #[] #[])) (hn : w.cell? ⟨bn, 0, none⟩ = some (.int .i64 num))
    (hf : w.cell? ⟨B, 0, none⟩ = some (.string s)) :
    Calls Tryz.prog 137 #[.pointer (some ⟨B, 0, none⟩), .pointer (some ⟨bo, 0, none⟩), .pointer (some ⟨bp, 0, none⟩), .pointer (some ⟨bn, 0, none⟩)] w fun e w' => e = .returned (.string (if s.size = 0 then ⟨#[]⟩ else ⟨(textL num s).toArray⟩)) ∧ Below w.heap.size w w' := by
  have HS := Lib.hid hs; clear hs
  by_cases h0 : s.size = 0
  · rw [if_pos h0]
    have hem : s.toList.isEmpty = true := by
      rw [ByteArray.toList_eq]
      have hl : s.data.toList.length = s.size := by simp
      cases he : s.data.toList with
      | nil => rfl
      | cons x l => rw [he] at hl; simp at hl; omega
    go_enter Tryz.func137, Tryz.ntmps137
    go_wp2_with fail
    refine (payloadParts_1 _ _).mono ?_
    rintro e w2 ⟨rfl, rfl⟩
    go_wp2_with fail
    go_ret
    exact ⟨rfl, Below.refl _ _⟩
  · rw [if_neg h0]
    have hem : s.toList.isEmpty = false := by
      rw [ByteArray.toList_eq]
      have hl : s.data.toList.length = s.size := by simp
      cases he : s.data.toList with
      | nil => rw [he] at hl; simp at hl; omega
      | cons x l => rfl
    clear h0
    go_enter Tryz.func137, Tryz.ntmps137
    go_wp2_with fail
    refine (payloadParts_1 _ _).mono ?_
    rintro e w2 ⟨rfl, rfl⟩
    go_wp2_with fail
    refine (text_any num s b _ hg HS.out).mono ?_
    rintro e w3 ⟨rfl, hb3⟩
    go_wp2_with fail
    go_ret
    exact ⟨rfl, hb3⟩

set_option maxRecDepth 100000 in
set_option maxHeartbeats 1000000 in
theorem putPayload_1 (B bo bp bn : Nat) (num : Int) (n : Nat) (b : Addr) (w : World) (hg : Gv b w) (hs : n < 2 ^ 64)
    (ho : w.cell? ⟨bo, 0, none⟩ = some (.func (.func 82) #[] #[])) (hp : w.cell? ⟨bp, 0, none⟩ = some (.func (.func 110) #[] #[])) (hn : w.cell? ⟨bn, 0, none⟩ = some (.int .i64 num))
    (hf : w.cell? ⟨B, 1, none⟩ = some (.int .u64 (n : Int))) :
    Calls Tryz.prog 140 #[.pointer (some ⟨B, 0, none⟩), .pointer (some ⟨bo, 0, none⟩), .pointer (some ⟨bp, 0, none⟩), .pointer (some ⟨bn, 0, none⟩)] w fun e w' => e = .returned (.string (if n = 0 then ⟨#[]⟩ else ⟨(numberL num n).toArray⟩)) ∧ Below w.heap.size w w' := by
  have HS := Lib.hid hs; clear hs
  by_cases h0 : n = 0
  · rw [if_pos h0]
    subst h0
    go_enter Tryz.func140, Tryz.ntmps140
    go_wp2_with fail
    refine (payloadParts_2 _ _).mono ?_
    rintro e w2 ⟨rfl, rfl⟩
    go_wp2_with fail
    go_ret
    exact ⟨rfl, Below.refl _ _⟩
  · rw [if_neg h0]
    have hem : ((n : Int) != 0) = true := by simp; omega
    have hem2 : ((n : Int) == 0) = false := by simp; omega
    clear h0
    go_enter Tryz.func140, Tryz.ntmps140
    go_wp2_with fail
    refine (payloadParts_2 _ _).mono ?_
    rintro e w2 ⟨rfl, rfl⟩
    go_wp2_with fail
    refine (number_any num n b _ hg HS.out).mono ?_
    rintro e w3 ⟨rfl, hb3⟩
    go_wp2_with fail
    go_ret
    exact ⟨rfl, hb3⟩

set_option maxRecDepth 100000 in
set_option maxHeartbeats 1000000 in
theorem putPayload_2 (B bo bp bn : Nat) (num : Int) (s : ByteArray) (b : Addr) (w : World) (hg : Gv b w) (hs : s.size ≤ 140737488355328)
    (ho : w.cell? ⟨bo, 0, none⟩ = some (.func (.func 83) #[] #[])) (hp : w.cell? ⟨bp, 0, none⟩ = some (.func (.func 107) #[] #[])) (hn : w.cell? ⟨bn, 0, none⟩ = some (.int .i64 num))
    (hf : w.cell? ⟨B, 2, none⟩ = some (.string s)) :
    Calls Tryz.prog 137 #[.pointer (some ⟨B, 0, none⟩), .pointer (some ⟨bo, 0, none⟩), .pointer (some ⟨bp, 0, none⟩), .pointer (some ⟨bn, 0, none⟩)] w fun e w' => e = .returned (.string (if s.size = 0 then ⟨#[]⟩ else ⟨(textL num s).toArray⟩)) ∧ Below w.heap.size w w' := by
  have HS := Lib.hid hs; clear hs
  by_cases h0 : s.size = 0
  · rw [if_pos h0]
    have hem : s.toList.isEmpty = true := by
      rw [ByteArray.toList_eq]
      have hl : s.data.toList.length = s.size := by simp
      cases he : s.data.toList with
      | nil => rfl
      | cons x l => rw [he] at hl; simp at hl; omega
    go_enter Tryz.func137, Tryz.ntmps137
    go_wp2_with fail
    refine (payloadParts_3 _ _).mono ?_
    rintro e w2 ⟨rfl, rfl⟩
    go_wp2_with fail
    go_ret
    exact ⟨rfl, Below.refl _ _⟩
  · rw [if_neg h0]
    have hem : s.toList.isEmpty = false := by
      rw [ByteArray.toList_eq]
      have hl : s.data.toList.length = s.size := by simp
      cases he : s.data.toList with
      | nil => rw [he] at hl; simp at hl; omega
      | cons x l => rfl
    clear h0
    go_enter Tryz.func137, Tryz.ntmps137
    go_wp2_with fail
    refine (payloadParts_3 _ _).mono ?_
    rintro e w2 ⟨rfl, rfl⟩
    go_wp2_with fail
    refine (text_any num s b _ hg HS.out).mono ?_
    rintro e w3 ⟨rfl, hb3⟩
    go_wp2_with fail
    go_ret
    exact ⟨rfl, hb3⟩

set_option maxRecDepth 100000 in
set_option maxHeartbeats 1000000 in
theorem putPayload_4 (B bo bp bn : Nat) (num : Int) (n : Nat) (b : Addr) (w : World) (hg : Gv b w) (hs : n < 2 ^ 64)
    (ho : w.cell? ⟨bo, 0, none⟩ = some (.func (.func 87) #[] #[])) (hp : w.cell? ⟨bp, 0, none⟩ = some (.func (.func 110) #[] #[])) (hn : w.cell? ⟨bn, 0, none⟩ = some (.int .i64 num))
    (hf : w.cell? ⟨B, 4, none⟩ = some (.int .u64 (n : Int))) :
    Calls Tryz.prog 140 #[.pointer (some ⟨B, 0, none⟩), .pointer (some ⟨bo, 0, none⟩), .pointer (some ⟨bp, 0, none⟩), .pointer (some ⟨bn, 0, none⟩)] w fun e w' => e = .returned (.string (if n = 0 then ⟨#[]⟩ else ⟨(numberL num n).toArray⟩)) ∧ Below w.heap.size w w' := by
  have HS := Lib.hid hs; clear hs
  by_cases h0 : n = 0
  · rw [if_pos h0]
    subst h0
    go_enter Tryz.func140, Tryz.ntmps140
    go_wp2_with fail
    refine (payloadParts_5 _ _).mono ?_
    rintro e w2 ⟨rfl, rfl⟩
    go_wp2_with fail
    go_ret
    exact ⟨rfl, Below.refl _ _⟩
  · rw [if_neg h0]
    have hem : ((n : Int) != 0) = true := by simp; omega
    have hem2 : ((n : Int) == 0) = false := by simp; omega
    clear h0
    go_enter Tryz.func140, Tryz.ntmps140
    go_wp2_with fail
    refine (payloadParts_5 _ _).mono ?_
    rintro e w2 ⟨rfl, rfl⟩
    go_wp2_with fail
    refine (number_any num n b _ hg HS.out).mono ?_
    rintro e w3 ⟨rfl, hb3⟩
    go_wp2_with fail
    go_ret
    exact ⟨rfl, hb3⟩

set_option maxRecDepth 100000 in
set_option maxHeartbeats 1000000 in
theorem putPayload_5 (B bo bp bn : Nat) (num : Int) (s : ByteArray) (b : Addr) (w : World) (hg : Gv b w) (hs : s.size ≤ 140737488355328)
    (ho : w.cell? ⟨bo, 0, none⟩ = some (.func (.func 88) #[] #[])) (hp : w.cell? ⟨bp, 0, none⟩ = some (.func (.func 107) #[] #[])) (hn : w.cell? ⟨bn, 0, none⟩ = some (.int .i64 num))
    (hf : w.cell? ⟨B, 5, none⟩ = some (.string s)) :
    Calls Tryz.prog 137 #[.pointer (some ⟨B, 0, none⟩), .pointer (some ⟨bo, 0, none⟩), .pointer (some ⟨bp, 0, none⟩), .pointer (some ⟨bn, 0, none⟩)] w fun e w' => e = .returned (.string (if s.size = 0 then ⟨#[]⟩ else ⟨(textL num s).toArray⟩)) ∧ Below w.heap.size w w' := by
  have HS := Lib.hid hs; clear hs
  by_cases h0 : s.size = 0
  · rw [if_pos h0]
    have hem : s.toList.isEmpty = true := by
      rw [ByteArray.toList_eq]
      have hl : s.data.toList.length = s.size := by simp
      cases he : s.data.toList with
      | nil => rfl
      | cons x l => rw [he] at hl; simp at hl; omega
    go_enter Tryz.func137, Tryz.ntmps137
    go_wp2_with fail
    refine (payloadParts_6 _ _).mono ?_
    rintro e w2 ⟨rfl, rfl⟩
    go_wp2_with fail
    go_ret
    exact ⟨rfl, Below.refl _ _⟩
  · rw [if_neg h0]
    have hem : s.toList.isEmpty = false := by
      rw [ByteArray.toList_eq]
      have hl : s.data.toList.length = s.size := by simp
      cases he : s.data.toList with
      | nil => rw [he] at hl; simp at hl; omega
      | cons x l => rfl
    clear h0
    go_enter Tryz.func137, Tryz.ntmps137
    go_wp2_with fail
    refine (payloadParts_6 _ _).mono ?_
    rintro e w2 ⟨rfl, rfl⟩
    go_wp2_with fail
    refine (text_any num s b _ hg HS.out).mono ?_
    rintro e w3 ⟨rfl, hb3⟩
    go_wp2_with fail
    go_ret
    exact ⟨rfl, hb3⟩

set_option maxRecDepth 100000 in
set_option maxHeartbeats 1000000 in
theorem putPayload_7 (B bo bp bn : Nat) (num : Int) (s : ByteArray) (b : Addr) (w : World) (hg : Gv b w) (hs : s.size ≤ 140737488355328)
    (ho : w.cell? ⟨bo, 0, none⟩ = some (.func (.func 92) #[] #[])) (hp : w.cell? ⟨bp, 0, none⟩ = some (.func (.func 107) #[] #[])) (hn : w.cell? ⟨bn, 0, none⟩ = some (.int .i64 num))
    (hf : w.cell? ⟨B, 7, none⟩ = some (.string s)) :
    Calls Tryz.prog 137 #[.pointer (some ⟨B, 0, none⟩), .pointer (some ⟨bo, 0, none⟩), .pointer (some ⟨bp, 0, none⟩), .pointer (some ⟨bn, 0, none⟩)] w fun e w' => e = .returned (.string (if s.size = 0 then ⟨#[]⟩ else ⟨(textL num s).toArray⟩)) ∧ Below w.heap.size w w' := by
  have HS := Lib.hid hs; clear hs
  by_cases h0 : s.size = 0
  · rw [if_pos h0]
    have hem : s.toList.isEmpty = true := by
      rw [ByteArray.toList_eq]
      have hl : s.data.toList.length = s.size := by simp
      cases he : s.data.toList with
      | nil => rfl
      | cons x l => rw [he] at hl; simp at hl; omega
    go_enter Tryz.func137, Tryz.ntmps137
    go_wp2_with fail
    refine (payloadParts_8 _ _).mono ?_
    rintro e w2 ⟨rfl, rfl⟩
    go_wp2_with fail
    go_ret
    exact ⟨rfl, Below.refl _ _⟩
  · rw [if_neg h0]
    have hem : s.toList.isEmpty = false := by
      rw [ByteArray.toList_eq]
      have hl : s.data.toList.length = s.size := by simp
      cases he : s.data.toList with
      | nil => rw [he] at hl; simp at hl; omega
      | cons x l => rfl
    clear h0
    go_enter Tryz.func137, Tryz.ntmps137
    go_wp2_with fail
    refine (payloadParts_8 _ _).mono ?_
    rintro e w2 ⟨rfl, rfl⟩
    go_wp2_with fail
    refine (text_any num s b _ hg HS.out).mono ?_
    rintro e w3 ⟨rfl, hb3⟩
    go_wp2_with fail
    go_ret
    exact ⟨rfl, hb3⟩

set_option maxRecDepth 100000 in
set_option maxHeartbeats 1000000 in
theorem putRule_0 (B bo bp bn : Nat) (num : Int) (s : ByteArray) (b : Addr) (w : World) (hg : Gv b w) (hs : s.size ≤ 140737488355328)
    (ho : w.cell? ⟨bo, 0, none⟩ = some (.func (.func 117) #[] #[])) (hp : w.cell? ⟨bp, 0, none⟩ = some (.func (.func 107) #[] #[])) (hn : w.cell? ⟨bn, 0, none⟩ = some (.int .i64 num))
    (hf : w.cell? ⟨B, 0, none⟩ = some (.string s)) :
    Calls Tryz.prog 160 #[.pointer (some ⟨B, 0, none⟩), .pointer (some ⟨bo, 0, none⟩), .pointer (some ⟨bp, 0, none⟩), .pointer (some ⟨bn, 0, none⟩)] w fun e w' => e = .returned (.string (if s.size = 0 then ⟨#[]⟩ else ⟨(textL num s).toArray⟩)) ∧ Below w.heap.size w w' := by
  have HS := Lib.hid hs; clear hs
  by_cases h0 : s.size = 0
  · rw [if_pos h0]
    have hem : s.toList.isEmpty = true := by
      rw [ByteArray.toList_eq]
      have hl : s.data.toList.length = s.size := by simp
      cases he : s.data.toList with
      | nil => rfl
      | cons x l => rw [he] at hl; simp at hl; omega
    go_enter Tryz.func160, Tryz.ntmps160
    go_wp2_with fail
    refine (ruleParts_1 _ _).mono ?_
    rintro e w2 ⟨rfl, rfl⟩
    go_wp2_with fail
    go_ret
    exact ⟨rfl, Below.refl _ _⟩
  · rw [if_neg h0]
    have hem : s.toList.isEmpty = false := by
      rw [ByteArray.toList_eq]
      have hl : s.data.toList.length = s.size := by simp
      cases he : s.data.toList with
      | nil => rw [he] at hl; simp at hl; omega
      | cons x l => rfl
    clear h0
    go_enter Tryz.func160, Tryz.ntmps160
    go_wp2_with fail
    refine (ruleParts_1 _ _).mono ?_
    rintro e w2 ⟨rfl, rfl⟩
    go_wp2_with fail
    refine (text_any num s b _ hg HS.out).mono ?_
    rintro e w3 ⟨rfl, hb3⟩
    go_wp2_with fail
    go_ret
    exact ⟨rfl, hb3⟩

set_option maxRecDepth 100000 in
set_option maxHeartbeats 1000000 in
theorem putRule_1 (B bo bp bn : Nat) (num : Int) (s : ByteArray) (b : Addr) (w : World) (hg : Gv b w) (hs : s.size ≤ 140737488355328)
    (ho : w.cell? ⟨bo, 0, none⟩ = some (.func (.func 118) #[] #[])) (hp : w.cell? ⟨bp, 0, none⟩ = some (.func (.func 107) #[] #[])) (hn : w.cell? ⟨bn, 0, none⟩ = some (.int .i64 num))
    (hf : w.cell? ⟨B, 1, none⟩ = some (.string s)) :
    Calls Tryz.prog 160 #[.pointer (some ⟨B, 0, none⟩), .pointer (some ⟨bo, 0, none⟩), .pointer (some ⟨bp, 0, none⟩), .pointer (some ⟨bn, 0, none⟩)] w fun e w' => e = .returned (.string (if s.size = 0 then ⟨#[]⟩ else ⟨(textL num s).toArray⟩)) ∧ Below w.heap.size w w' := by
  have HS := Lib.hid hs; clear hs
  by_cases h0 : s.size = 0
  · rw [if_pos h0]
    have hem : s.toList.isEmpty = true := by
      rw [ByteArray.toList_eq]
      have hl : s.data.toList.length = s.size := by simp
      cases he : s.data.toList with
      | nil => rfl
      | cons x l => rw [he] at hl; simp at hl; omega
    go_enter Tryz.func160, Tryz.ntmps160
    go_wp2_with fail
    refine (ruleParts_2 _ _).mono ?_
    rintro e w2 ⟨rfl, rfl⟩
    go_wp2_with fail
    go_ret
    exact ⟨rfl, Below.refl _ _⟩
  · rw [if_neg h0]
    have hem : s.toList.isEmpty = false := by
      rw [ByteArray.toList_eq]
      have hl : s.data.toList.length = s.size := by simp
      cases he : s.data.toList with
      | nil => rw [he] at hl; simp at hl; omega
      | cons x l => rfl
    clear h0
    go_enter Tryz.func160, Tryz.ntmps160
    go_wp2_with fail
    refine (ruleParts_2 _ _).mono ?_
    rintro e w2 ⟨rfl, rfl⟩
    go_wp2_with fail
    refine (text_any num s b _ hg HS.out).mono ?_
    rintro e w3 ⟨rfl, hb3⟩
    go_wp2_with fail
    go_ret
    exact ⟨rfl, hb3⟩

set_option maxRecDepth 100000 in
set_option maxHeartbeats 1000000 in
theorem putAddr_0 (B bo bp bn : Nat) (num : Int) (s : ByteArray) (b : Addr) (w : World) (hg : Gv b w) (hs : s.size ≤ 140737488355328)
    (ho : w.cell? ⟨bo, 0, none⟩ = some (.func (.func 124) #[] #[])) (hp : w.cell? ⟨bp, 0, none⟩ = some (.func (.func 107) #[] #[])) (hn : w.cell? ⟨bn, 0, none⟩ = some (.int .i64 num))
    (hf : w.cell? ⟨B, 0, none⟩ = some (.string s)) :
    Calls Tryz.prog 162 #[.pointer (some ⟨B, 0, none⟩), .pointer (some ⟨bo, 0, none⟩), .pointer (some ⟨bp, 0, none⟩), .pointer (some ⟨bn, 0, none⟩)] w fun e w' => e = .returned (.string (if s.size = 0 then ⟨#[]⟩ else ⟨(textL num s).toArray⟩)) ∧ Below w.heap.size w w' := by
  have HS := Lib.hid hs; clear hs
  by_cases h0 : s.size = 0
  · rw [if_pos h0]
    have hem : s.toList.isEmpty = true := by
      rw [ByteArray.toList_eq]
      have hl : s.data.toList.length = s.size := by simp
      cases he : s.data.toList with
      | nil => rfl
      | cons x l => rw [he] at hl; simp at hl; omega
    go_enter Tryz.func162, Tryz.ntmps162
    go_wp2_with fail
    refine (addrParts_1 _ _).mono ?_
    rintro e w2 ⟨rfl, rfl⟩
    go_wp2_with fail
    go_ret
    exact ⟨rfl, Below.refl _ _⟩
  · rw [if_neg h0]
    have hem : s.toList.isEmpty = false := by
      rw [ByteArray.toList_eq]
      have hl : s.data.toList.length = s.size := by simp
      cases he : s.data.toList with
      | nil => rw [he] at hl; simp at hl; omega
      | cons x l => rfl
    clear h0
    go_enter Tryz.func162, Tryz.ntmps162
    go_wp2_with fail
    refine (addrParts_1 _ _).mono ?_
    rintro e w2 ⟨rfl, rfl⟩
    go_wp2_with fail
    refine (text_any num s b _ hg HS.out).mono ?_
    rintro e w3 ⟨rfl, hb3⟩
    go_wp2_with fail
    go_ret
    exact ⟨rfl, hb3⟩

set_option maxRecDepth 100000 in
set_option maxHeartbeats 1000000 in
theorem putAddr_1 (B bo bp bn : Nat) (num : Int) (n : Nat) (b : Addr) (w : World) (hg : Gv b w) (hs : n < 2 ^ 64)
    (ho : w.cell? ⟨bo, 0, none⟩ = some (.func (.func 126) #[] #[])) (hp : w.cell? ⟨bp, 0, none⟩ = some (.func (.func 110) #[] #[])) (hn : w.cell? ⟨bn, 0, none⟩ = some (.int .i64 num))
    (hf : w.cell? ⟨B, 1, none⟩ = some (.int .u64 (n : Int))) :
    Calls Tryz.prog 164 #[.pointer (some ⟨B, 0, none⟩), .pointer (some ⟨bo, 0, none⟩), .pointer (some ⟨bp, 0, none⟩), .pointer (some ⟨bn, 0, none⟩)] w fun e w' => e = .returned (.string (if n = 0 then ⟨#[]⟩ else ⟨(numberL num n).toArray⟩)) ∧ Below w.heap.size w w' := by
  have HS := Lib.hid hs; clear hs
  by_cases h0 : n = 0
  · rw [if_pos h0]
    subst h0
    go_enter Tryz.func164, Tryz.ntmps164
    go_wp2_with fail
    refine (addrParts_2 _ _).mono ?_
    rintro e w2 ⟨rfl, rfl⟩
    go_wp2_with fail
    go_ret
    exact ⟨rfl, Below.refl _ _⟩
  · rw [if_neg h0]
    have hem : ((n : Int) != 0) = true := by simp; omega
    have hem2 : ((n : Int) == 0) = false := by simp; omega
    clear h0
    go_enter Tryz.func164, Tryz.ntmps164
    go_wp2_with fail
    refine (addrParts_2 _ _).mono ?_
    rintro e w2 ⟨rfl, rfl⟩
    go_wp2_with fail
    refine (number_any num n b _ hg HS.out).mono ?_
    rintro e w3 ⟨rfl, hb3⟩
    go_wp2_with fail
    go_ret
    exact ⟨rfl, hb3⟩

set_option maxRecDepth 100000 in
set_option maxHeartbeats 1000000 in
theorem putAddr_2 (B bo bp bn : Nat) (num : Int) (n : Nat) (b : Addr) (w : World) (hg : Gv b w) (hs : n < 2 ^ 64)
    (ho : w.cell? ⟨bo, 0, none⟩ = some (.func (.func 127) #[] #[])) (hp : w.cell? ⟨bp, 0, none⟩ = some (.func (.func 110) #[] #[])) (hn : w.cell? ⟨bn, 0, none⟩ = some (.int .i64 num))
    (hf : w.cell? ⟨B, 2, none⟩ = some (.int .u64 (n : Int))) :
    Calls Tryz.prog 164 #[.pointer (some ⟨B, 0, none⟩), .pointer (some ⟨bo, 0, none⟩), .pointer (some ⟨bp, 0, none⟩), .pointer (some ⟨bn, 0, none⟩)] w fun e w' => e = .returned (.string (if n = 0 then ⟨#[]⟩ else ⟨(numberL num n).toArray⟩)) ∧ Below w.heap.size w w' := by
  have HS := Lib.hid hs; clear hs
  by_cases h0 : n = 0
  · rw [if_pos h0]
    subst h0
    go_enter Tryz.func164, Tryz.ntmps164
    go_wp2_with fail
    refine (addrParts_3 _ _).mono ?_
    rintro e w2 ⟨rfl, rfl⟩
    go_wp2_with fail
    go_ret
    exact ⟨rfl, Below.refl _ _⟩
  · rw [if_neg h0]
    have hem : ((n : Int) != 0) = true := by simp; omega
    have hem2 : ((n : Int) == 0) = false := by simp; omega
    clear h0
    go_enter Tryz.func164, Tryz.ntmps164
    go_wp2_with fail
    refine (addrParts_3 _ _).mono ?_
    rintro e w2 ⟨rfl, rfl⟩
    go_wp2_with fail
    refine (number_any num n b _ hg HS.out).mono ?_
    rintro e w3 ⟨rfl, hb3⟩
    go_wp2_with fail
    go_ret
    exact ⟨rfl, hb3⟩
end Go.Proofs.YtngceccpebdgmaaGreatDoor
