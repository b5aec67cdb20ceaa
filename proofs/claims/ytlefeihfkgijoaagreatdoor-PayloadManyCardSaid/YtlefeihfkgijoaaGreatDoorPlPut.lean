/- payload: where a field stands, and how one field is put: the walks. -/
import Derived.Test.YtlefeihfkgijoaaGreatDoorNum
import Derived.Test.YtlefeihfkgijoaaGreatDoorPlHas
namespace Go.Proofs.YtlefeihfkgijoaaGreatDoor
open Go.RowKit

theorem payloadParts_1 (B : Nat) (w : World) : Calls Tryz.prog 58 #[.pointer (some ⟨B, 0, none⟩)] w fun e w' => e = .returned (.pointer (some ⟨B, 0, none⟩)) ∧ w = w' := by
  go_enter Tryz.func58, Tryz.ntmps58
  go_wp2
  go_ret
  exact ⟨rfl, rfl⟩
theorem payloadParts_2 (B : Nat) (w : World) : Calls Tryz.prog 60 #[.pointer (some ⟨B, 0, none⟩)] w fun e w' => e = .returned (.pointer (some ⟨B, 1, none⟩)) ∧ w = w' := by
  go_enter Tryz.func60, Tryz.ntmps60
  go_wp2
  go_ret
  exact ⟨rfl, rfl⟩
theorem payloadParts_3 (B : Nat) (w : World) : Calls Tryz.prog 61 #[.pointer (some ⟨B, 0, none⟩)] w fun e w' => e = .returned (.pointer (some ⟨B, 2, none⟩)) ∧ w = w' := by
  go_enter Tryz.func61, Tryz.ntmps61
  go_wp2
  go_ret
  exact ⟨rfl, rfl⟩
theorem payloadParts_4 (B : Nat) (w : World) : Calls Tryz.prog 63 #[.pointer (some ⟨B, 0, none⟩)] w fun e w' => e = .returned (.pointer (some ⟨B, 3, none⟩)) ∧ w = w' := by
  go_enter Tryz.func63, Tryz.ntmps63
  go_wp2
  go_ret
  exact ⟨rfl, rfl⟩
theorem payloadParts_5 (B : Nat) (w : World) : Calls Tryz.prog 65 #[.pointer (some ⟨B, 0, none⟩)] w fun e w' => e = .returned (.pointer (some ⟨B, 4, none⟩)) ∧ w = w' := by
  go_enter Tryz.func65, Tryz.ntmps65
  go_wp2
  go_ret
  exact ⟨rfl, rfl⟩
theorem payloadParts_6 (B : Nat) (w : World) : Calls Tryz.prog 66 #[.pointer (some ⟨B, 0, none⟩)] w fun e w' => e = .returned (.pointer (some ⟨B, 5, none⟩)) ∧ w = w' := by
  go_enter Tryz.func66, Tryz.ntmps66
  go_wp2
  go_ret
  exact ⟨rfl, rfl⟩
theorem payloadParts_7 (B : Nat) (w : World) : Calls Tryz.prog 68 #[.pointer (some ⟨B, 0, none⟩)] w fun e w' => e = .returned (.pointer (some ⟨B, 6, none⟩)) ∧ w = w' := by
  go_enter Tryz.func68, Tryz.ntmps68
  go_wp2
  go_ret
  exact ⟨rfl, rfl⟩
theorem payloadParts_8 (B : Nat) (w : World) : Calls Tryz.prog 70 #[.pointer (some ⟨B, 0, none⟩)] w fun e w' => e = .returned (.pointer (some ⟨B, 7, none⟩)) ∧ w = w' := by
  go_enter Tryz.func70, Tryz.ntmps70
  go_wp2
  go_ret
  exact ⟨rfl, rfl⟩
theorem ruleParts_1 (B : Nat) (w : World) : Calls Tryz.prog 89 #[.pointer (some ⟨B, 0, none⟩)] w fun e w' => e = .returned (.pointer (some ⟨B, 0, none⟩)) ∧ w = w' := by
  go_enter Tryz.func89, Tryz.ntmps89
  go_wp2
  go_ret
  exact ⟨rfl, rfl⟩
theorem ruleParts_2 (B : Nat) (w : World) : Calls Tryz.prog 90 #[.pointer (some ⟨B, 0, none⟩)] w fun e w' => e = .returned (.pointer (some ⟨B, 1, none⟩)) ∧ w = w' := by
  go_enter Tryz.func90, Tryz.ntmps90
  go_wp2
  go_ret
  exact ⟨rfl, rfl⟩
theorem addrParts_1 (B : Nat) (w : World) : Calls Tryz.prog 96 #[.pointer (some ⟨B, 0, none⟩)] w fun e w' => e = .returned (.pointer (some ⟨B, 0, none⟩)) ∧ w = w' := by
  go_enter Tryz.func96, Tryz.ntmps96
  go_wp2
  go_ret
  exact ⟨rfl, rfl⟩
theorem addrParts_2 (B : Nat) (w : World) : Calls Tryz.prog 98 #[.pointer (some ⟨B, 0, none⟩)] w fun e w' => e = .returned (.pointer (some ⟨B, 1, none⟩)) ∧ w = w' := by
  go_enter Tryz.func98, Tryz.ntmps98
  go_wp2
  go_ret
  exact ⟨rfl, rfl⟩
theorem addrParts_3 (B : Nat) (w : World) : Calls Tryz.prog 99 #[.pointer (some ⟨B, 0, none⟩)] w fun e w' => e = .returned (.pointer (some ⟨B, 2, none⟩)) ∧ w = w' := by
  go_enter Tryz.func99, Tryz.ntmps99
  go_wp2
  go_ret
  exact ⟨rfl, rfl⟩

set_option maxRecDepth 100000 in
set_option maxHeartbeats 1000000 in
theorem putPayload_0 (B bo bp bn : Nat) (num : Int) (s : ByteArray) (b : Addr) (w : World) (hg : Gv b w) (hs : s.size ≤ 140737488355328)
    (ho : w.cell? ⟨bo, 0, none⟩ = some (.func (.func 58) #[] #[])) (hp : w.cell? ⟨bp, 0, none⟩ = some (.func (.func 26) #[] #[])) (hn : w.cell? ⟨bn, 0, none⟩ = some (.int .i64 num))
    (hf : w.cell? ⟨B, 0, none⟩ = some (.string s)) :
    Calls Tryz.prog 104 #[.pointer (some ⟨B, 0, none⟩), .pointer (some ⟨bo, 0, none⟩), .pointer (some ⟨bp, 0, none⟩), .pointer (some ⟨bn, 0, none⟩)] w fun e w' => e = .returned (.string (if s.size = 0 then ⟨#[]⟩ else ⟨(textL num s).toArray⟩)) ∧ Below w.heap.size w w' := by
  have HS := Lib.hid hs; clear hs
  by_cases h0 : s.size = 0
  · rw [if_pos h0]
    have hem : s.toList.isEmpty = true := by
      rw [ByteArray.toList_eq]
      have hl : s.data.toList.length = s.size := by simp
      cases he : s.data.toList with
      | nil => rfl
      | cons x l => rw [he] at hl; simp at hl; omega
    go_enter Tryz.func104, Tryz.ntmps104
    go_wp2_with fail
    refine (payloadParts_1 _ _).mono ?_
    rintro e w2 ⟨rfl, rfl⟩
    go_wp2_with fail
    go_ret
    exact ⟨rfl, Below.refl _ _⟩
  · rw [if_neg h0]
    have hem : s.toList.isEmpty = false := by
      rw [ByteArray.toList_eq]
      have hl : s.data.toList.length = s.size := by simp
      cases he : s.data.toList with
      | nil => rw [he] at hl; simp at hl; omega
      | cons x l => rfl
    clear h0
    go_enter Tryz.func104, Tryz.ntmps104
    go_wp2_with fail
    refine (payloadParts_1 _ _).mono ?_
    rintro e w2 ⟨rfl, rfl⟩
    go_wp2_with fail
    refine (text_any num s b _ hg HS.out).mono ?_
    rintro e w3 ⟨rfl, hb3⟩
    go_wp2_with fail
    go_ret
    exact ⟨rfl, hb3⟩

set_option maxRecDepth 100000 in
set_option maxHeartbeats 1000000 in
theorem putPayload_1 (B bo bp bn : Nat) (num : Int) (n : Nat) (b : Addr) (w : World) (hg : Gv b w) (hs : n < 2 ^ 64)
    (ho : w.cell? ⟨bo, 0, none⟩ = some (.func (.func 60) #[] #[])) (hp : w.cell? ⟨bp, 0, none⟩ = some (.func (.func 25) #[] #[])) (hn : w.cell? ⟨bn, 0, none⟩ = some (.int .i64 num))
    (hf : w.cell? ⟨B, 1, none⟩ = some (.int .u64 (n : Int))) :
    Calls Tryz.prog 106 #[.pointer (some ⟨B, 0, none⟩), .pointer (some ⟨bo, 0, none⟩), .pointer (some ⟨bp, 0, none⟩), .pointer (some ⟨bn, 0, none⟩)] w fun e w' => e = .returned (.string (if n = 0 then ⟨#[]⟩ else ⟨(numberL num n).toArray⟩)) ∧ Below w.heap.size w w' := by
  have HS := Lib.hid hs; clear hs
  by_cases h0 : n = 0
  · rw [if_pos h0]
    subst h0
    go_enter Tryz.func106, Tryz.ntmps106
    go_wp2_with fail
    refine (payloadParts_2 _ _).mono ?_
    rintro e w2 ⟨rfl, rfl⟩
    go_wp2_with fail
    go_ret
    exact ⟨rfl, Below.refl _ _⟩
  · rw [if_neg h0]
    have hem : ((n : Int) != 0) = true := by simp; omega
    have hem2 : ((n : Int) == 0) = false := by simp; omega
    clear h0
    go_enter Tryz.func106, Tryz.ntmps106
    go_wp2_with fail
    refine (payloadParts_2 _ _).mono ?_
    rintro e w2 ⟨rfl, rfl⟩
    go_wp2_with fail
    refine (number_any num n b _ hg HS.out).mono ?_
    rintro e w3 ⟨rfl, hb3⟩
    go_wp2_with fail
    go_ret
    exact ⟨rfl, hb3⟩

set_option maxRecDepth 100000 in
set_option maxHeartbeats 1000000 in
theorem putPayload_2 (B bo bp bn : Nat) (num : Int) (s : ByteArray) (b : Addr) (w : World) (hg : Gv b w) (hs : s.size ≤ 140737488355328)
    (ho : w.cell? ⟨bo, 0, none⟩ = some (.func (.func 61) #[] #[])) (hp : w.cell? ⟨bp, 0, none⟩ = some (.func (.func 26) #[] #[])) (hn : w.cell? ⟨bn, 0, none⟩ = some (.int .i64 num))
    (hf : w.cell? ⟨B, 2, none⟩ = some (.string s)) :
    Calls Tryz.prog 104 #[.pointer (some ⟨B, 0, none⟩), .pointer (some ⟨bo, 0, none⟩), .pointer (some ⟨bp, 0, none⟩), .pointer (some ⟨bn, 0, none⟩)] w fun e w' => e = .returned (.string (if s.size = 0 then ⟨#[]⟩ else ⟨(textL num s).toArray⟩)) ∧ Below w.heap.size w w' := by
  have HS := Lib.hid hs; clear hs
  by_cases h0 : s.size = 0
  · rw [if_pos h0]
    have hem : s.toList.isEmpty = true := by
      rw [ByteArray.toList_eq]
      have hl : s.data.toList.length = s.size := by simp
      cases he : s.data.toList with
      | nil => rfl
      | cons x l => rw [he] at hl; simp at hl; omega
    go_enter Tryz.func104, Tryz.ntmps104
    go_wp2_with fail
    refine (payloadParts_3 _ _).mono ?_
    rintro e w2 ⟨rfl, rfl⟩
    go_wp2_with fail
    go_ret
    exact ⟨rfl, Below.refl _ _⟩
  · rw [if_neg h0]
    have hem : s.toList.isEmpty = false := by
      rw [ByteArray.toList_eq]
      have hl : s.data.toList.length = s.size := by simp
      cases he : s.data.toList with
      | nil => rw [he] at hl; simp at hl; omega
      | cons x l => rfl
    clear h0
    go_enter Tryz.func104, Tryz.ntmps104
    go_wp2_with fail
    refine (payloadParts_3 _ _).mono ?_
    rintro e w2 ⟨rfl, rfl⟩
    go_wp2_with fail
    refine (text_any num s b _ hg HS.out).mono ?_
    rintro e w3 ⟨rfl, hb3⟩
    go_wp2_with fail
    go_ret
    exact ⟨rfl, hb3⟩

set_option maxRecDepth 100000 in
set_option maxHeartbeats 1000000 in
theorem putPayload_4 (B bo bp bn : Nat) (num : Int) (n : Nat) (b : Addr) (w : World) (hg : Gv b w) (hs : n < 2 ^ 64)
    (ho : w.cell? ⟨bo, 0, none⟩ = some (.func (.func 65) #[] #[])) (hp : w.cell? ⟨bp, 0, none⟩ = some (.func (.func 25) #[] #[])) (hn : w.cell? ⟨bn, 0, none⟩ = some (.int .i64 num))
    (hf : w.cell? ⟨B, 4, none⟩ = some (.int .u64 (n : Int))) :
    Calls Tryz.prog 106 #[.pointer (some ⟨B, 0, none⟩), .pointer (some ⟨bo, 0, none⟩), .pointer (some ⟨bp, 0, none⟩), .pointer (some ⟨bn, 0, none⟩)] w fun e w' => e = .returned (.string (if n = 0 then ⟨#[]⟩ else ⟨(numberL num n).toArray⟩)) ∧ Below w.heap.size w w' := by
  have HS := Lib.hid hs; clear hs
  by_cases h0 : n = 0
  · rw [if_pos h0]
    subst h0
    go_enter Tryz.func106, Tryz.ntmps106
    go_wp2_with fail
    refine (payloadParts_5 _ _).mono ?_
    rintro e w2 ⟨rfl, rfl⟩
    go_wp2_with fail
    go_ret
    exact ⟨rfl, Below.refl _ _⟩
  · rw [if_neg h0]
    have hem : ((n : Int) != 0) = true := by simp; omega
    have hem2 : ((n : Int) == 0) = false := by simp; omega
    clear h0
    go_enter Tryz.func106, Tryz.ntmps106
    go_wp2_with fail
    refine (payloadParts_5 _ _).mono ?_
    rintro e w2 ⟨rfl, rfl⟩
    go_wp2_with fail
    refine (number_any num n b _ hg HS.out).mono ?_
    rintro e w3 ⟨rfl, hb3⟩
    go_wp2_with fail
    go_ret
    exact ⟨rfl, hb3⟩

set_option maxRecDepth 100000 in
set_option maxHeartbeats 1000000 in
theorem putPayload_5 (B bo bp bn : Nat) (num : Int) (s : ByteArray) (b : Addr) (w : World) (hg : Gv b w) (hs : s.size ≤ 140737488355328)
    (ho : w.cell? ⟨bo, 0, none⟩ = some (.func (.func 66) #[] #[])) (hp : w.cell? ⟨bp, 0, none⟩ = some (.func (.func 26) #[] #[])) (hn : w.cell? ⟨bn, 0, none⟩ = some (.int .i64 num))
    (hf : w.cell? ⟨B, 5, none⟩ = some (.string s)) :
    Calls Tryz.prog 104 #[.pointer (some ⟨B, 0, none⟩), .pointer (some ⟨bo, 0, none⟩), .pointer (some ⟨bp, 0, none⟩), .pointer (some ⟨bn, 0, none⟩)] w fun e w' => e = .returned (.string (if s.size = 0 then ⟨#[]⟩ else ⟨(textL num s).toArray⟩)) ∧ Below w.heap.size w w' := by
  have HS := Lib.hid hs; clear hs
  by_cases h0 : s.size = 0
  · rw [if_pos h0]
    have hem : s.toList.isEmpty = true := by
      rw [ByteArray.toList_eq]
      have hl : s.data.toList.length = s.size := by simp
      cases he : s.data.toList with
      | nil => rfl
      | cons x l => rw [he] at hl; simp at hl; omega
    go_enter Tryz.func104, Tryz.ntmps104
    go_wp2_with fail
    refine (payloadParts_6 _ _).mono ?_
    rintro e w2 ⟨rfl, rfl⟩
    go_wp2_with fail
    go_ret
    exact ⟨rfl, Below.refl _ _⟩
  · rw [if_neg h0]
    have hem : s.toList.isEmpty = false := by
      rw [ByteArray.toList_eq]
      have hl : s.data.toList.length = s.size := by simp
      cases he : s.data.toList with
      | nil => rw [he] at hl; simp at hl; omega
      | cons x l => rfl
    clear h0
    go_enter Tryz.func104, Tryz.ntmps104
    go_wp2_with fail
    refine (payloadParts_6 _ _).mono ?_
    rintro e w2 ⟨rfl, rfl⟩
    go_wp2_with fail
    refine (text_any num s b _ hg HS.out).mono ?_
    rintro e w3 ⟨rfl, hb3⟩
    go_wp2_with fail
    go_ret
    exact ⟨rfl, hb3⟩

set_option maxRecDepth 100000 in
set_option maxHeartbeats 1000000 in
theorem putPayload_7 (B bo bp bn : Nat) (num : Int) (s : ByteArray) (b : Addr) (w : World) (hg : Gv b w) (hs : s.size ≤ 140737488355328)
    (ho : w.cell? ⟨bo, 0, none⟩ = some (.func (.func 70) #[] #[])) (hp : w.cell? ⟨bp, 0, none⟩ = some (.func (.func 26) #[] #[])) (hn : w.cell? ⟨bn, 0, none⟩ = some (.int .i64 num))
    (hf : w.cell? ⟨B, 7, none⟩ = some (.string s)) :
    Calls Tryz.prog 104 #[.pointer (some ⟨B, 0, none⟩), .pointer (some ⟨bo, 0, none⟩), .pointer (some ⟨bp, 0, none⟩), .pointer (some ⟨bn, 0, none⟩)] w fun e w' => e = .returned (.string (if s.size = 0 then ⟨#[]⟩ else ⟨(textL num s).toArray⟩)) ∧ Below w.heap.size w w' := by
  have HS := Lib.hid hs; clear hs
  by_cases h0 : s.size = 0
  · rw [if_pos h0]
    have hem : s.toList.isEmpty = true := by
      rw [ByteArray.toList_eq]
      have hl : s.data.toList.length = s.size := by simp
      cases he : s.data.toList with
      | nil => rfl
      | cons x l => rw [he] at hl; simp at hl; omega
    go_enter Tryz.func104, Tryz.ntmps104
    go_wp2_with fail
    refine (payloadParts_8 _ _).mono ?_
    rintro e w2 ⟨rfl, rfl⟩
    go_wp2_with fail
    go_ret
    exact ⟨rfl, Below.refl _ _⟩
  · rw [if_neg h0]
    have hem : s.toList.isEmpty = false := by
      rw [ByteArray.toList_eq]
      have hl : s.data.toList.length = s.size := by simp
      cases he : s.data.toList with
      | nil => rw [he] at hl; simp at hl; omega
      | cons x l => rfl
    clear h0
    go_enter Tryz.func104, Tryz.ntmps104
    go_wp2_with fail
    refine (payloadParts_8 _ _).mono ?_
    rintro e w2 ⟨rfl, rfl⟩
    go_wp2_with fail
    refine (text_any num s b _ hg HS.out).mono ?_
    rintro e w3 ⟨rfl, hb3⟩
    go_wp2_with fail
    go_ret
    exact ⟨rfl, hb3⟩

set_option maxRecDepth 100000 in
set_option maxHeartbeats 1000000 in
theorem putRule_0 (B bo bp bn : Nat) (num : Int) (s : ByteArray) (b : Addr) (w : World) (hg : Gv b w) (hs : s.size ≤ 140737488355328)
    (ho : w.cell? ⟨bo, 0, none⟩ = some (.func (.func 89) #[] #[])) (hp : w.cell? ⟨bp, 0, none⟩ = some (.func (.func 26) #[] #[])) (hn : w.cell? ⟨bn, 0, none⟩ = some (.int .i64 num))
    (hf : w.cell? ⟨B, 0, none⟩ = some (.string s)) :
    Calls Tryz.prog 119 #[.pointer (some ⟨B, 0, none⟩), .pointer (some ⟨bo, 0, none⟩), .pointer (some ⟨bp, 0, none⟩), .pointer (some ⟨bn, 0, none⟩)] w fun e w' => e = .returned (.string (if s.size = 0 then ⟨#[]⟩ else ⟨(textL num s).toArray⟩)) ∧ Below w.heap.size w w' := by
  have HS := Lib.hid hs; clear hs
  by_cases h0 : s.size = 0
  · rw [if_pos h0]
    have hem : s.toList.isEmpty = true := by
      rw [ByteArray.toList_eq]
      have hl : s.data.toList.length = s.size := by simp
      cases he : s.data.toList with
      | nil => rfl
      | cons x l => rw [he] at hl; simp at hl; omega
    go_enter Tryz.func119, Tryz.ntmps119
    go_wp2_with fail
    refine (ruleParts_1 _ _).mono ?_
    rintro e w2 ⟨rfl, rfl⟩
    go_wp2_with fail
    go_ret
    exact ⟨rfl, Below.refl _ _⟩
  · rw [if_neg h0]
    have hem : s.toList.isEmpty = false := by
      rw [ByteArray.toList_eq]
      have hl : s.data.toList.length = s.size := by simp
      cases he : s.data.toList with
      | nil => rw [he] at hl; simp at hl; omega
      | cons x l => rfl
    clear h0
    go_enter Tryz.func119, Tryz.ntmps119
    go_wp2_with fail
    refine (ruleParts_1 _ _).mono ?_
    rintro e w2 ⟨rfl, rfl⟩
    go_wp2_with fail
    refine (text_any num s b _ hg HS.out).mono ?_
    rintro e w3 ⟨rfl, hb3⟩
    go_wp2_with fail
    go_ret
    exact ⟨rfl, hb3⟩

set_option maxRecDepth 100000 in
set_option maxHeartbeats 1000000 in
theorem putRule_1 (B bo bp bn : Nat) (num : Int) (s : ByteArray) (b : Addr) (w : World) (hg : Gv b w) (hs : s.size ≤ 140737488355328)
    (ho : w.cell? ⟨bo, 0, none⟩ = some (.func (.func 90) #[] #[])) (hp : w.cell? ⟨bp, 0, none⟩ = some (.func (.func 26) #[] #[])) (hn : w.cell? ⟨bn, 0, none⟩ = some (.int .i64 num))
    (hf : w.cell? ⟨B, 1, none⟩ = some (.string s)) :
    Calls Tryz.prog 119 #[.pointer (some ⟨B, 0, none⟩), .pointer (some ⟨bo, 0, none⟩), .pointer (some ⟨bp, 0, none⟩), .pointer (some ⟨bn, 0, none⟩)] w fun e w' => e = .returned (.string (if s.size = 0 then ⟨#[]⟩ else ⟨(textL num s).toArray⟩)) ∧ Below w.heap.size w w' := by
  have HS := Lib.hid hs; clear hs
  by_cases h0 : s.size = 0
  · rw [if_pos h0]
    have hem : s.toList.isEmpty = true := by
      rw [ByteArray.toList_eq]
      have hl : s.data.toList.length = s.size := by simp
      cases he : s.data.toList with
      | nil => rfl
      | cons x l => rw [he] at hl; simp at hl; omega
    go_enter Tryz.func119, Tryz.ntmps119
    go_wp2_with fail
    refine (ruleParts_2 _ _).mono ?_
    rintro e w2 ⟨rfl, rfl⟩
    go_wp2_with fail
    go_ret
    exact ⟨rfl, Below.refl _ _⟩
  · rw [if_neg h0]
    have hem : s.toList.isEmpty = false := by
      rw [ByteArray.toList_eq]
      have hl : s.data.toList.length = s.size := by simp
      cases he : s.data.toList with
      | nil => rw [he] at hl; simp at hl; omega
      | cons x l => rfl
    clear h0
    go_enter Tryz.func119, Tryz.ntmps119
    go_wp2_with fail
    refine (ruleParts_2 _ _).mono ?_
    rintro e w2 ⟨rfl, rfl⟩
    go_wp2_with fail
    refine (text_any num s b _ hg HS.out).mono ?_
    rintro e w3 ⟨rfl, hb3⟩
    go_wp2_with fail
    go_ret
    exact ⟨rfl, hb3⟩

set_option maxRecDepth 100000 in
set_option maxHeartbeats 1000000 in
theorem putAddr_0 (B bo bp bn : Nat) (num : Int) (s : ByteArray) (b : Addr) (w : World) (hg : Gv b w) (hs : s.size ≤ 140737488355328)
    (ho : w.cell? ⟨bo, 0, none⟩ = some (.func (.func 96) #[] #[])) (hp : w.cell? ⟨bp, 0, none⟩ = some (.func (.func 26) #[] #[])) (hn : w.cell? ⟨bn, 0, none⟩ = some (.int .i64 num))
    (hf : w.cell? ⟨B, 0, none⟩ = some (.string s)) :
    Calls Tryz.prog 121 #[.pointer (some ⟨B, 0, none⟩), .pointer (some ⟨bo, 0, none⟩), .pointer (some ⟨bp, 0, none⟩), .pointer (some ⟨bn, 0, none⟩)] w fun e w' => e = .returned (.string (if s.size = 0 then ⟨#[]⟩ else ⟨(textL num s).toArray⟩)) ∧ Below w.heap.size w w' := by
  have HS := Lib.hid hs; clear hs
  by_cases h0 : s.size = 0
  · rw [if_pos h0]
    have hem : s.toList.isEmpty = true := by
      rw [ByteArray.toList_eq]
      have hl : s.data.toList.length = s.size := by simp
      cases he : s.data.toList with
      | nil => rfl
      | cons x l => rw [he] at hl; simp at hl; omega
    go_enter Tryz.func121, Tryz.ntmps121
    go_wp2_with fail
    refine (addrParts_1 _ _).mono ?_
    rintro e w2 ⟨rfl, rfl⟩
    go_wp2_with fail
    go_ret
    exact ⟨rfl, Below.refl _ _⟩
  · rw [if_neg h0]
    have hem : s.toList.isEmpty = false := by
      rw [ByteArray.toList_eq]
      have hl : s.data.toList.length = s.size := by simp
      cases he : s.data.toList with
      | nil => rw [he] at hl; simp at hl; omega
      | cons x l => rfl
    clear h0
    go_enter Tryz.func121, Tryz.ntmps121
    go_wp2_with fail
    refine (addrParts_1 _ _).mono ?_
    rintro e w2 ⟨rfl, rfl⟩
    go_wp2_with fail
    refine (text_any num s b _ hg HS.out).mono ?_
    rintro e w3 ⟨rfl, hb3⟩
    go_wp2_with fail
    go_ret
    exact ⟨rfl, hb3⟩

set_option maxRecDepth 100000 in
set_option maxHeartbeats 1000000 in
theorem putAddr_1 (B bo bp bn : Nat) (num : Int) (n : Nat) (b : Addr) (w : World) (hg : Gv b w) (hs : n < 2 ^ 64)
    (ho : w.cell? ⟨bo, 0, none⟩ = some (.func (.func 98) #[] #[])) (hp : w.cell? ⟨bp, 0, none⟩ = some (.func (.func 25) #[] #[])) (hn : w.cell? ⟨bn, 0, none⟩ = some (.int .i64 num))
    (hf : w.cell? ⟨B, 1, none⟩ = some (.int .u64 (n : Int))) :
    Calls Tryz.prog 123 #[.pointer (some ⟨B, 0, none⟩), .pointer (some ⟨bo, 0, none⟩), .pointer (some ⟨bp, 0, none⟩), .pointer (some ⟨bn, 0, none⟩)] w fun e w' => e = .returned (.string (if n = 0 then ⟨#[]⟩ else ⟨(numberL num n).toArray⟩)) ∧ Below w.heap.size w w' := by
  have HS := Lib.hid hs; clear hs
  by_cases h0 : n = 0
  · rw [if_pos h0]
    subst h0
    go_enter Tryz.func123, Tryz.ntmps123
    go_wp2_with fail
    refine (addrParts_2 _ _).mono ?_
    rintro e w2 ⟨rfl, rfl⟩
    go_wp2_with fail
    go_ret
    exact ⟨rfl, Below.refl _ _⟩
  · rw [if_neg h0]
    have hem : ((n : Int) != 0) = true := by simp; omega
    have hem2 : ((n : Int) == 0) = false := by simp; omega
    clear h0
    go_enter Tryz.func123, Tryz.ntmps123
    go_wp2_with fail
    refine (addrParts_2 _ _).mono ?_
    rintro e w2 ⟨rfl, rfl⟩
    go_wp2_with fail
    refine (number_any num n b _ hg HS.out).mono ?_
    rintro e w3 ⟨rfl, hb3⟩
    go_wp2_with fail
    go_ret
    exact ⟨rfl, hb3⟩

set_option maxRecDepth 100000 in
set_option maxHeartbeats 1000000 in
theorem putAddr_2 (B bo bp bn : Nat) (num : Int) (n : Nat) (b : Addr) (w : World) (hg : Gv b w) (hs : n < 2 ^ 64)
    (ho : w.cell? ⟨bo, 0, none⟩ = some (.func (.func 99) #[] #[])) (hp : w.cell? ⟨bp, 0, none⟩ = some (.func (.func 25) #[] #[])) (hn : w.cell? ⟨bn, 0, none⟩ = some (.int .i64 num))
    (hf : w.cell? ⟨B, 2, none⟩ = some (.int .u64 (n : Int))) :
    Calls Tryz.prog 123 #[.pointer (some ⟨B, 0, none⟩), .pointer (some ⟨bo, 0, none⟩), .pointer (some ⟨bp, 0, none⟩), .pointer (some ⟨bn, 0, none⟩)] w fun e w' => e = .returned (.string (if n = 0 then ⟨#[]⟩ else ⟨(numberL num n).toArray⟩)) ∧ Below w.heap.size w w' := by
  have HS := Lib.hid hs; clear hs
  by_cases h0 : n = 0
  · rw [if_pos h0]
    subst h0
    go_enter Tryz.func123, Tryz.ntmps123
    go_wp2_with fail
    refine (addrParts_3 _ _).mono ?_
    rintro e w2 ⟨rfl, rfl⟩
    go_wp2_with fail
    go_ret
    exact ⟨rfl, Below.refl _ _⟩
  · rw [if_neg h0]
    have hem : ((n : Int) != 0) = true := by simp; omega
    have hem2 : ((n : Int) == 0) = false := by simp; omega
    clear h0
    go_enter Tryz.func123, Tryz.ntmps123
    go_wp2_with fail
    refine (addrParts_3 _ _).mono ?_
    rintro e w2 ⟨rfl, rfl⟩
    go_wp2_with fail
    refine (number_any num n b _ hg HS.out).mono ?_
    rintro e w3 ⟨rfl, hb3⟩
    go_wp2_with fail
    go_ret
    exact ⟨rfl, hb3⟩
end Go.Proofs.YtlefeihfkgijoaaGreatDoor
