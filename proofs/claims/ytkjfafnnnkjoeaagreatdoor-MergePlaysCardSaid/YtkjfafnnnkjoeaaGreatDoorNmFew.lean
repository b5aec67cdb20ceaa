/- names: few names, by bytes. -/
import Derived.Test.YtkjfafnnnkjoeaaGreatDoorNmLater
namespace Go.Proofs.YtkjfafnnnkjoeaaGreatDoor
open Go.RowKit Go.Lib

def tab10 : List (List UInt8) := [[97], [98], [99], [100], [101], [102, 47, 103], [42], [88], [], [104, 45, 49]]
def tab10V : Array Value := #[.string ⟨#[97]⟩, .string ⟨#[98]⟩, .string ⟨#[99]⟩, .string ⟨#[100]⟩, .string ⟨#[101]⟩, .string ⟨#[102, 47, 103]⟩, .string ⟨#[42]⟩, .string ⟨#[88]⟩, .string ⟨#[]⟩, .string ⟨#[104, 45, 49]⟩]
def fewL (ms : List Nat) : List (List UInt8) := (ms.take 20).map fun b => tab10.getD (b % 10) []
/-- Bytes at a. -/
def BytesIn (W : World) (a : Option Addr) (ms : List Nat) : Prop := ∀ (i n : Nat), ms[i]? = some n → ∃ b o, a = some ⟨b, o, none⟩ ∧ b < W.heap.size ∧ W.cell? ⟨b, o + i, none⟩ = some (.int .u8 (n : Int))
theorem BytesIn.later {W W' : World} {a : Option Addr} {ms : List Nat} (h : BytesIn W a ms) (hb : Below W.heap.size W W') : BytesIn W' a ms := by
  intro i s hs
  obtain ⟨b, o, e, hl, hc⟩ := h i s hs
  exact ⟨b, o, e, Nat.lt_of_lt_of_le hl hb.size, (hb.cell (p := ⟨b, _, none⟩) hl).trans hc⟩
theorem few_len (ms : List Nat) : (fewL ms).length ≤ 20 := by unfold fewL; rw [List.length_map, List.length_take]; omega
theorem tab_len (k : Nat) : (tab10.getD k []).length ≤ 3 := by
  match k with
  | 0 | 1 | 2 | 3 | 4 | 5 | 6 | 7 | 8 | 9 => decide
  | k + 10 => simp [tab10]
theorem few_fit (ms : List Nat) : NmFit (fewL ms) := by
  refine ⟨fun s hs => ?_, by have := few_len ms; omega⟩
  obtain ⟨b, _, rfl⟩ := List.mem_map.1 hs
  have := tab_len (b % 10)
  unfold maxLen; omega
theorem tab_cell (κ : Nat) (h : κ < 10) : tab10V[κ]? = some (encStr (tab10.getD κ [])) := by
  match κ with
  | 0 | 1 | 2 | 3 | 4 | 5 | 6 | 7 | 8 | 9 => rfl
  | κ + 10 => omega
theorem few_next {ms : List Nat} {k b : Nat} (h : ms[k]? = some b) (hk : k < 20) : fewL (ms.take (k + 1)) = fewL (ms.take k) ++ [tab10.getD (b % 10) []] := by
  unfold fewL
  rw [List.take_take, List.take_take, Nat.min_eq_right (by omega), Nat.min_eq_right (by omega), List.take_add_one, h, List.map_append]
  rfl
theorem few_all (ms : List Nat) {k : Nat} (h : 20 ≤ k ∨ ms.length ≤ k) : fewL (ms.take k) = fewL ms := by
  unfold fewL
  rw [List.take_take]
  rcases h with h | h
  · rw [Nat.min_eq_left h]
  · by_cases h2 : 20 ≤ k
    · rw [Nat.min_eq_left h2]
    · rw [Nat.min_eq_right (by omega), List.take_of_length_le h, List.take_of_length_le (by omega)]

end Go.Proofs.YtkjfafnnnkjoeaaGreatDoor
