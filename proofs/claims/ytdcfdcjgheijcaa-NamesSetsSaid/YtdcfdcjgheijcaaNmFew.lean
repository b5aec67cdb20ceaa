/- names: few names, by bytes. -/
import Derived.Test.YtdcfdcjgheijcaaNmLater
namespace Go.Proofs.Ytdcfdcjgheijcaa
open Go.RowKit Go.Lib

def tab10 : List (List UInt8) := [[97], [98], [99], [100], [101], [102, 47, 103], [42], [88], [], [104, 45, 49]]
def tab10V : Array Value := #[.string ⟨#[97]⟩, .string ⟨#[98]⟩, .string ⟨#[99]⟩, .string ⟨#[100]⟩, .string ⟨#[101]⟩, .string ⟨#[102, 47, 103]⟩, .string ⟨#[42]⟩, .string ⟨#[88]⟩, .string ⟨#[]⟩, .string ⟨#[104, 45, 49]⟩]
def fewL (ms : List Nat) : List (List UInt8) := (ms.take 20).map fun b => tab10.getD (b % 10) []
/-- Bytes at a. -/
def BytesIn (W : World) (a : Option Addr) (ms : List Nat) : Prop := ∀ (i n : Nat), ms[i]? = some n → ∃ b o, a = some ⟨b, o, none⟩ ∧ b < W.heap.size ∧ W.cell? ⟨b, o + i, none⟩ = some (.int .u8 (n : Int))
theorem BytesIn.later {W W' : World} {a : Option Addr} {ms : List Nat} (h : BytesIn W a ms) (hb : Below W.heap.size W W') : BytesIn W' a ms := by
  intro i s hs
  obtain ⟨b, o, e, hl, hc⟩ := h i s hs
  exact ⟨b, o, e, Nat.lt_of_lt_of_le hl hb.size, (hb.cell (p := ⟨b, _, none⟩) hl).trans hc⟩
theorem few_len (ms : List Nat) : (fewL ms).length ≤ 20 := by unfold fewL; rw [List.length_map, List.length_take]; omega
theorem tab_len (k : Nat) : (tab10.getD k []).length ≤ 3 := by
  match k with
  | 0 | 1 | 2 | 3 | 4 | 5 | 6 | 7 | 8 | 9 => decide
  | k + 10 => simp [tab10]
theorem few_fit (ms : List Nat) : NmFit (fewL ms) := by
  refine ⟨fun s hs => ?_, by have := few_len ms; omega⟩
  obtain ⟨b, _, rfl⟩ := List.mem_map.1 hs
  have := tab_len (b % 10)
  unfold maxLen; omega
theorem tab_cell (κ : Nat) (h : κ < 10) : tab10V[κ]? = some (encStr (tab10.getD κ [])) := by
  match κ with
  | 0 | 1 | 2 | 3 | 4 | 5 | 6 | 7 | 8 | 9 => rfl
  | κ + 10 => omega
theorem few_next {ms : List Nat} {k b : Nat} (h : ms[k]? = some b) (hk : k < 20) : fewL (ms.take (k + 1)) = fewL (ms.take k) ++ [tab10.getD (b % 10) []] := by
  unfold fewL
  rw [List.take_take, List.take_take, Nat.min_eq_right (by omega), Nat.min_eq_right (by omega), List.take_add_one, h, List.map_append]
  rfl
theorem few_all (ms : List Nat) {k : Nat} (h : 20 ≤ k ∨ ms.length ≤ k) : fewL (ms.take k) = fewL ms := by
  unfold fewL
  rw [List.take_take]
  rcases h with h | h
  · rw [Nat.min_eq_left h]
  · by_cases h2 : 20 ≤ k
    · rw [Nat.min_eq_left h2]
    · rw [Nat.min_eq_right (by omega), List.take_of_length_le h, List.take_of_length_le (by omega)]

set_option maxRecDepth 100000 in
set_option maxHeartbeats 2000000 in
theorem few_any {a : Option Addr} {n c : Nat} {ms : List Nat} {w : World} (h : BytesIn w a ms) (hl : ms.length = n) (hn : n ≤ 9223372036854775807) :
    Calls Try.prog 6 #[.slice a n c] w fun e w' => ∃ a' c', e = .returned (.slice a' (fewL ms).length c') ∧ w'.ownsRow w.heap.size 9 1 (.slice a' (fewL ms).length c') (fewL ms).length (tsV (fewL ms)) ∧ Below w.heap.size w w' := by
  obtain ⟨i0, hi, hz0, hz1, hz2⟩ := info_parts Try.infoStr
  have H := Lib.hid h
  have HL := Lib.hid hl
  clear h hl
  go_enter Try.func6, Try.ntmps6
  go_wp2_with fail
  go_loopw [4, 3] (fun i v wr => ∃ k : Nat, k ≤ n ∧ k ≤ 20 ∧ i = .int .i64 k ∧ wr.ownsRow w.heap.size 9 1 v (fewL (ms.take k)).length (tsV (fewL (ms.take k))) ∧ Below w.heap.size w wr) (fun i _ _ => n - (RowKit.intOf i).toNat)
  case atStart => exact ⟨0, Nat.zero_le _, Nat.zero_le _, rfl, World.ownsRow_nil _ _ _ _, Below.refl _ _⟩
  case round =>
    obtain ⟨k, hk, hk20, rfl, hown, hb⟩ := hrel
    by_cases hlt : k < n
    · by_cases hlt2 : k < 20
      · obtain ⟨b, hx⟩ : ∃ b, ms[k]? = some b := ⟨_, List.getElem?_eq_getElem (by have := HL.out; omega)⟩
        obtain ⟨g, off, rfl, hgl, hcell⟩ := H.out k b hx
        have d1 : wr.cell? ⟨g, off + k, none⟩ = some (.int .u8 (b : Int)) := (hb.cell (p := ⟨g, _, none⟩) hgl).trans hcell
        have hgw : g < wr.heap.size := Nat.lt_of_lt_of_le hgl hb.size
        have b0 : (0 : Int) ≤ (k : Int) := by omega
        have b1 : (k : Int) < (n : Int) := by omega
        have b2 : (k : Int) < 20 := by omega
        obtain ⟨κ, hκ⟩ : ∃ κ, b % 10 = κ := ⟨_, rfl⟩
        have hκ10 : κ < 10 := by omega
        have k0 : (0 : Int) ≤ (κ : Int) := by omega
        have k1 : (κ : Int) < 10 := by omega
        have hm : (b : Int).tmod 10 = (κ : Int) := by rw [Int.tmod_eq_emod_of_nonneg (by omega)]; omega
        have hm' : (b : Int) % 10 = (κ : Int) := by omega
        have hf := few_next hx hlt2
        rw [hκ] at hf
        obtain ⟨x, hxx⟩ : ∃ x, tab10.getD κ [] = x := ⟨_, rfl⟩
        have htc := tab_cell κ hκ10
        rw [hxx] at hf htc
        have hlit : ∀ W : World, (W.alloc (.cells #[.string ⟨#[97]⟩, .string ⟨#[98]⟩, .string ⟨#[99]⟩, .string ⟨#[100]⟩, .string ⟨#[101]⟩, .string ⟨#[102, 47, 103]⟩, .string ⟨#[42]⟩, .string ⟨#[88]⟩, .string ⟨#[]⟩, .string ⟨#[104, 45, 49]⟩] 9)).cell? ⟨W.heap.size, κ, none⟩ = some (.string ⟨x.toArray⟩) := fun W => (Blk.new W tab10V 9).cell κ |>.trans htc
        have HF := Lib.hid hf
        have HOW := Lib.hid hown
        have HB := Lib.hid hb
        have hle := few_len (ms.take k)
        have hbs := hb.size
        clear hf hown hb hκ hx hcell hxx htc
        have hnew : ((wr.alloc (.cells #[.string ⟨#[97]⟩, .string ⟨#[98]⟩, .string ⟨#[99]⟩, .string ⟨#[100]⟩, .string ⟨#[101]⟩, .string ⟨#[102, 47, 103]⟩, .string ⟨#[42]⟩, .string ⟨#[88]⟩, .string ⟨#[]⟩, .string ⟨#[104, 45, 49]⟩] 9)).alloc (.cells #[.string ⟨x.toArray⟩] 9)).heap[wr.heap.size + 1]? = some (.cells #[.string ⟨x.toArray⟩] 9 (0, 0)) := by
          have := heap_alloc_new (wr.alloc (.cells #[.string ⟨#[97]⟩, .string ⟨#[98]⟩, .string ⟨#[99]⟩, .string ⟨#[100]⟩, .string ⟨#[101]⟩, .string ⟨#[102, 47, 103]⟩, .string ⟨#[42]⟩, .string ⟨#[88]⟩, .string ⟨#[]⟩, .string ⟨#[104, 45, 49]⟩] 9)) (.cells #[.string ⟨x.toArray⟩] 9); simpa using this
        go_wp2_with (at_builtin; go_must (refine wpList_append_own _ rfl _ _ 24 rfl w.heap.size 9 i0 _ 1 16 Try.underlying24 hi hz0 hz1 hz2 rfl (by omega) _ _ _ rfl ((HOW.out.alloc _).alloc _) ⟨wr.heap.size + 1, 0, none⟩ 1 1 (tsV [x]) rfl rfl (World.news_of_block (cs := #[.string ⟨x.toArray⟩]) (t := 9) (fr := (0, 0)) hnew) (tsV_one _) (by unfold maxLen; omega) (by omega) (by simp; omega) ?_; intro v3 w3 hown3 hgrow3 _))
        have HB3 := Lib.hid (((HB.out.alloc (by omega) _).alloc (by simp; omega) _).grown hgrow3 (by simp; omega) (fun j hj => (HOW.out.lt j hj).1))
        have HO3 := Lib.hid (show w3.ownsRow w.heap.size 9 1 v3 (fewL (ms.take (k + 1))).length (tsV (fewL (ms.take (k + 1)))) by rw [HF.out, tsV_append, List.length_append]; exact hown3)
        clear hown3 hgrow3
        go_wp2_with fail
        go_roundw
        case rel => exact ⟨k + 1, by omega, by omega, by go_num, HO3.out, HB3.out⟩
        case measure => simp [RowKit.intOf]; omega
      · obtain rfl : k = 20 := by omega
        have b1 : ((20 : Nat) : Int) < (n : Int) := by omega
        rw [few_all ms (.inl (Nat.le_refl _))] at hown
        have HO := Lib.hid hown
        have HB := Lib.hid hb
        obtain ⟨a3, c3, rfl⟩ := owns_slice hown
        clear hown hb
        go_wp2_with fail
        go_ret
        exact ⟨_, _, rfl, HO.out, HB.out⟩
    · have b1 : ¬ (k : Int) < (n : Int) := by omega
      rw [few_all ms (.inr (by have := HL.out; omega))] at hown
      have HO := Lib.hid hown
      have HB := Lib.hid hb
      obtain ⟨a3, c3, rfl⟩ := owns_slice hown
      clear hown hb
      go_wp2_with fail
      go_ret
      exact ⟨_, _, rfl, HO.out, HB.out⟩
end Go.Proofs.Ytdcfdcjgheijcaa
