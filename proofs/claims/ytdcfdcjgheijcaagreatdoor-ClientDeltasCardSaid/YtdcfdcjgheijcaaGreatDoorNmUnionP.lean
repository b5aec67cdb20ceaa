/- names: plain facts on a few names' sets. -/
import Derived.Test.YtdcfdcjgheijcaaGreatDoorNmEx
namespace Go.Proofs.YtdcfdcjgheijcaaGreatDoor
open Go.RowKit Go.Lib

def tab9 : List (List UInt8) := [[97], [98], [99], [100], [101], [102, 47, 103], [104, 45, 49], [110, 111, 110, 101], [88]]
def tab9V : Array Value := #[.string ⟨#[97]⟩, .string ⟨#[98]⟩, .string ⟨#[99]⟩, .string ⟨#[100]⟩, .string ⟨#[101]⟩, .string ⟨#[102, 47, 103]⟩, .string ⟨#[104, 45, 49]⟩, .string ⟨#[110, 111, 110, 101]⟩, .string ⟨#[88]⟩]
theorem tab9_cell (κ : Nat) (h : κ < 9) : tab9V[κ]? = some (encStr (tab9.getD κ [])) := by
  match κ with
  | 0 | 1 | 2 | 3 | 4 | 5 | 6 | 7 | 8 => rfl
  | κ + 9 => omega
theorem ns_parts (s : Ns) : s = ⟨s.all, s.ns⟩ := rfl
/-- A few names' set. -/
structure Small (l : List (List UInt8)) : Prop where
  fit : NmFit l
  rises : Rises l
  len : l.length ≤ 60
theorem small_of (ms : List Nat) {sa : Bool} {sl : List (List UInt8)} (h : nOf okN (fewL ms) = ⟨sa, sl⟩) : Small sl := by
  obtain ⟨h1, h2⟩ := of_fit (few_fit ms) h
  have h3 := few_len ms
  have h4 := nOf_ok okN (fewL ms)
  rw [h] at h4
  exact ⟨h1, h4, by omega⟩
theorem small_union {aa ba sa : Bool} {al bl sl : List (List UInt8)} (ha : NmFit al) (hb : NmFit bl) (hn : al.length + bl.length ≤ 60) (h : nUnion [⟨aa, al⟩, ⟨ba, bl⟩] = ⟨sa, sl⟩) : Small sl := by
  have e : sl = srt (al ++ bl) := by have := (congrArg Ns.ns h).symm; simpa [nUnion] using this
  have h1 : sl.length ≤ 60 := by rw [e]; refine Nat.le_trans (srt_len _) ?_; rw [List.length_append]; exact hn
  refine ⟨⟨fun s hs => ?_, by omega⟩, by rw [e]; exact srt_rises _, h1⟩
  rw [e, srt_mem, List.mem_append] at hs
  rcases hs with hs | hs
  · exact ha.1 s hs
  · exact hb.1 s hs
theorem fit_two {aa ba : Bool} {al bl : List (List UInt8)} (ha : NmFit al) (hb : NmFit bl) (hn : al.length + bl.length ≤ 200) : NssFit [⟨aa, al⟩, ⟨ba, bl⟩] := ⟨fun s hs x hx => by
    rcases List.mem_cons.1 hs with rfl | hs
    · exact ha.1 x hx
    · obtain rfl := List.mem_singleton.1 hs; exact hb.1 x hx, by simp only [List.flatMap_cons, List.flatMap_nil, List.append_nil, List.length_append]; omega, by show (2 : Nat) ≤ 1000000; omega⟩
theorem has_union {a b u : Ns} (h : nUnion [a, b] = u) (x : List UInt8) : nHas okN u x = (nHas okN a x || nHas okN b x) := by
  subst h
  have h1 : (nUnion [a, b]).all = (a.all || b.all) := by simp [nUnion]
  have h2 : (nUnion [a, b]).ns.contains x = (a.ns.contains x || b.ns.contains x) := by
    rw [Bool.eq_iff_iff, Bool.or_eq_true, List.contains_iff_mem, List.contains_iff_mem, List.contains_iff_mem, mem_union2]
  unfold nHas
  rw [h1, h2]
  cases okN x <;> cases a.all <;> cases b.all <;> cases a.ns.contains x <;> cases b.ns.contains x <;> rfl
theorem all_union {a b u : Ns} (h : nUnion [a, b] = u) : u.all = (a.all || b.all) := by subst h; simp [nUnion]
theorem union_comm {a b u v : Ns} (h : nUnion [a, b] = u) (h' : nUnion [b, a] = v) : nSame u v = true := by
  subst h; subst h'
  exact nSame_self (by simp [nUnion, Bool.or_comm]) (fun x => by rw [mem_union2, mem_union2, or_comm])
theorem union_self {a u : Ns} (h : nUnion [a, a] = u) : nSame u a = true := by
  subst h
  exact nSame_self (by simp [nUnion]) (fun x => by rw [mem_union2, or_self])
theorem union_nil : nUnion [] = ⟨false, []⟩ := by simp [nUnion, srt, compact, compactUpTo]
theorem fit_nil : NssFit [] := ⟨fun s hs => (List.not_mem_nil hs).elim, by decide, by decide⟩
theorem nm_nil : NmFit [] := ⟨fun s hs => (List.not_mem_nil hs).elim, by decide⟩
theorem sets_nil (w : World) : SetsAt w none [] := fun i s h => by simp at h
end Go.Proofs.YtdcfdcjgheijcaaGreatDoor
