/- payload: the chapter's examples: the walk. -/
import Derived.Test.YtlefeihfkgijoaaGreatDoorPlRefs
namespace Go.Proofs.YtlefeihfkgijoaaGreatDoor
open Go.RowKit Go.Shelf

theorem none_rules (w : World) (a : Option Addr) : RulesAt w a [] := fun i r h => by simp at h
theorem none_addrs (w : World) (a : Option Addr) : AddrsAt w a [] := fun i r h => by simp at h
def exP1 : Pl := ⟨⟨#[97]⟩, 0, ⟨#[]⟩, [], 0, ⟨#[]⟩, [], ⟨#[107]⟩⟩
def exP2 : Pl := ⟨⟨#[]⟩, 1, ⟨#[]⟩, [], 0, ⟨#[]⟩, [], ⟨#[]⟩⟩
def exP3 : Pl := ⟨⟨#[97]⟩, 0, ⟨#[]⟩, [], 0, ⟨#[115]⟩, [], ⟨#[]⟩⟩
theorem exPut1 : exP1.putOf 5 = (⟨#[10, 1, 97, 66, 1, 107]⟩, true) := by kernel_rfl
theorem exPut2 : exP2.putOf 5 = (⟨#[]⟩, false) := by kernel_rfl
theorem exGet1 : Pl.getOf 5 (⟨#[10, 1, 97, 66, 1, 107]⟩ : ByteArray).data.toList = some exP1 := by kernel_rfl
theorem exRefs : refsOf 3 exP3 = [(4, ⟨#[97]⟩), (5, ⟨#[115]⟩)] := by kernel_rfl
theorem ex_put1 (b : Addr) (w : World) (hg : Gv b w) :
    Calls Tryz.prog 12 #[.int .i64 5, .agg #[.string ⟨#[97]⟩, .int .u64 0, .string ⟨#[]⟩, .slice none 0 0, .int .u64 0, .string ⟨#[]⟩, .slice none 0 0, .string ⟨#[107]⟩]] w fun e w' => e = .returned (.tuple #[.string ⟨#[10, 1, 97, 66, 1, 107]⟩, .bool true]) ∧ Below w.heap.size w w' := by
  have h := put_any' 5 exP1 none none 0 0 b w hg (none_rules _ _) (none_addrs _ _) ⟨by decide, by decide, by decide, by decide, fun r h => by simp [exP1] at h⟩ (of_decide_eq_true (by kernel_rfl)) (fun _ _ => of_decide_eq_true (by kernel_rfl))
  rw [exPut1] at h
  exact h
theorem ex_put2 (b : Addr) (w : World) (hg : Gv b w) :
    Calls Tryz.prog 12 #[.int .i64 5, .agg #[.string ⟨#[]⟩, .int .u64 1, .string ⟨#[]⟩, .slice none 0 0, .int .u64 0, .string ⟨#[]⟩, .slice none 0 0, .string ⟨#[]⟩]] w fun e w' => e = .returned (.tuple #[.string ⟨#[]⟩, .bool false]) ∧ Below w.heap.size w w' := by
  have h := put_any' 5 exP2 none none 0 0 b w hg (none_rules _ _) (none_addrs _ _) ⟨by decide, by decide, by decide, by decide, fun r h => by simp [exP2] at h⟩ (of_decide_eq_true (by kernel_rfl)) (fun _ _ => of_decide_eq_true (by kernel_rfl))
  rw [exPut2] at h
  exact h
theorem ex_get (b : Addr) (w : World) (hg : Gv b w) :
    Calls Tryz.prog 23 #[.int .i64 5, .string ⟨#[10, 1, 97, 66, 1, 107]⟩] w fun e w' => (∃ a3 c3 a6 c6, e = .returned (.tuple #[.agg #[.string ⟨#[97]⟩, .int .u64 0, .string ⟨#[]⟩, .slice a3 0 c3, .int .u64 0, .string ⟨#[]⟩, .slice a6 0 c6, .string ⟨#[107]⟩], .bool true])) ∧ Below w.heap.size w w' := by
  refine (get_any 5 ⟨#[10, 1, 97, 66, 1, 107]⟩ b w hg (by decide)).mono ?_
  intro e w' h
  rw [exGet1] at h
  obtain ⟨⟨a3, c3, a6, c6, rfl, _⟩, hb⟩ := h
  exact ⟨⟨a3, c3, a6, c6, rfl⟩, hb⟩
theorem ex_refs (w : World) :
    Calls Tryz.prog 18 #[.int .i64 3, .agg #[.string ⟨#[97]⟩, .int .u64 0, .string ⟨#[]⟩, .slice none 0 0, .int .u64 0, .string ⟨#[115]⟩, .slice none 0 0, .string ⟨#[]⟩]] w fun e w' => (∃ a c, e = .returned (.slice a 2 c)) ∧ Below w.heap.size w w' := by
  refine (refs_any 3 exP3 none none 0 0 w (none_rules _ _) (by decide) (fun r h => by simp [exP3] at h)).mono ?_
  intro e w' h
  rw [exRefs] at h
  obtain ⟨a, c, rfl, _, hb⟩ := h
  exact ⟨⟨a, c, rfl⟩, hb⟩

set_option maxRecDepth 100000 in
set_option maxHeartbeats 2000000 in
theorem examples02_any (b : Addr) (w : World) (hg : Gv b w) :
    Calls Tryz.prog 10 #[] w fun e w' => e = .returned (.bool true) ∧ Below w.heap.size w w' := by
  have HG := Lib.hid hg
  clear hg
  go_enter Tryz.func10, Tryz.ntmps10
  go_wp2_with fail
  refine (ex_put1 b _ HG.out).mono ?_
  rintro e w1 ⟨rfl, hb1⟩
  have HB1 := Lib.hid hb1
  clear hb1
  go_wp2_with fail
  refine (ex_get b _ (HG.out.below HB1.out)).mono ?_
  rintro e w2 ⟨⟨a3, c3, a6, c6, rfl⟩, hb2⟩
  have HB2 := Lib.hid (HB1.out.trans (hb2.mono HB1.out.size))
  clear hb2
  go_wp2_with fail
  refine (has_any 3 _).mono ?_
  rintro e w3 ⟨rfl, rfl⟩
  have hh : hasOf 3 = (⟨#[108, 115]⟩, true) := rfl
  rw [hh]
  clear hh
  have hsz2 := HB2.out.size
  have HC := Lib.hid (below_more HB2.out (.cells #[.string ⟨#[97]⟩, .int .u64 0, .string ⟨#[]⟩, .slice a3 0 c3, .int .u64 0, .string ⟨#[]⟩, .slice a6 0 c6, .string ⟨#[107]⟩] 26))
  have hn7 := (new_cell w2 #[.string ⟨#[97]⟩, .int .u64 0, .string ⟨#[]⟩, .slice a3 0 c3, .int .u64 0, .string ⟨#[]⟩, .slice a6 0 c6, .string ⟨#[107]⟩] 26 7).trans rfl
  have HN7 := Lib.hid hn7
  clear hn7
  go_wp2_with fail
  refine (ex_put2 b _ (HG.out.below HC.out)).mono ?_
  rintro e w4 ⟨rfl, hb4⟩
  have hn := (hb4.cell (p := ⟨w2.heap.size, 7, none⟩) (by simp)).trans HN7.out
  have HB4 := Lib.hid (HC.out.trans (hb4.mono HC.out.size))
  clear hb4
  go_wp2_with fail
  refine (ex_refs _).mono ?_
  rintro e w5 ⟨⟨a, c, rfl⟩, hb5⟩
  have HB5 := Lib.hid (HB4.out.trans (hb5.mono HB4.out.size))
  clear hb5 hn
  go_wp2_with fail
  go_ret
  exact ⟨rfl, HB5.out⟩
end Go.Proofs.YtlefeihfkgijoaaGreatDoor
