/- names: asked, and its closure. -/
import Derived.Test.YtdcfdcjgheijcaaNmAmong
import Derived.Test.YtdcfdcjgheijcaaNmHas
import Derived.Test.YtdcfdcjgheijcaaNmLater
namespace Go.Proofs.Ytdcfdcjgheijcaa
open Go.RowKit Go.Lib

set_option maxRecDepth 100000 in
theorem asked1_any {E : Nat} {l : List (List UInt8)} {x : List UInt8} {w : World} {B : Bool} (h : ExAt w E l) (hx : x.length ≤ maxLen) (hB : (okN x && l.contains x) = B) :
    Calls Try.prog 44 #[.string ⟨x.toArray⟩, .pointer (some ⟨E, 0, none⟩)] w fun e w' => e = .returned (.bool B) ∧ Below w.heap.size w w' := by
  obtain ⟨M, h1, h2, h3⟩ := h
  cases hn : nmOk ⟨x.toArray⟩ with
  | false =>
    obtain rfl : false = B := by rw [← hB]; simp [okN, hn]
    have HN := Lib.hid hn
    clear hn hB
    go_enter Try.func44, Try.ntmps44
    go_wp2_with fail
    refine (name_is HN.out).mono ?_
    rintro e w' ⟨rfl, rfl⟩
    go_wp2_with fail
    go_ret
    exact ⟨rfl, Below.refl _ _⟩
  | true =>
    obtain ⟨C, hC⟩ : ∃ C, l.contains x = C := ⟨_, rfl⟩
    obtain rfl : C = B := by rw [← hB, hC]; simp [okN, hn]
    have HN := Lib.hid hn
    have H3 := Lib.hid (among1_any h3 hx hC)
    clear hn hB h3 hC
    go_enter Try.func44, Try.ntmps44
    go_wp2_with fail
    refine (name_is HN.out).mono ?_
    rintro e w' ⟨rfl, rfl⟩
    go_wp2_with fail
    refine H3.out.mono ?_
    rintro e w1 ⟨rfl, hb⟩
    go_wp2_with fail
    go_ret
    exact ⟨rfl, hb⟩
theorem asked1_takes {w : World} {M : Nat} {l : List (List UInt8)} (h : ExAt w M l) : Takes w 44 #[.pointer (some ⟨M, 0, none⟩)] (fun s => okN s && l.contains s) :=
  ⟨enters_of Try.func44 (by kernel_rfl) rfl, fun _ hb _ hs => asked1_any (h.below hb) hs rfl⟩

set_option maxRecDepth 100000 in
theorem asked_any {sa : Bool} {sl : List (List UInt8)} {a : Option Addr} {c : Nat} {w : World} (h : TsAt w (.slice a sl.length c) sl) (hs : ∀ s ∈ sl, s.length ≤ maxLen) :
    Calls Try.prog 33 #[.agg #[.bool sa, .slice a sl.length c]] w fun e w' => ∃ g cp, e = .returned (.func (.func g) #[] cp) ∧ Takes w' g cp (nHas okN ⟨sa, sl⟩) ∧ Below w.heap.size w w' := by
  obtain ⟨w0, hw0, hb0, p0⟩ := alloc_new w #[.bool sa, .slice a sl.length c] 26
  have H0 := Lib.hid (h.later hb0)
  have HB := Lib.hid hb0
  have HW := Lib.hid hw0
  have c0 := p0.cell 0
  have c1 := p0.cell 1
  simp only [List.getElem?_toArray, List.getElem?_cons_zero, List.getElem?_cons_succ] at c0 c1
  have HS := Lib.hid hs
  clear h hb0 hw0 p0 hs
  cases sa with
  | true =>
    have HP : nHas okN ⟨true, sl⟩ = okN := by funext x; simp [nHas]
    rw [HP]
    go_enter Try.func33, Try.ntmps33
    go_wp2_with fail
    go_ret
    rw [HW.out]
    exact ⟨_, _, rfl, name_takes w0, HB.out⟩
  | false =>
    have HP : nHas okN ⟨false, sl⟩ = fun x => okN x && sl.contains x := by funext x; simp [nHas]
    rw [HP]
    go_enter Try.func33, Try.ntmps33
    go_wp2_with fail
    rw [HW.out]
    refine (among_any H0.out HS.out).mono ?_
    rintro e w1 ⟨M, rfl, hm, hb⟩
    have HM := Lib.hid hm
    have HB1 := Lib.hid hb
    clear hm hb
    go_wp2_with fail
    go_ret
    have hb1 : Below w1.heap.size w1 (w1.alloc (.cells #[.func (.func 47) #[] #[.pointer (some ⟨M, 0, none⟩)]] 49)) := (Below.refl _ _).alloc (Nat.le_refl _) _
    have hblk := Blk.new w1 #[.func (.func 47) #[] #[.pointer (some ⟨M, 0, none⟩)]] 49
    refine ⟨_, _, rfl, asked1_takes ⟨M, hblk.lt, hblk.cell 0, HM.out.below hb1⟩, ?_⟩
    exact (HB.out.trans (HB1.out.mono HB.out.size)).trans (hb1.mono (by have := HB.out.size; have := HB1.out.size; omega))
end Go.Proofs.Ytdcfdcjgheijcaa
