/- merge: maps.Copy of a tally into a new one. -/
import Derived.Test.YtkjfafnnnkjoeaaGreatDoorMgTSet
namespace Go.Proofs.YtkjfafnnnkjoeaaGreatDoor
open Go.RowKit Go.Lib

/-- What a tally holds of x. -/
def tlV (T : List UInt8 → Nat) (x : List UInt8) : Option Value := if T x = 0 then none else some (.int .i64 (T x : Int))
theorem grownBy_refl (w : World) (row : Option Nat) : w.grownBy w row := ⟨rfl, rfl, rfl, Nat.le_refl _, fun _ _ _ => rfl⟩
theorem grownBy_below {w w' : World} (h : Below w.heap.size w w') (row : Option Nat) : w.grownBy w' row := ⟨h.os, h.tape, h.output, h.size, fun i hi _ => h.block i hi⟩
set_option maxRecDepth 100000 in
set_option maxHeartbeats 4000000 in
theorem copy_any {v : Value} {T : List UInt8 → Nat} {ob : Nat} {w : World} (h : Tally w v T) (ho : SMap w ob (fun _ => none)) (hne : ∀ tb, v = .map (some tb) → tb ≠ ob) :
    Calls Tryz.prog 63 #[.map (some ob), v] w fun e w' => e = .returned (.tuple #[]) ∧ SMap w' ob (tlV T) ∧ w.grownBy w' (some ob) := by
  rcases h with ⟨rfl, h0⟩ | ⟨tb, C, rfl, hm, hC⟩
  · have hrun := run_range_nilMap (P := Tryz.prog) w 81 9 3 Tryz.underlying81
    have hnx := run_next_nilMap (P := Tryz.prog) w 0 0 0 #[]
    have hb2 : Below w.heap.size w (w.alloc (.mapIter none 0 #[] 0)) := (Below.refl _ _).alloc (Nat.le_refl _) _
    obtain ⟨w2, hw2⟩ : ∃ w2, w.alloc (.mapIter none 0 #[] 0) = w2 := ⟨_, rfl⟩
    rw [hw2] at hrun hnx hb2
    have HE := Lib.hid (And.intro ((ho.below hb2 ho.lt).ext (C' := tlV T) fun x => by unfold tlV; rw [if_pos (h0 x)]) (grownBy_below hb2 (some ob)))
    clear hw2 hb2 h0 ho hne
    go_enter Tryz.func63, Tryz.ntmps63
    go_wp2_with fail
    refine wp_loop_rounds 1 ?_
    rw [rounds_succ]
    go_wp2_with fail
    go_end0
    exact ⟨rfl, HE.out.1, HE.out.2⟩
  · have hne' : tb ≠ ob := hne tb rfl
    obtain ⟨w2, hrun, hrg, hb2, hsz2⟩ := hm.range (t := 81) (k := 9) (e := 3) (P := Tryz.prog) Tryz.underlying81
    have HRG := Lib.hid hrg
    have HO := Lib.hid (ho.below hb2 ho.lt)
    have HG := Lib.hid (grownBy_below hb2 (some ob))
    have HC := Lib.hid hC
    have HOL := Lib.hid (And.intro ho.lt hne')
    clear hb2 hsz2 hrg hm hC ho hne hne'
    go_enter Tryz.func63, Tryz.ntmps63
    go_wp2_with fail
    go_loopw [4, 5] (fun _ _ wr => ∃ (ks : List (List UInt8)) (C' : List UInt8 → Option Value), KRange skV skOk wr tb w.heap.size C ks ∧ SMap wr ob C' ∧ (∀ x, (x ∈ ks → C' x = C x) ∧ (x ∉ ks → C' x = none)) ∧ w.grownBy wr (some ob)) (fun _ _ wr => krLeft wr tb w.heap.size)
    case atStart => exact ⟨[], _, HRG.out, HO.out, fun x => ⟨fun h => (by cases h), fun _ => rfl⟩, HG.out⟩
    case round =>
      clear hrun HRG HO HG
      obtain ⟨ks, C', hrg, hown, hcc, hg⟩ := hrel
      rcases hrg.next (P := Tryz.prog) skV_inj 0 with ⟨hall, hnx⟩ | ⟨s, val, w3, hCs, hok, hns, hnx, hrg3, hen, hg3, hsz3, hlt3⟩
      · have HE := Lib.hid (And.intro (hown.ext (C' := tlV T) fun x => by
          show C' x = if T x = 0 then none else some (.int .i64 (T x : Int))
          rw [← HC.out x]
          by_cases hx : x ∈ ks
          · exact (hcc x).1 hx
          · rw [(hcc x).2 hx]
            cases hc : C x with
            | none => rfl
            | some v => exact absurd (hall x (by rw [hc]; rfl)) hx) hg)
        clear hall hrg hown hcc hg
        go_wp2_with fail
        go_end0
        exact ⟨rfl, HE.out.1, HE.out.2⟩
      · obtain ⟨q0, q1, q2, q3, hib, _⟩ := hrg.iter
        have hro : ob ≠ w.heap.size := by have := HOL.out.1; omega
        have hown3 := hown.kept hg3 (fun e => hro (Option.some.inj e))
        obtain ⟨w4, hup, hown4, hg4⟩ := hown3.update (k := 9) (e := 3) (lit := fun s => .string s) (t := 81) (P := Tryz.prog) Tryz.skLaw skKey skV_inj Tryz.underlying81 hok val
        have hrg4 := hrg3.kept hg4 (fun e => HOL.out.2 (Option.some.inj e)) (fun e => hro (Option.some.inj e).symm)
        have hgg := (hg.andThen hg3 (fun j hj => .inl (by have := Option.some.inj hj; omega))).andThen hg4 (fun j hj => .inr hj)
        obtain ⟨es, clock, hmb⟩ := hrg3.mapB
        obtain ⟨p0, p1, p2, p3, hib3, _⟩ := hrg3.iter
        have e1 := hg4.block tb (Array.getElem?_eq_some_iff.1 hmb).1 (fun e => HOL.out.2 (Option.some.inj e))
        have e2 := hg4.block w.heap.size (Array.getElem?_eq_some_iff.1 hib3).1 (fun e => hro (Option.some.inj e).symm)
        have HE := Lib.hid (show (∃ (ks : List (List UInt8)) (C' : List UInt8 → Option Value), KRange skV skOk w4 tb w.heap.size C ks ∧ SMap w4 ob C' ∧ (∀ x, (x ∈ ks → C' x = C x) ∧ (x ∉ ks → C' x = none)) ∧ w.grownBy w4 (some ob)) ∧ krLeft w4 tb w.heap.size < krLeft wr tb w.heap.size from
          ⟨⟨ks ++ [s], _, hrg4, hown4, fun x => by
            by_cases e : x = s
            · subst e
              exact ⟨fun _ => by rw [kset_same, hCs], fun h => absurd (by simp) h⟩
            · rw [kset_other e]
              simp only [List.mem_append, List.mem_singleton, e, or_false]
              exact hcc x, hgg⟩, by rw [krLeft_eq e1 e2]; exact hlt3⟩)
        clear hrg hown hcc hg hrg3 hg3 hsz3 hlt3 hown3 hown4 hg4 hrg4 hgg hmb hib3 e1 e2 hib hro hns hok hCs
        go_wp2_with fail
        exact HE.out
end Go.Proofs.YtkjfafnnnkjoeaaGreatDoor
