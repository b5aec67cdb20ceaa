/- timer: the document's own timers: Due. -/
import Derived.Test.YtjcocgadhdgbjaaTmRefX
namespace Go.Proofs.Ytjcocgadhdgbjaa
open Go.RowKit

abbrev RS (r : Nat) (v : Value) (k : Nat) : Prop := k = r ∨ v.ownBlock = some k
theorem RfAt.kept {base r : Nat} {v : Value} {L : List Tm} {S : Nat → Prop} {w w' : World} (h : RfAt base r v L w) (hk : Kept S w w') (hS : ∀ k, RS r v k → ¬ S k) : RfAt base r v L w' := ⟨hk.blk h.blk (hS r (.inl rfl)), hk.own h.own (fun k e => hS k (.inr e)), h.br⟩
theorem RfAt.apart {base r b size n : Nat} {v x : Value} {L : List Tm} {e : TypeId} {xs : List Value} {w : World} (h : RfAt base r v L w) (ho : w.ownsRow b e size x n xs) (h1 : e ≠ 29) (h2 : e ≠ 68) : ∀ k, x.ownBlock = some k → ¬ RS r v k := by
  intro k hk hr
  rcases hr with rfl | hr
  · exact row_block ho h.blk (fun e' => h1 e'.symm) hk
  · exact rows_apart ho h.own h2 k hr hk
def RuRel (base r : Nat) (v : Value) (now : Nat) (L : List Tm) (w : World) (lv : Value) (wr : World) : Prop :=
  ∃ acc L' v', RfAt base r v' L' wr ∧ Kept (RS r v) w wr ∧ (∀ k, v'.ownBlock = some k → v.ownBlock = some k ∨ w.heap.size ≤ k) ∧ wr.ownsRow w.heap.size 9 1 lv acc.length (strV acc) ∧ (L'.map (·.1)).Nodup ∧ acc.length + L'.length ≤ L.length ∧ acc ++ (dueL now L').1 = (dueL now L).1 ∧ (dueL now L').2 = (dueL now L).2
def RuPost (base r : Nat) (v : Value) (now : Nat) (L : List Tm) (w : World) (e : Ending) (w' : World) : Prop :=
  ∃ a c v', e = .returned (.slice a (dueL now L).1.length c) ∧ RfAt base r v' (dueL now L).2 w' ∧ Kept (RS r v) w w' ∧ (∀ k, v'.ownBlock = some k → v.ownBlock = some k ∨ w.heap.size ≤ k) ∧ w'.ownsRow w.heap.size 9 1 (.slice a (dueL now L).1.length c) (dueL now L).1.length (strV (dueL now L).1)
theorem ru_end {base r now : Nat} {v lv : Value} {L : List Tm} {w w2 : World} {acc : List (List UInt8)} {L' : List Tm} {v' : Value} (hd : dueL now L' = ([], L')) (q : RfAt base r v' L' w2) (hk : Kept (RS r v) w w2) (hv : ∀ k, v'.ownBlock = some k → v.ownBlock = some k ∨ w.heap.size ≤ k) (ho : w2.ownsRow w.heap.size 9 1 lv acc.length (strV acc)) (h1 : acc ++ (dueL now L').1 = (dueL now L).1) (h2 : (dueL now L').2 = (dueL now L).2) : RuPost base r v now L w (.returned lv) w2 := by
  rw [hd] at h1 h2
  have h1' : acc = (dueL now L).1 := by simpa using h1
  have h2' : L' = (dueL now L).2 := h2
  subst h1'
  subst h2'
  obtain ⟨a, c, rfl⟩ := owns_slice ho
  exact ⟨a, c, v', rfl, q, hk, hv, ho⟩
set_option maxHeartbeats 4000000 in
set_option maxRecDepth 100000 in
theorem rdue_any (base r : Nat) (v : Value) (L : List Tm) (now : Nat) (w : World) (h : RfAt base r v L w) (hL : L.length ≤ 1024) (hn : (L.map (·.1)).Nodup) (hbase : base ≤ w.heap.size) :
    Calls Try.prog 14 #[.pointer (some ⟨r, 0, none⟩), .int .u64 (now : Int)] w (RuPost base r v now L w) := by
  obtain ⟨i0, hi, hz0, hz1, hz2⟩ := info_parts Try.infoStr
  have HR := Lib.hid (And.intro h hn)
  clear h hn
  go_enter Try.func14, Try.ntmps14
  go_wp2
  go_loopw [5] (fun lv wr => RuRel base r v now L w lv wr) (fun lv _ => L.length - slLen lv)
  case atStart => exact ⟨[], L, v, HR.out.1, Kept.refl _ _, fun k hk => .inl hk, World.ownsRow_nil _ _ _ _, HR.out.2, by simp, rfl, rfl⟩
  case round =>
    obtain ⟨acc, L', v', hq, hkept, hvv, hown, hnd, hlen, hd1, hd2⟩ := hrel
    have kr : wr.cell? ⟨r, 0, none⟩ = some v' := hq.blk.cell 0
    obtain ⟨va, vc, rfl⟩ := owns_slice hq.own
    cases hx : nextL L' with
    | none =>
      obtain rfl := nextL_none hx
      have HX := Lib.hid (ru_end (dueL_none hx) hq hkept hvv hown hd1 hd2)
      clear hq hkept hvv hown hd1 hd2 hx hnd
      go_wp2
      go_ret
      exact HX.out
    | some x =>
      have hpos : 0 < L'.length := by cases L' with
        | nil => simp [nextL] at hx
        | cons a r => simp
      have hgt0 : (0 : Int) < (L'.length : Int) := by omega
      have hl' : L'.length ≤ 1024 := by omega
      by_cases hle : x.2 ≤ now
      · have hle' : ¬ (now : Int) < (x.2 : Int) := by omega
        have hlt' := dropL_lt (nextL_mem hx)
        have hxd : (dropL L' x.1).length + 1 = L'.length := dropL_len hnd (nextL_mem hx)
        rw [dueL_go hx hle] at hd1 hd2
        have hacc : acc.length ≤ 1024 := by omega
        obtain ⟨sa, sc, rfl⟩ := owns_slice hown
        have HX := Lib.hid (And.intro (And.intro hq (And.intro hkept hvv)) (And.intro (And.intro hown hnd) (And.intro (And.intro hlen hxd) (And.intro (And.intro hd1 hd2) hx))))
        clear hq hkept hvv hown hnd hlen hxd hd1 hd2 hx hlt'
        go_wp2_with fail
        refine (rnext_some base r _ L' x wr HX.out.1.1 hl' HX.out.2.2.2.2).mono ?_
        rintro e w2 ⟨rfl, hb2⟩
        have hown2 := own_below HX.out.2.1.1 hb2
        have hz2' : w.heap.size ≤ w2.heap.size := Nat.le_trans HX.out.1.2.1.size hb2.size
        go_wp2_with (at_builtin; go_must (refine wpList_append_own _ rfl _ _ 35 rfl w.heap.size 9 i0 (.string ⟨#[]⟩) 1 16 Try.underlying35 hi hz0 hz1 hz2 rfl (by decide) (.slice sa acc.length sc) acc.length (strV acc) rfl (hown2.alloc _) ⟨w2.heap.size, 0, none⟩ 1 1 [.string ⟨x.1.toArray⟩] rfl rfl (cell_one_new _ _ _) (by simp [Value.oneCell']) (by unfold maxLen; omega) (by omega) (by simp; omega) ?_; intro lv' w4 hown4 hgrow4 _; obtain ⟨a4, c4, rfl⟩ := owns_slice hown4; have HV := Lib.hid (And.intro hown4 (And.intro hgrow4 hb2)); clear hown4 hgrow4 hb2))
        have hst : RfAt base r (.slice va L'.length vc) L' w4 ∧ Kept (RS r v) w w4 := by
          obtain ⟨hown4, hgrow4, hb2⟩ := HV.out
          have hA : Below w2.heap.size w2 (w2.alloc (.cells #[.string ⟨x.1.toArray⟩] 9)) := (Below.refl _ _).alloc (Nat.le_refl _) _
          have q2 := (HX.out.1.1.below hb2).below hA
          have oA := own_below hown2 hA
          have kg : Kept (fun k => (Value.slice sa acc.length sc).ownBlock = some k) (w2.alloc (.cells #[.string ⟨x.1.toArray⟩] 9)) w4 := Kept.grown hgrow4 (fun k e _ => e)
          exact ⟨q2.kept kg (fun k hr hs => q2.apart oA (by decide) (by decide) k hs hr), ((HX.out.1.2.1.below' hb2).below' hA).trans kg (fun k e hk => by have := owns_block hown2 k e; omega)⟩
        have hs4 : base ≤ w4.heap.size := Nat.le_trans hbase hst.2.size
        have hstop := rstop_any base r _ L' ⟨x.1.toArray⟩ w4 hst.1 hl' HX.out.2.1.2 hs4
        have HS := Lib.hid (And.intro hst hstop)
        clear hst hstop
        refine HS.out.2.mono ?_
        rintro e w5 ⟨v5, rfl, q5, k5, f5⟩
        have HT := Lib.hid (And.intro q5 (And.intro k5 f5))
        clear q5 k5 f5
        go_wp2
        go_roundw
        case rel =>
          obtain ⟨q5, k5, f5⟩ := HT.out
          obtain ⟨hown4, hgrow4, hb2⟩ := HV.out
          have q4 := HS.out.1.1
          have hnk : ∀ k, RS r (.slice va L'.length vc) k → k < w.heap.size → RS r v k := by
            rintro k (e | e) hk
            · exact .inl e
            · rcases HX.out.1.2.2 k e with h | h
              · exact .inr h
              · omega
          refine ⟨acc ++ [x.1], dropL L' x.1, v5, q5, HS.out.1.2.trans k5 hnk, fun k hk => ?_, ?_, nd_drop HX.out.2.1.2 _, ?_, ?_, HX.out.2.2.2.1.2⟩
          · rcases f5 k hk with h | h
            · exact HX.out.1.2.2 k h
            · exact .inr (Nat.le_trans HS.out.1.2.size h)
          · have e1 : acc.length + 1 = (acc ++ [x.1]).length := by simp
            have e2 : strV acc ++ [.string ⟨x.1.toArray⟩] = strV (acc ++ [x.1]) := by simp
            rw [← e1, ← e2]
            exact k5.own hown4 (q4.apart hown4 (by decide) (by decide))
          · have h1 := HX.out.2.2.1.1
            have h2 := HX.out.2.2.1.2
            rw [List.length_append, List.length_singleton]; omega
          · rw [← HX.out.2.2.2.1.1]; simp
        case measure =>
          have h1 := HX.out.2.2.1.1
          simp [slLen]; omega
      · have hle' : (now : Int) < (x.2 : Int) := by omega
        have hend := fun (w2 : World) (hb : Below wr.heap.size wr w2) => ru_end (dueL_stop hx hle) (hq.below hb) (hkept.below' hb) hvv (own_below hown hb) hd1 hd2
        have HX := Lib.hid (And.intro hend (And.intro hq hx))
        clear hq hkept hvv hown hd1 hd2 hx hnd hend
        go_wp2_with fail
        refine (rnext_some base r _ L' x wr HX.out.2.1 hl' HX.out.2.2).mono ?_
        rintro e w2 ⟨rfl, hb2⟩
        go_wp2
        go_ret
        exact HX.out.1 w2 hb2
end Go.Proofs.Ytjcocgadhdgbjaa
