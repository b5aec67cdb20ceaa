/- timer: New, Due. -/
import Derived.Test.YtjcocgadhdgbjaaTmStop
namespace Go.Proofs.Ytjcocgadhdgbjaa
open Go.RowKit

theorem hp_nil : Hp 0 [] := fun i h1 h2 => by omega
theorem new_any (w : World) : Calls Try.prog 9 #[] w fun e w' => ∃ t F, e = .returned (.pointer (some ⟨t, 0, none⟩)) ∧ TmAt w.heap.size t F 0 [] w' ∧ (∀ k, F k → w.heap.size ≤ k) ∧ Below w.heap.size w w' := by
  have hmm := @run_makeMap Try.prog
  go_enter Try.func9, Try.ntmps9
  go_wp2
  go_ret
  have b1 : Below (w.alloc (.map #[] 0)).heap.size (w.alloc (.map #[] 0)) ((w.alloc (.map #[] 0)).alloc (.cells #[.slice none 0 0, .map (some w.heap.size)] 56)) := (Below.refl _ _).alloc (Nat.le_refl _) _
  have b2 : Below ((w.alloc (.map #[] 0)).alloc (.cells #[.slice none 0 0, .map (some w.heap.size)] 56)).heap.size ((w.alloc (.map #[] 0)).alloc (.cells #[.slice none 0 0, .map (some w.heap.size)] 56)) (((w.alloc (.map #[] 0)).alloc (.cells #[.slice none 0 0, .map (some w.heap.size)] 56)).alloc (.cells #[.iface 52 (.pointer (some ⟨w.heap.size + 1, 0, none⟩)), .int .u64 0] 60)) := (Below.refl _ _).alloc (Nat.le_refl _) _
  have m0 := strMap_new w
  have m2 := (m0.below b1 m0.lt).below b2 (m0.below b1 m0.lt).lt
  have p0 := Blk.new (w.alloc (.map #[] 0)) #[.slice none 0 0, .map (some w.heap.size)] 56
  have p1 := p0.below b2 p0.lt
  have t0 := Blk.new ((w.alloc (.map #[] 0)).alloc (.cells #[.slice none 0 0, .map (some w.heap.size)] 56)) #[.iface 52 (.pointer (some ⟨w.heap.size + 1, 0, none⟩)), .int .u64 0] 60
  have z1 : (w.alloc (.map #[] 0)).heap.size = w.heap.size + 1 := by simp
  have z2 : ((w.alloc (.map #[] 0)).alloc (.cells #[.slice none 0 0, .map (some w.heap.size)] 56)).heap.size = w.heap.size + 1 + 1 := by simp
  rw [z2] at t0
  rw [z1] at p1
  refine ⟨w.heap.size + 1 + 1, fun k => k = w.heap.size + 1 + 1 ∨ Foot (w.heap.size + 1) w.heap.size (.slice none 0 0) k, rfl, ⟨w.heap.size + 1, w.heap.size, .slice none 0 0, [], 0, [], t0, ⟨⟨p1, World.ownsRow_nil _ _ _ _, m2.ext (fun s => rfl), by omega, Nat.le_refl _⟩, ⟨by simp, by simp⟩, hp_nil⟩, List.Perm.refl _, rfl, List.Pairwise.nil, by simp, Nat.le_refl _, fun k => Iff.rfl, by omega, by simp⟩, ?_, ?_⟩
  · rintro k (rfl | rfl | rfl | e)
    · omega
    · omega
    · exact Nat.le_refl _
    · simp [Value.ownBlock] at e
  · exact (((Below.refl _ _).alloc (Nat.le_refl _) _).alloc (by simp) _).alloc (by simp; omega) _

def dueF (now : Nat) : Nat → List Tm → List (List UInt8) × List Tm
  | 0, L => ([], L)
  | n + 1, L => match nextL L with
    | none => ([], L)
    | some x => if x.2 ≤ now then (x.1 :: (dueF now n (dropL L x.1)).1, (dueF now n (dropL L x.1)).2) else ([], L)
def dueL (now : Nat) (L : List Tm) : List (List UInt8) × List Tm := dueF now L.length L
theorem nextL_none {L : List Tm} (h : nextL L = none) : L = [] := by
  cases L with
  | nil => rfl
  | cons x r =>
    simp only [nextL] at h
    cases hr : nextL r with
    | none => rw [hr] at h; cases h
    | some y => rw [hr] at h; simp only at h; split at h <;> cases h
theorem nextL_mem {L : List Tm} {x : Tm} (h : nextL L = some x) : x ∈ L := by
  induction L generalizing x with
  | nil => simp [nextL] at h
  | cons a r ih =>
    simp only [nextL] at h
    cases hr : nextL r with
    | none => rw [hr] at h; simp at h; simp [h]
    | some y =>
      rw [hr] at h
      simp only at h
      split at h
      · cases h; exact List.mem_cons_of_mem _ (ih hr)
      · cases h; simp
theorem dropL_lt {L : List Tm} {x : Tm} (h : x ∈ L) : (dropL L x.1).length < L.length := by
  unfold dropL
  induction L with
  | nil => simp at h
  | cons a r ih =>
    rw [List.filter_cons]
    by_cases e : a.1 = x.1
    · have : (a.1 != x.1) = false := by simp [e]
      rw [this, if_neg (by simp), List.length_cons]
      have := List.length_filter_le (fun y : Tm => y.1 != x.1) r
      omega
    · have h2 : (a.1 != x.1) = true := by simp [e]
      rw [if_pos h2]
      rcases List.mem_cons.1 h with rfl | h
      · exact absurd rfl e
      · have := ih h
        rw [List.length_cons, List.length_cons]; omega
theorem dueF_more (now : Nat) : ∀ (n m : Nat) (L : List Tm), L.length ≤ n → L.length ≤ m → dueF now n L = dueF now m L := by
  intro n
  induction n with
  | zero =>
    intro m L h1 _
    have : L = [] := List.eq_nil_of_length_eq_zero (by omega)
    subst this
    cases m <;> rfl
  | succ n ih =>
    intro m L h1 h2
    cases m with
    | zero =>
      have : L = [] := List.eq_nil_of_length_eq_zero (by omega)
      subst this; rfl
    | succ m =>
      simp only [dueF]
      cases hx : nextL L with
      | none => rfl
      | some x =>
        have := dropL_lt (nextL_mem hx)
        simp only [ih m (dropL L x.1) (by omega) (by omega)]
theorem dueL_none {now : Nat} {L : List Tm} (h : nextL L = none) : dueL now L = ([], L) := by
  rw [nextL_none h]; rfl
theorem dueL_stop {now : Nat} {L : List Tm} {x : Tm} (h : nextL L = some x) (hn : ¬ x.2 ≤ now) : dueL now L = ([], L) := by
  have hm := nextL_mem h
  unfold dueL
  cases hl : L.length with
  | zero => rfl
  | succ n => simp only [dueF, h]; rw [if_neg hn]
theorem dueL_go {now : Nat} {L : List Tm} {x : Tm} (h : nextL L = some x) (hn : x.2 ≤ now) : dueL now L = (x.1 :: (dueL now (dropL L x.1)).1, (dueL now (dropL L x.1)).2) := by
  have hm := dropL_lt (nextL_mem h)
  unfold dueL
  cases hl : L.length with
  | zero => omega
  | succ n =>
    simp only [dueF, h]
    rw [if_pos hn, dueF_more now n (dropL L x.1).length (dropL L x.1) (by omega) (Nat.le_refl _)]

def slLen : Value → Nat
  | .slice _ n _ => n
  | _ => 0
def DuRel (base t N : Nat) (F : Nat → Prop) (now : Nat) (L : List Tm) (w : World) (lv : Value) (wr : World) : Prop :=
  ∃ acc L', TmAt base t F N L' wr ∧ Kept F w wr ∧ wr.ownsRow w.heap.size 9 1 lv acc.length (strV acc) ∧ acc.length + L'.length ≤ L.length ∧ acc ++ (dueL now L').1 = (dueL now L).1 ∧ (dueL now L').2 = (dueL now L).2
def DuPost (base t N : Nat) (F : Nat → Prop) (now : Nat) (L : List Tm) (w : World) (e : Ending) (w' : World) : Prop :=
  ∃ lv, e = .returned lv ∧ TmAt base t F N (dueL now L).2 w' ∧ Kept F w w' ∧ w'.ownsRow w.heap.size 9 1 lv (dueL now L).1.length (strV (dueL now L).1)
theorem Try.infoStr : (Try.prog.info? 9).map (fun i => (i.zero, i.size, i.bytes)) = some (some (.string ⟨#[]⟩), 1, 16) := by kernel_rfl
set_option maxHeartbeats 4000000 in
set_option maxRecDepth 100000 in
theorem due_any (base t N : Nat) (F : Nat → Prop) (L : List Tm) (now : Nat) (w : World) (h : TmAt base t F N L w) :
    Calls Try.prog 13 #[.pointer (some ⟨t, 0, none⟩), .int .u64 (now : Int)] w (DuPost base t N F now L w) := by
  have ml := Try.mLook
  have mt := Try.mTake
  have fT := Try.fldT
  have fI := Try.fldId
  obtain ⟨i0, hi, hz0, hz1, hz2⟩ := info_parts Try.infoStr
  have hL1024 : L.length ≤ 1024 := by obtain ⟨_, _, _, _, _, _, _, _, _, _, _, _, _, _, _, hl⟩ := h; exact hl
  have HR := Lib.hid h
  clear h
  go_enter Try.func13, Try.ntmps13
  go_wp2
  go_loopw [5] (fun lv wr => DuRel base t N F now L w lv wr) (fun lv _ => L.length - slLen lv)
  case atStart => exact ⟨[], L, HR.out, Kept.refl _ _, World.ownsRow_nil _ _ _ _, by simp, rfl, rfl⟩
  case round =>
    obtain ⟨acc, L', hq, hkept, hown, hlen, hd1, hd2⟩ := hrel
    cases hx : nextL L' with
    | none =>
      obtain rfl := nextL_none hx
      rw [dueL_none hx] at hd1 hd2
      have HX := Lib.hid (And.intro (And.intro hq hkept) (And.intro hown (And.intro hd1 hd2)))
      clear hq hkept hown hd1 hd2 hx
      go_wp2_with fail
      refine (len_any base t N F [] wr HX.out.1.1).mono ?_
      rintro e w' ⟨rfl, rfl⟩
      go_wp2
      go_ret
      obtain ⟨⟨hq, hkept⟩, hown, hd1, hd2⟩ := HX.out
      simp only [List.append_nil] at hd1
      exact ⟨_, rfl, by rw [← hd2]; exact hq, hkept, by rw [← hd1]; exact hown⟩
    | some x =>
      have hq0 := hq
      obtain ⟨p, m, v, hh, T, LE, hb, hq', hperm, hmap, hpw, hk, hT, hF, hbt, hl⟩ := hq
      have hpos : 0 < hh.length := by
        rw [hperm.length_eq]
        cases LE with
        | nil => subst hmap; simp [nextL] at hx
        | cons a r => simp
      have hll : hh.length = L'.length := by rw [hperm.length_eq, ← hmap, List.length_map]
      have hln : hh.length ≤ 1025 := by omega
      have hn := heap_next hq'.hp hperm hpw hpos
      have hx' : x = (gt hh 0).tm := by rw [← hmap, nextL_map, hn] at hx; exact (Option.some.inj hx).symm
      have t0 : wr.cell? ⟨t, 0, none⟩ = some (.iface 52 (.pointer (some ⟨p, 0, none⟩))) := hb.cell 0
      have htl := hb.lt
      have hgt0 : (0 : Int) < (L'.length : Int) := by omega
      obtain ⟨n, hnn⟩ : ∃ n, hh.length = n + 1 := ⟨hh.length - 1, by omega⟩
      have hcase : (gt hh 0).t = x.2 := by rw [hx']; rfl
      have hfin := fun (v' : Value) (h2 : List En) (W w' : World) (hbW : Below wr.heap.size wr W) (h2p : (h2 ++ [gt hh 0]).Perm hh) (hq2 : HeapAt base p m v' h2 w') (hkept : Kept (Foot p m v) W w') (hv : v'.ownBlock = v.ownBlock) => tm_drop (hb.below hbW hb.lt) ⟨hq'.at_.below hbW, hq'.ids, hq'.hp⟩ hperm hpw hk hT hF hbt (by rw [hmap]; exact hl) h2p hq2 hkept hv
      rw [hmap] at hfin
      have hfid : (gt hh 0).id = x.1 := by rw [hx']; rfl
      rw [hfid] at hfin
      by_cases hle : x.2 ≤ now
      · have hle' : ((gt hh 0).t : Int) ≤ (now : Int) := by omega
        rw [dueL_go hx hle] at hd1 hd2
        have HX := Lib.hid (And.intro (And.intro hq0 hq') (And.intro (And.intro hkept hown) (And.intro (And.intro hd1 hd2) (And.intro (And.intro hlen hnn) (And.intro hfin hfid)))))
        have hacc : acc.length ≤ 1024 := by omega
        have hlt' : (dropL L' x.1).length < L'.length := dropL_lt (nextL_mem hx)
        have HLT := Lib.hid (And.intro hlt' hacc)
        clear hq0 hq' hkept hown hd1 hd2 hlen hnn hfin hx' hfid hx hcase hn hmap hperm hpw hk hb hll hle hlt' hl hF
        generalize hE : gt hh 0 = e at *
        have HE := Lib.hid hE
        go_wp2_with fail
        refine (len_any base t N F L' wr HX.out.1.1).mono ?_
        rintro e1 w' ⟨rfl, rfl⟩
        go_wp2_with fail
        refine (look_any base p m v hh hh 0 wr HX.out.1.2.at_ hpos hln).mono ?_
        rintro e1 w1 ⟨rfl, hb1⟩
        rw [HE.out]
        have t1 : w1.cell? ⟨t, 0, none⟩ = some (.iface 52 (.pointer (some ⟨p, 0, none⟩))) := (hb1.cell (p := ⟨t, 0, none⟩) htl).trans t0
        obtain ⟨sa, sc, rfl⟩ := owns_slice HX.out.2.1.2
        go_wp2_with fail
        refine (take_any base p m v hh 0 n w1 ⟨HX.out.1.2.at_.below hb1, HX.out.1.2.ids, HX.out.1.2.hp⟩ HX.out.2.2.2.1.2 hpos hln).mono ?_
        rintro e1 w2 ⟨v', h2, rfl, h2p, hq2, hk2, hv⟩
        rw [HE.out]
        obtain ⟨r1, r2⟩ := HX.out.2.2.2.2.1 v' h2 w1 w2 hb1 (by rw [← HE.out]; exact h2p) hq2 hk2 hv
        have kept2 : Kept F w w2 := (HX.out.2.1.1.below' hb1).then r2
        have hown2 : w2.ownsRow w.heap.size 9 1 (.slice sa acc.length sc) acc.length (strV acc) := r2.own (own_below HX.out.2.1.2 hb1) (HX.out.1.1.below hb1 |>.apart_row (own_below HX.out.2.1.2 hb1) (by decide) (by decide) (by decide))
        have hz2' : w.heap.size ≤ w2.heap.size := kept2.size
        have HY := Lib.hid (And.intro r1 kept2)
        clear r1 r2 kept2 hq2 hk2 h2p hv
        go_wp2_with (at_builtin; go_must (refine wpList_append_own _ rfl _ _ 35 rfl w.heap.size 9 i0 (.string ⟨#[]⟩) 1 16 Try.underlying35 hi hz0 hz1 hz2 rfl (by decide) _ _ _ rfl (hown2.alloc _) ⟨w2.heap.size, 0, none⟩ 1 1 [.string ⟨e.id.toArray⟩] rfl rfl (cell_one_new _ _ _) (by simp [Value.oneCell']) (by have := HLT.out.2; unfold maxLen; omega) (by have := HLT.out.2; omega) (by simp; omega) ?_; intro lv' w4 hown4 hgrow4 _))
        go_roundw
        case rel =>
          obtain ⟨⟨hq0, hq'⟩, ⟨hkept, hown⟩, ⟨hd1, hd2⟩, ⟨hlen, hnn⟩, hfin, hfid⟩ := HX.out
          have hB : Below w2.heap.size w2 (w2.alloc (.cells #[.string ⟨e.id.toArray⟩] 9)) := (Below.refl _ _).alloc (Nat.le_refl _) _
          have r1 := HY.out.1.below hB
          have ap := r1.apart_row (own_below hown2 hB) (by decide) (by decide) (by decide)
          have kg : Kept (fun k => (Value.slice sa acc.length sc).ownBlock = some k) (w2.alloc (.cells #[.string ⟨e.id.toArray⟩] 9)) w4 := Kept.grown hgrow4 (fun k e _ => e)
          refine ⟨acc ++ [x.1], dropL L' x.1, r1.kept kg (fun k hf hs => ap k hs hf), (HY.out.2.below' hB).trans kg (fun k e hk => ?_), ?_, ?_, ?_, hd2⟩
          · exact absurd hk (by have := owns_block hown2 k e; omega)
          · have e1 : acc.length + 1 = (acc ++ [x.1]).length := by simp
            have e2 : strV acc ++ [.string ⟨e.id.toArray⟩] = strV (acc ++ [x.1]) := by simp [hfid]
            rw [← e1, ← e2]; exact hown4
          · have := HLT.out.1; rw [List.length_append]; simp; omega
          · rw [← hd1]; simp
        case measure =>
          obtain ⟨a4, c4, rfl⟩ := owns_slice hown4
          have h1 := HX.out.2.2.2.1.1
          have h2 := HLT.out.1
          simp [slLen]; omega
      · have hle' : ¬ ((gt hh 0).t : Int) ≤ (now : Int) := by omega
        rw [dueL_stop hx hle] at hd1 hd2
        have HX := Lib.hid (And.intro (And.intro hq0 hq') (And.intro (And.intro hkept hown) (And.intro hd1 hd2)))
        clear hq0 hq' hkept hown hd1 hd2 hlen hnn hfin hx' hfid hx hcase hn hmap hperm hpw hk hb hll hle hl hF
        go_wp2_with fail
        refine (len_any base t N F L' wr HX.out.1.1).mono ?_
        rintro e1 w' ⟨rfl, rfl⟩
        go_wp2_with fail
        refine (look_any base p m v hh hh 0 wr HX.out.1.2.at_ hpos hln).mono ?_
        rintro e1 w1 ⟨rfl, hb1⟩
        go_wp2
        go_ret
        obtain ⟨⟨hq, _⟩, ⟨hkept, hown⟩, hd1, hd2⟩ := HX.out
        simp only [List.append_nil] at hd1
        exact ⟨_, rfl, by rw [← hd2]; exact hq.below hb1, hkept.below' hb1, by rw [← hd1]; exact own_below hown hb1⟩
end Go.Proofs.Ytjcocgadhdgbjaa
