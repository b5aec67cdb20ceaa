/- timer: put and take. -/
import Derived.Test.YtjcocgadhdgbjaaTmDown
namespace Go.Proofs.Ytjcocgadhdgbjaa
open Go.RowKit

/-- A pile that is a heap: its row and its map of h. -/
structure HeapAt (base p m : Nat) (v : Value) (h : List En) (w : World) : Prop where
  at_ : PileAt base p m v h h w
  ids : idsOk h
  hp : Hp h.length h
def PtPost (base p m : Nat) (v : Value) (h : List En) (w : World) (e : Ending) (w' : World) : Prop := ∃ v' h', e = .returned (.tuple #[]) ∧ h'.Perm h ∧ HeapAt base p m v' h' w' ∧ Kept (Foot p m v) w w' ∧ (v'.ownBlock = v.ownBlock ∨ ∃ k, v'.ownBlock = some k ∧ w.heap.size ≤ k)
theorem Foot.turn {p m : Nat} {v v' : Value} {n : Nat} (h : v'.ownBlock = v.ownBlock ∨ ∃ k, v'.ownBlock = some k ∧ n ≤ k) {k : Nat} (hf : Foot p m v' k) (hk : k < n) : Foot p m v k := by
  rcases hf with e | e | e
  · exact .inl e
  · exact .inr (.inl e)
  · rcases h with h | ⟨x, hx, hn⟩
    · exact .inr (.inr (h ▸ e))
    · rw [hx] at e; cases e; omega
set_option maxRecDepth 100000 in
theorem hpush_any (base p m : Nat) (v : Value) (h : List En) (e : En) (w : World) (q : HeapAt base p m v h w) (hk : idsOk (h ++ [e])) (hs : h.length ≤ 1024) (hbase : base ≤ w.heap.size) :
    Calls Try.prog 46 #[pileI p, .iface 64 (enAgg e)] w (PtPost base p m v (h ++ [e]) w) := by
  have m1 := Try.mPush
  have m2 := Try.mLen
  have hl : (h ++ [e]).length = h.length + 1 := by simp
  have HQ := Lib.hid (And.intro q hl)
  have HL : (((h ++ [e]).length : Nat) : Int) - 1 = (h.length : Int) := by omega
  have hb : ((h ++ [e]).length : Int) ≤ 1025 := by omega
  have hb1 : 1 ≤ ((h ++ [e]).length : Int) := by omega
  clear q hl
  generalize hg : h ++ [e] = g at *
  have HG := Lib.hid hg
  clear hg
  go_enter Try.func46, Try.ntmps46
  go_wp2_with fail
  refine (ppush_any base p m v h e w HQ.out.1.at_ (by rw [HG.out]; exact hk) hs hbase).mono ?_
  rintro e1 w1 ⟨v', rfl, q1, k1, hor⟩
  rw [HG.out] at q1
  go_wp2_with fail
  refine (plen_any base p m v' g g w1 q1).mono ?_
  rintro e2 w2 ⟨rfl, rfl⟩
  go_wp2_with fail
  refine (up_any base p m v' g h.length w1 q1 hk (by rw [HQ.out.2]; omega) (by rw [HQ.out.2]; omega)).mono ?_
  rintro e3 w3 ⟨rfl, q3, k3⟩
  go_wp2
  go_end0
  obtain ⟨hp1, hp2⟩ := push_all h e HQ.out.1.hp
  rw [HG.out] at hp1 hp2
  refine ⟨v', upF g h.length, rfl, hp1, ⟨q3, hk.perm hp1, ?_⟩, k1.trans k3 (fun k hf hkk => Foot.turn hor hf hkk), hor⟩
  rw [hp1.length_eq, HQ.out.2]; exact hp2
theorem box_put (base p m : Nat) (v : Value) (h : List En) (e : En) (w : World) (q : HeapAt base p m v h w) (hk : idsOk (h ++ [e])) (hs : h.length ≤ 1024) (hbase : base ≤ w.heap.size) :
    Calls Try.prog 44 #[.pointer (some ⟨p, 0, none⟩), enAgg e] w (PtPost base p m v (h ++ [e]) w) := by
  have HQ := Lib.hid q
  clear q
  go_enter Try.func44, Try.ntmps44
  go_wp2_with fail
  have hB : Below w.heap.size w (w.alloc (.cells #[.string ⟨e.id.toArray⟩, .int .u64 (e.t : Int), .int .u64 (e.k : Int)] 64)) := (Below.refl _ _).alloc (Nat.le_refl _) _
  refine (hpush_any base p m v h e _ ⟨HQ.out.at_.below hB, HQ.out.ids, HQ.out.hp⟩ hk hs (Nat.le_trans hbase hB.size)).mono ?_
  rintro e1 w1 ⟨v', h', rfl, hp, q1, k1, hor⟩
  go_wp2
  go_end0
  refine ⟨v', h', rfl, hp, q1, (Kept.of hB (Nat.le_refl _)).then k1, ?_⟩
  rcases hor with e | ⟨k, e, hk⟩
  · exact .inl e
  · exact .inr ⟨k, e, Nat.le_trans hB.size hk⟩

def RmPost (base p m : Nat) (v : Value) (h : List En) (i : Nat) (w : World) (e : Ending) (w' : World) : Prop := ∃ v' h', e = .returned (.iface 64 (enAgg (gt h i))) ∧ h'.Perm h ∧ h'.length = h.length ∧ gt h' (h.length - 1) = gt h i ∧ Hp (h.length - 1) h' ∧ PileAt base p m v' (h'.take (h.length - 1)) h' w' ∧ Kept (Foot p m v) w w' ∧ v'.ownBlock = v.ownBlock
theorem rem_end (base p m : Nat) (v : Value) (h hh : List En) (i n : Nat) (w w1 : World) (hn : h.length = n + 1) (hs : h.length ≤ 1025) (q : PileAt base p m v hh hh w1) (hk : Kept (Foot p m v) w w1) (hr : hh = remF h i) (hi : i < h.length) (hp : Hp h.length h) :
    Calls Try.prog 53 #[.pointer (some ⟨p, 0, none⟩)] w1 (RmPost base p m v h i w) := by
  obtain ⟨r1, r2, r3⟩ := remF_all h i hi hp
  rw [← hr] at r1 r2 r3
  have hl := r1.length_eq
  refine (ppop_any base p m v hh n w1 q (by omega) (by omega)).mono ?_
  rintro e w2 ⟨v', rfl, q2, k2, ho⟩
  rw [hl] at q2
  rw [hl, r2]
  exact ⟨v', hh, rfl, r1, hl, r2, r3, q2, hk.then k2, ho⟩
set_option maxHeartbeats 1000000 in
set_option maxRecDepth 100000 in
theorem remove_any (base p m : Nat) (v : Value) (h : List En) (i n : Nat) (w : World) (q : HeapAt base p m v h w) (hn : h.length = n + 1) (hi : i < h.length) (hs : h.length ≤ 1025) :
    Calls Try.prog 47 #[pileI p, .int .i64 (i : Int)] w (RmPost base p m v h i w) := by
  have m1 := Try.mLen
  have m2 := Try.mSwap
  have m3 := Try.mPop
  have HL : ((h.length : Nat) : Int) - 1 = (n : Int) := by omega
  have hb : (h.length : Int) ≤ 1025 := by omega
  have hb1 : 1 ≤ (h.length : Int) := by omega
  have nb : (n : Int) ≤ 1025 := by omega
  have hl1 : h.length - 1 = n := by omega
  have HQ := Lib.hid (And.intro q (And.intro hn hl1))
  clear q hn hl1
  by_cases he : n = i
  · have hne : ((n : Int) != (i : Int)) = false := by simp [he]
    have hr : h = remF h i := by unfold remF; rw [HQ.out.2.2, if_pos he]
    have HR := Lib.hid (And.intro he hr)
    clear he hr
    go_enter Try.func47, Try.ntmps47
    go_wp2_with fail
    refine (plen_any base p m v h h w HQ.out.1.at_).mono ?_
    rintro e2 w2 ⟨rfl, rfl⟩
    go_wp2_with fail
    refine (rem_end base p m v h h i n w w HQ.out.2.1 hs HQ.out.1.at_ (Kept.refl _ _) HR.out.2 hi HQ.out.1.hp).mono ?_
    rintro e w' hpost
    obtain ⟨v', h', rfl, hrest⟩ := hpost
    go_wp2
    go_ret
    exact ⟨v', h', rfl, hrest⟩
  · have hne : ((n : Int) != (i : Int)) = true := by simp; omega
    have hnl : n < h.length := by have := HQ.out.2.1; omega
    have hin : i < n := by have := HQ.out.2.1; omega
    have hrm : remF h i = if i < (downF (swp h i n) i n).2 then (downF (swp h i n) i n).1 else upF (downF (swp h i n) i n).1 i := by unfold remF; rw [HQ.out.2.2, if_neg he]
    have HR := Lib.hid (And.intro he hrm)
    clear he hrm
    go_enter Try.func47, Try.ntmps47
    go_wp2_with fail
    refine (plen_any base p m v h h w HQ.out.1.at_).mono ?_
    rintro e2 w2 ⟨rfl, rfl⟩
    go_wp2_with fail
    refine (swap_any base p m v h i n w HQ.out.1.at_ HQ.out.1.ids hi hnl hs (by omega)).mono ?_
    rintro e3 w3 ⟨rfl, q3, k3⟩
    have id3 := HQ.out.1.ids.perm (swp_perm h i n hi hnl)
    go_wp2_with fail
    refine (down_any base p m v (swp h i n) i n w3 q3 id3 hin (by rw [swp_len]; omega) (by rw [swp_len]; exact hs)).mono ?_
    rintro e4 w4 ⟨rfl, q4, k4⟩
    obtain ⟨dp, _, dge, _⟩ := downF_keep _ (swp h i n) i n (Nat.le_refl _) hin (by rw [swp_len]; omega)
    have hdl := dp.length_eq
    rw [swp_len] at hdl
    have id4 := id3.perm dp
    by_cases hmv : i < (downF (swp h i n) i n).2
    · have hd : decide (i < (downF (swp h i n) i n).2) = true := by simpa using hmv
      have hr := HR.out.2
      rw [if_pos hmv] at hr
      rw [hd]
      have HD := Lib.hid (And.intro hd hr)
      clear hd hr hmv
      go_wp2_with fail
      refine (rem_end base p m v h _ i n w w4 HQ.out.2.1 hs q4 (k3.then k4) HD.out.2.symm hi HQ.out.1.hp).mono ?_
      rintro e w' hpost
      obtain ⟨v', h', rfl, hrest⟩ := hpost
      go_wp2
      go_ret
      exact ⟨v', h', rfl, hrest⟩
    · have hd : decide (i < (downF (swp h i n) i n).2) = false := by simpa using hmv
      have hr := HR.out.2
      rw [if_neg hmv] at hr
      rw [hd]
      have HD := Lib.hid (And.intro hd hr)
      clear hd hr hmv
      go_wp2_with fail
      refine (up_any base p m v _ i w4 q4 id4 (by rw [hdl]; exact hi) (by rw [hdl]; exact hs)).mono ?_
      rintro e5 w5 ⟨rfl, q5, k5⟩
      go_wp2_with fail
      refine (rem_end base p m v h _ i n w w5 HQ.out.2.1 hs q5 ((k3.then k4).then k5) HD.out.2.symm hi HQ.out.1.hp).mono ?_
      rintro e w' hpost
      obtain ⟨v', h', rfl, hrest⟩ := hpost
      go_wp2
      go_ret
      exact ⟨v', h', rfl, hrest⟩
end Go.Proofs.Ytjcocgadhdgbjaa
