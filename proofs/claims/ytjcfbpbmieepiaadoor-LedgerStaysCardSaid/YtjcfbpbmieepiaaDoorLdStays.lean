/- ledger: LedgerStays walked (tools/ldstays_gen.py). -/
import Derived.Test.YtjcfbpbmieepiaaDoorLdStP
import Derived.Test.YtjcfbpbmieepiaaDoorLdDeed
namespace Go.Proofs.YtjcfbpbmieepiaaDoor
open Go.RowKit

theorem below_drew_left {n : Nat} {w w' : World} (h : Below n w w') : Below n w.drew w' := ⟨h.os, h.tape, h.output, h.size, h.block⟩
structure SySz (KB ab : Nat) (w : World) : Prop where
  k : KB < w.heap.size
  a : ab < w.heap.size
abbrev SyT (KB ab o : Nat) (f : Bool) (w : World) : Prop := w.cell? ⟨KB, 0, none⟩ = some (.int .i64 4) ∧ w.cell? ⟨KB, 1, none⟩ = some (.string ⟨#[107]⟩) ∧ w.cell? ⟨ab, o, none⟩ = some (.bool f) ∧ SySz KB ab w
theorem SyT.next {KB ab o : Nat} {f : Bool} {w w' : World} (h : SyT KB ab o f w) (hb : Below w.heap.size w w') : SyT KB ab o f w' :=
  ⟨(hb.cell (p := ⟨KB, 0, none⟩) h.2.2.2.k).trans h.1, (hb.cell (p := ⟨KB, 1, none⟩) h.2.2.2.k).trans h.2.1, (hb.cell (p := ⟨ab, o, none⟩) h.2.2.2.a).trans h.2.2.1, Nat.lt_of_lt_of_le h.2.2.2.k hb.size, Nat.lt_of_lt_of_le h.2.2.2.a hb.size⟩
theorem SyT.make {KB ab o : Nat} {f : Bool} {w : World} (h : SyT KB ab o f w.drew) (ob : Obj) : SyT KB ab o f (w.alloc ob).drew := h.next (below_drew_left ((Below.refl w.heap.size w).alloc (Nat.le_refl _) ob).drew)
theorem LdIs.other {base l B : Nat} {ms : List Mk} {w : World} {c : Array Value} {t : TypeId} (h : LdIs base l ms w) (hb : Blk w B c t) (h1 : t ≠ 60) (h2 : t ≠ 49) (j : Nat) (v : Value) : LdIs base l ms (w.setCell ⟨B, j, none⟩ v) := by
  have hgs := grown_set w B j v
  obtain ⟨m1, x, m2⟩ := h
  exact ⟨m1, x, m2.blk.kept hgs (fun e => Blk.ne m2.blk hb (fun e => h1 e.symm) (Option.some.inj e)), own_other m2.row hgs (fun gg hgg e => row_block m2.row hb h2 (by rw [hgg, ← e])), m2.bl⟩
theorem low_set {n B : Nat} {w : World} (hB : n ≤ B) (j : Nat) (v : Value) : Below n w (w.setCell ⟨B, j, none⟩ v) := (Below.refl _ _).setCell (p := ⟨B, j, none⟩) hB v
theorem Gv.low {b : Addr} {n : Nat} {w w' : World} (h : Gv b w) (hb : Below n w w') (hn : 1 < n) : Gv b w' := ⟨(hb.cell (p := ⟨1, 0, none⟩) hn).trans h.1, Nat.lt_of_lt_of_le h.2 hb.size⟩
theorem Gn.low {b : Addr} {n : Nat} {w w' : World} (h : Gn b w) (hb : Below n w w') (hn : 0 < n) : Gn b w' := ⟨(hb.cell (p := ⟨0, 0, none⟩) hn).trans h.1, Nat.lt_of_lt_of_le h.2 hb.size⟩
abbrev SyU (ab o TB : Nat) (us : ByteArray) (w : World) : Prop := w.cell? ⟨ab, o, none⟩ = some (.string us) ∧ SySz TB ab w
theorem SyU.set {ab o TB : Nat} {us : ByteArray} {w : World} (h : SyU ab o TB us w.drew) (hne : ab ≠ TB) (j : Nat) (v : Value) : SyU ab o TB us (w.setCell ⟨TB, j, none⟩ v).drew := by
  have hg := grown_set w TB j v
  have ha : ab < w.heap.size := h.2.a
  have hk : TB < w.heap.size := h.2.k
  have : (w.setCell ⟨TB, j, none⟩ v).heap[ab]? = w.heap[ab]? := hg.block ab ha (fun e => hne (Option.some.inj e))
  exact ⟨(World.cell?_of_block (a := ⟨ab, o, none⟩) this).trans h.1, ⟨Nat.lt_of_lt_of_le hk hg.size, Nat.lt_of_lt_of_le ha hg.size⟩⟩
set_option maxRecDepth 100000 in
set_option maxHeartbeats 8000000 in
theorem stays_walk (a : Option Addr) (c : Nat) (ds : List Dd) (n0 : Nat) (g b : Addr) (W : World) (hg : Gv g W) (hn : Gn b W) (hin : DdsIn W a ds) (hds : ∀ p ∈ ds, p.kd < 256 ∧ p.nm < 256 ∧ p.q < 2 ^ 64 ∧ p.s.size ≤ maxLen ∧ p.x.size ≤ maxLen ∧ -9223372036854775808 ≤ p.t ∧ p.t ≤ 9223372036854775807) (hlen : ds.length ≤ maxLen) (h0 : n0 < 256) :
    Calls Tryd.prog 4 #[.int .u8 (n0 : Int), .slice a ds.length c] W fun e w' => e = .returned (.bool true) ∧ Below W.heap.size W w' := by
  obtain ⟨LL, hLL⟩ : ∃ LL, ds.length = LL := ⟨_, rfl⟩
  rw [hLL] at hlen ⊢
  have hlen' : LL ≤ 9223372036854775807 := hlen
  have HLL := Lib.hid hLL
  have HIN := Lib.hid hin
  have HDS := Lib.hid hds
  obtain ⟨κ, hκ⟩ : ∃ κ, n0 % 10 = κ := ⟨_, rfl⟩
  have hκ9 : κ < 10 := by omega
  obtain ⟨n, hnn⟩ : ∃ n, 1 + κ = n := ⟨_, rfl⟩
  have a1 : (n0 : Int).tmod 10 = (κ : Int) := by rw [Int.tmod_eq_emod_of_nonneg (by omega)]; omega
  have a2 : (n0 : Int) % 10 = (κ : Int) := by omega
  have a3 : IntKind.u8.wrap (κ : Int) = (κ : Int) := by rw [show IntKind.u8.wrap (κ : Int) = (κ : Int) % 256 from rfl]; omega
  have a4 : IntKind.i64.wrap (κ : Int) = (κ : Int) := by rw [IntKind.wrap_i64]; omega
  have a5 : (1 : Int) + (κ : Int) = (n : Int) := by omega
  have a6 : IntKind.i64.wrap (1 + (κ : Int)) = (n : Int) := by rw [IntKind.wrap_i64]; omega
  have a7 : IntKind.i64.wrap ((n : Int) + 1) = (n : Int) + 1 := by rw [IntKind.wrap_i64]; omega
  have hn10 : n ≤ 10 := by omega
  have hn1 : 1 ≤ n := by omega
  have HN := Lib.hid (And.intro hn10 hn1)
  clear hκ hnn h0 hLL hin hds hlen
  have HG := Lib.hid (And.intro hg hn)
  have HEX := Lib.hid (ld_examples g b W hg hn)
  clear hg hn
  go_enter Tryd.func4, Tryd.ntmps4
  go_wp2_with fail
  refine HEX.out.mono ?_
  rintro e w ⟨rfl, hb⟩
  have HK := Lib.hid hb
  have HG := Lib.hid (And.intro (HG.out.1.below hb) (HG.out.2.later hb))
  clear hb HEX
  go_wp2_with fail
  refine (new_is w).mono ?_
  rintro e w1 ⟨l, rfl, h1, hb1⟩
  have HLW := Lib.hid (show 1 < w.heap.size ∧ 0 < w.heap.size from ⟨HG.out.1.2, HG.out.2.2⟩)
  have HLE := Lib.hid HK.out.size
  have HK := Lib.hid (HK.out.trans (hb1.mono HLE.out))
  have HG := Lib.hid (And.intro (HG.out.1.below hb1) (HG.out.2.later hb1))
  have HI := Lib.hid h1
  clear h1 hb1
  have HW1S := Lib.hid (HI.out.hB)
  obtain ⟨w2, hw2, hb2, q2⟩ := ld_new w1 #[.int .i64 4, .string ⟨#[107]⟩] 31
  have HK := Lib.hid (HK.out.trans (hb2.mono HK.out.size))
  have HG := Lib.hid (And.intro (HG.out.1.below hb2) (HG.out.2.later hb2))
  have HI := Lib.hid (HI.out.later hb2)
  have HW := Lib.hid hw2
  have HQ := Lib.hid q2
  clear hw2 hb2 q2
  go_wp2_with (rw [HW.out])
  obtain ⟨KB, hKB⟩ : ∃ KB, w1.heap.size = KB := ⟨_, rfl⟩
  rw [hKB] at HQ ⊢
  clear HW hKB
  go_loopw [9] (fun vi wr => ∃ i : Nat, vi = .int .i64 ((i : Int) + 1) ∧ i ≤ n ∧ LdIs w.heap.size l (stM i (fun _ => 1) (fun _ => ⟨#[]⟩)) wr ∧ (Gv g wr ∧ Gn b wr) ∧ Blk wr KB #[.int .i64 4, .string ⟨#[107]⟩] 31 ∧ Below W.heap.size W wr) (fun vi _ => n + 1 - (intOf vi).toNat)
  case atStart => exact ⟨0, rfl, Nat.zero_le _, HI.out, HG.out, HQ.out, HK.out⟩
  case round =>
    clear HI HG HQ HK
    obtain ⟨i, rfl, hi, hi1, hi2, hi3, hi4⟩ := hrel
    have HI := Lib.hid hi1
    have HG := Lib.hid hi2
    have HQ := Lib.hid hi3
    have HK := Lib.hid hi4
    clear hi1 hi2 hi3 hi4
    have z0 : wr.cell? ⟨KB, 0, none⟩ = some (.int .i64 4) := HQ.out.cell 0
    have z1 : wr.cell? ⟨KB, 1, none⟩ = some (.string ⟨#[107]⟩) := HQ.out.cell 1
    by_cases hlt : i < n
    · have b1 : (i : Int) + 1 ≤ (n : Int) := by omega
      obtain ⟨Q, hQ⟩ : ∃ Q, 2 * (i + 1) = Q := ⟨_, rfl⟩
      have b2 : (2 : Int) * ((i : Int) + 1) = (Q : Int) := by omega
      have b4 : IntKind.i64.wrap (2 * ((i : Int) + 1)) = (Q : Int) := by rw [IntKind.wrap_i64]; omega
      have b5 : IntKind.u64.wrap (Q : Int) = (Q : Int) := by rw [show IntKind.u64.wrap (Q : Int) = (Q : Int) % 18446744073709551616 from rfl]; omega
      have b3 : IntKind.i64.wrap ((i : Int) + 1 + 1) = (i : Int) + 1 + 1 := by rw [IntKind.wrap_i64]; omega
      have HS : Calls Tryd.prog 15 #[.pointer (some ⟨l, 0, none⟩), .agg #[.int .i64 4, .string ⟨#[107]⟩], .int .u64 (Q : Int)] wr (fun e w' => e = .returned (.int .i64 0) ∧ LdIs w.heap.size l (stM (i + 1) (fun _ => 1) (fun _ => ⟨#[]⟩)) w' ∧ Kept w.heap.size wr w') := by
        have hs := begin_is w.heap.size l 4 exK (2 * (i + 1)) _ wr HI.out (by omega)
        rw [(stM_next i (by omega)).1, (stM_next i (by omega)).2, hQ] at hs
        exact hs
      go_wp2_with fail
      refine HS.mono ?_
      rintro e w3 ⟨rfl, hi, hk⟩
      clear HS z0 z1
      have HK := Lib.hid (HK.out.trans ((hk.below HI.out.hB).mono HLE.out))
      have HG := Lib.hid (And.intro (HI.out.gv HG.out.1 HLW.out.1 hk) (HI.out.gn HG.out.2 HLW.out.2 hk))
      have HQ := Lib.hid (hk.blk HQ.out (by decide) (by decide))
      have HI := Lib.hid hi
      clear hi hk
      go_wp2_with fail
      go_roundw
      case rel => exact ⟨i + 1, by go_num, by omega, HI.out, HG.out, HQ.out, HK.out⟩
      case measure => simp [intOf]; omega
    · obtain rfl : i = n := by omega
      have b1 : ¬ (i : Int) + 1 ≤ (i : Int) := by omega
      clear hlt hi z0 z1
      have b8 : (0 : Int) ≤ (i : Int) + 1 := by omega
      have b9 : ((i : Int) + 1).toNat = i + 1 := by omega
      have hmk := make_ints i (by omega) wr
      obtain ⟨w3, hw3, hb, q3⟩ := ld_new wr (svL i fun _ => 0) 3
      rw [hw3] at hmk
      rw [svF_zero] at q3
      obtain ⟨SB, hSB⟩ : ∃ SB, wr.heap.size = SB := ⟨_, rfl⟩
      have HSB := Lib.hid (show w.heap.size ≤ SB by rw [← hSB]; have := HI.out.hB; exact this)
      rw [hSB] at hmk q3
      have HQS := Lib.hid q3
      have HK := Lib.hid (HK.out.trans (hb.mono HK.out.size))
      have HG := Lib.hid (And.intro (HG.out.1.below hb) (HG.out.2.later hb))
      have HQ := Lib.hid (HQ.out.later hb)
      have HI := Lib.hid (HI.out.later hb)
      have z0 : w3.cell? ⟨KB, 0, none⟩ = some (.int .i64 4) := HQ.out.cell 0
      have z1 : w3.cell? ⟨KB, 1, none⟩ = some (.string ⟨#[107]⟩) := HQ.out.cell 1
      clear hb
      clear hw3 q3 hSB
      go_wp2_with fail
      go_loopw [11, 12, 13, 14, 15, 16, 17] (fun vi _ _ _ _ _ _ wr => ∃ (k : Nat) (st : Nat → Int) (dt : Nat → ByteArray), vi = .int .i64 (k : Int) ∧ k ≤ 20 ∧ k ≤ LL ∧ (∀ j, st j = 1 ∨ st j = 2 ∨ st j = 3) ∧ (∀ j, (dt j).size ≤ 20) ∧ LdIs w.heap.size l (stM i st dt) wr ∧ (Gv g wr ∧ Gn b wr) ∧ Blk wr KB #[.int .i64 4, .string ⟨#[107]⟩] 31 ∧ Blk wr SB (svL i (svF st st 0)) 3 ∧ Below W.heap.size W wr) (fun vi _ _ _ _ _ _ _ => 20 - (intOf vi).toNat)
      case atStart => exact ⟨0, fun _ => 1, fun _ => ⟨#[]⟩, rfl, by omega, Nat.zero_le _, fun _ => .inl rfl, fun _ => Nat.zero_le _, HI.out, HG.out, HQ.out, HQS.out, HK.out⟩
      case round =>
        clear HI HG HQ HK HQS z0 z1 hmk
        obtain ⟨k, st, dt, rfl, hk20, hkL, hst, hdt, hi1, hi2, hi3, hi5, hi4⟩ := hrel
        have HI := Lib.hid hi1
        have HG := Lib.hid hi2
        have HQ := Lib.hid hi3
        have HQS := Lib.hid hi5
        have HK := Lib.hid hi4
        have HST := Lib.hid hst
        have HDT := Lib.hid hdt
        clear hi1 hi2 hi3 hi4 hi5 hst hdt
        by_cases hlt : k < LL ∧ k < 20
        · obtain ⟨hl1, hl2⟩ := hlt
          have k1 : (k : Int) < (LL : Int) := by omega
          have k2 : (k : Int) < 20 := by omega
          have k3 : (0 : Int) ≤ (k : Int) := by omega
          obtain ⟨u, hx⟩ : ∃ u, ds[k]? = some u := ⟨_, List.getElem?_eq_getElem (by have := HLL.out; omega)⟩
          have hu := HDS.out u (List.mem_of_getElem? hx)
          obtain ⟨ab, ao, rfl, hal, p0, p1, p2, p3, p4, p5, p6⟩ := (HIN.out.below HK.out) k u hx
          obtain ⟨ukd, unm, ut, ux, uq, f, us⟩ := u
          simp only at hu p0 p1 p2 p3 p4 p5 p6
          obtain ⟨ρ, hρ⟩ : ∃ ρ, unm % i = ρ := ⟨_, rfl⟩
          have hρn : ρ < i := by rw [← hρ]; exact Nat.mod_lt _ (by have := HN.out.2; omega)
          obtain ⟨P, hP⟩ : ∃ P, 1 + ρ = P := ⟨_, rfl⟩
          have hi10 := HN.out.1
          have c1 : (unm : Int).tmod (i : Int) = (ρ : Int) := by rw [Int.tmod_eq_emod_of_nonneg (by omega), ← hρ]; rfl
          have c2 : (unm : Int) % (i : Int) = (ρ : Int) := by rw [← hρ]; rfl
          have c3 : IntKind.i64.wrap (unm : Int) = (unm : Int) := by rw [IntKind.wrap_i64]; omega
          have c4 : IntKind.i64.wrap (ρ : Int) = (ρ : Int) := by rw [IntKind.wrap_i64]; omega
          have c5 : (1 : Int) + (ρ : Int) = (P : Int) := by omega
          have c6 : IntKind.i64.wrap (1 + (ρ : Int)) = (P : Int) := by rw [IntKind.wrap_i64]; omega
          have c9 : IntKind.i64.wrap (P : Int) = (P : Int) := by rw [IntKind.wrap_i64]; omega
          have c7 : ¬ ((i : Int) = 0) := by have := HN.out.2; omega
          have hP1 : 1 ≤ P := by omega
          have hPn : P ≤ i := by omega
          have HPN := Lib.hid (And.intro hP1 hPn)
          obtain ⟨Q, hQ⟩ : ∃ Q, 2 * P = Q := ⟨_, rfl⟩
          have d1 : (2 : Int) * (P : Int) = (Q : Int) := by omega
          have d2 : IntKind.i64.wrap (2 * (P : Int)) = (Q : Int) := by rw [IntKind.wrap_i64]; omega
          have d6 : IntKind.i64.wrap (Q : Int) = (Q : Int) := by rw [IntKind.wrap_i64]; omega
          have d3 : IntKind.u64.wrap (Q : Int) = (Q : Int) := by rw [show IntKind.u64.wrap (Q : Int) = (Q : Int) % 18446744073709551616 from rfl]; omega
          have d4 : IntKind.i64.wrap ((Q : Int) + 1) = (Q : Int) + 1 := by rw [IntKind.wrap_i64]; omega
          have d5 : IntKind.u64.wrap ((Q : Int) + 1) = (Q : Int) + 1 := by rw [show IntKind.u64.wrap ((Q : Int) + 1) = ((Q : Int) + 1) % 18446744073709551616 from rfl]; omega
          have HQQ := Lib.hid hQ
          have hus : us.size ≤ 9223372036854775807 := hu.2.2.2.1
          have z0 : wr.cell? ⟨KB, 0, none⟩ = some (.int .i64 4) := HQ.out.cell 0
          have z1 : wr.cell? ⟨KB, 1, none⟩ = some (.string ⟨#[107]⟩) := HQ.out.cell 1
          -- the status' box
          obtain ⟨w4, hw4, hb, q4⟩ := ld_new wr.drew #[.int .i64 4, .string ⟨#[107]⟩, .int .u64 (Q : Int), .bool f, .string ⟨#[]⟩] 37
          clear hx hu hρ hρn hP hQ hi10 hP1 hPn
          have ST3 : SyT KB ab (ao + k * 7 + 5) f wr.drew := ⟨z0, z1, p5, HQ.out.lt, hal⟩
          have HW4 := Lib.hid hw4
          have HB4 := Lib.hid (show Below wr.heap.size wr w4 from ((Below.refl wr.heap.size wr).drew).trans hb)
          have HT4 := Lib.hid (show Blk w4 wr.heap.size #[.int .i64 4, .string ⟨#[107]⟩, .int .u64 (Q : Int), .bool f, .string ⟨#[]⟩] 37 from q4)
          clear hw4 hb q4
          go_wp2_with fail
          go_region_held3 (fun w' => w'.cell? ⟨KB, 0, none⟩ = some (.int .i64 4) ∧ w'.cell? ⟨KB, 1, none⟩ = some (.string ⟨#[107]⟩) ∧ w'.cell? ⟨ab, ao + k * 7 + 5, none⟩ = some (.bool f) ∧ SySz KB ab w') (with_reducible first | exact ST3 | exact SyT.make ST3 _ | go_keep) (fail)
          rename_i hH
          have HSY := Lib.hid hH
          clear hH ST3 z0 z1 p5
          obtain ⟨TB, hTB⟩ : ∃ TB, wr.heap.size = TB := ⟨_, rfl⟩
          have hb : Below wr.heap.size wr (wr.alloc (.cells #[.int .i64 4, .string ⟨#[107]⟩, .int .u64 (Q : Int), .bool f, .string ⟨#[]⟩] 37)).drew := ((Below.refl wr.heap.size wr).alloc (Nat.le_refl _) _).drew
          have q4 : Blk (wr.alloc (.cells #[.int .i64 4, .string ⟨#[107]⟩, .int .u64 (Q : Int), .bool f, .string ⟨#[]⟩] 37)).drew wr.heap.size #[.int .i64 4, .string ⟨#[107]⟩, .int .u64 (Q : Int), .bool f, .string ⟨#[]⟩] 37 := Blk.new wr _ _
          have p7 : (wr.alloc (.cells #[.int .i64 4, .string ⟨#[107]⟩, .int .u64 (Q : Int), .bool f, .string ⟨#[]⟩] 37)).drew.cell? ⟨ab, ao + k * 7 + 6, none⟩ = some (.string us) := (hb.cell (p := ⟨ab, _, none⟩) hal).trans p6
          have HTL := Lib.hid (show w.heap.size ≤ TB ∧ ab < TB by rw [← hTB]; exact ⟨by have := HI.out.hB; exact this, hal⟩)
          clear HSY HW4 HB4 HT4 p0 p1 p2 p3 p4 p6
          generalize (wr.alloc (.cells #[.int .i64 4, .string ⟨#[107]⟩, .int .u64 (Q : Int), .bool f, .string ⟨#[]⟩] 37)).drew = w4 at hb q4 p7 ⊢
          rw [hTB] at q4 ⊢
          have HQS := Lib.hid (HQS.out.later hb)
          have HT := Lib.hid q4
          have HK := Lib.hid (HK.out.trans (hb.mono HK.out.size))
          have HG := Lib.hid (And.intro (HG.out.1.below hb) (HG.out.2.later hb))
          have HQ := Lib.hid (HQ.out.later hb)
          have HI := Lib.hid (HI.out.later hb)
          clear hb
          clear q4 hTB
          have t2 : w4.cell? ⟨TB, 3, none⟩ = some (.bool f) := HT.out.cell 3
          cases f with
          | true =>
            clear p7
            have z0 : w4.cell? ⟨KB, 0, none⟩ = some (.int .i64 4) := HQ.out.cell 0
            have z1 : w4.cell? ⟨KB, 1, none⟩ = some (.string ⟨#[107]⟩) := HQ.out.cell 1
            have hno := st_note (n := i) (p := P) true ⟨#[]⟩ st dt HPN.out.1 HPN.out.2 (Nat.zero_le _) (fun _ => rfl)
            have hs := note_is g b w.heap.size l ⟨4, exK, 2 * P, true, ⟨#[]⟩⟩ (stM i st dt) w4 HG.out.1 HG.out.2 (by show 2 * P < _; have h8 := HPN.out.2; have h9 := HN.out.1; omega) HI.out
            rw [hno.1, hno.2] at hs
            obtain ⟨st', hst'⟩ : ∃ st', nextS true P st = st' := ⟨_, rfl⟩
            obtain ⟨dt', hdt'⟩ : ∃ dt', nextD true P ⟨#[]⟩ st dt = dt' := ⟨_, rfl⟩
            rw [hst', hdt'] at hs
            have HNX := Lib.hid (And.intro hst' hdt')
            have HS : Calls Tryd.prog 11 #[.pointer (some ⟨l, 0, none⟩), .agg #[.int .i64 4, .string ⟨#[107]⟩, .int .u64 (Q : Int), .bool true, .string ⟨#[]⟩]] w4 (fun e w' => e = .returned (.int .i64 0) ∧ LdIs w.heap.size l (stM i st' dt') w' ∧ Kept w.heap.size w4 w') := by
              rw [← HQQ.out]; exact hs
            clear hs hno hst' hdt'
            have y0 : w4.cell? ⟨TB, 0, none⟩ = some (.int .i64 4) := HT.out.cell 0
            have y1 : w4.cell? ⟨TB, 1, none⟩ = some (.string ⟨#[107]⟩) := HT.out.cell 1
            have y2 : w4.cell? ⟨TB, 2, none⟩ = some (.int .u64 (Q : Int)) := HT.out.cell 2
            have y3 : w4.cell? ⟨TB, 3, none⟩ = some (.bool true) := HT.out.cell 3
            have y4 : w4.cell? ⟨TB, 4, none⟩ = some (.string ⟨#[]⟩) := HT.out.cell 4
            go_wp2_with fail
            refine HS.mono ?_
            rintro e w6 ⟨rfl, hi, hk⟩
            clear HS y0 y1 y2 y3 y4
            have HK := Lib.hid (HK.out.trans ((hk.below HI.out.hB).mono HLE.out))
            have HG := Lib.hid (And.intro (HI.out.gv HG.out.1 HLW.out.1 hk) (HI.out.gn HG.out.2 HLW.out.2 hk))
            have HQ := Lib.hid (hk.blk HQ.out (by decide) (by decide))
            have HQS := Lib.hid (hk.blk HQS.out (by decide) (by decide))
            have HT := Lib.hid (hk.blk HT.out (by decide) (by decide))
            have HI := Lib.hid hi
            have z0 : w6.cell? ⟨KB, 0, none⟩ = some (.int .i64 4) := HQ.out.cell 0
            have z1 : w6.cell? ⟨KB, 1, none⟩ = some (.string ⟨#[107]⟩) := HQ.out.cell 1
            clear hi hk
            have hs := note_is g b w.heap.size l ⟨4, exK, 2 * P + 1, true, ⟨#[]⟩⟩ (stM i st' dt') w6 HG.out.1 HG.out.2 (by show 2 * P + 1 < _; have h8 := HPN.out.2; have h9 := HN.out.1; omega) HI.out
            rw [(st_none st' dt').1, (st_none st' dt').2] at hs
            have HS : Calls Tryd.prog 11 #[.pointer (some ⟨l, 0, none⟩), .agg #[.int .i64 4, .string ⟨#[107]⟩, .int .u64 ((Q : Int) + 1), .bool true, .string ⟨#[]⟩]] w6 (fun e w' => e = .returned (.int .i64 5) ∧ LdIs w.heap.size l (stM i st' dt') w' ∧ Kept w.heap.size w6 w') := by
              have e : ((2 * P + 1 : Nat) : Int) = (Q : Int) + 1 := by have := HQQ.out; omega
              rw [← e]; exact hs
            clear hs
            go_wp2_with fail
            refine HS.mono ?_
            rintro e w7 ⟨rfl, hi, hk⟩
            clear HS z0 z1
            have HK := Lib.hid (HK.out.trans ((hk.below HI.out.hB).mono HLE.out))
            have HG := Lib.hid (And.intro (HI.out.gv HG.out.1 HLW.out.1 hk) (HI.out.gn HG.out.2 HLW.out.2 hk))
            have HQ := Lib.hid (hk.blk HQ.out (by decide) (by decide))
            have HQS := Lib.hid (hk.blk HQS.out (by decide) (by decide))
            have HT := Lib.hid (hk.blk HT.out (by decide) (by decide))
            have HI := Lib.hid hi
            clear hi hk
            have HS1 := Lib.hid (show Blk w7 SB (svL i (svF st st' 1)) 3 by rw [← svF_one]; exact HQS.out)
            clear HQS
            go_wp2_with fail
            go_loopw [14, 15, 16, 17] (fun vj _ _ _ wr => ∃ j : Nat, vj = .int .i64 ((j : Int) + 1) ∧ j ≤ i ∧ LdIs w.heap.size l (stM i st' dt') wr ∧ (Gv g wr ∧ Gn b wr) ∧ Blk wr KB #[.int .i64 4, .string ⟨#[107]⟩] 31 ∧ Blk wr TB #[.int .i64 4, .string ⟨#[107]⟩, .int .u64 (Q : Int), .bool true, .string ⟨#[]⟩] 37 ∧ Blk wr SB (svL i (svF st st' (j + 1))) 3 ∧ Below W.heap.size W wr) (fun vj _ _ _ _ => i + 1 - (intOf vj).toNat)
            case atStart => exact ⟨0, rfl, Nat.zero_le _, HI.out, HG.out, HQ.out, HT.out, HS1.out, HK.out⟩
            case round =>
              clear HI HG HQ HK HT HS1
              obtain ⟨j, rfl, hj, hi1, hi2, hi3, hi5, hi6, hi4⟩ := hrel
              have HI := Lib.hid hi1
              have HG := Lib.hid hi2
              have HQ := Lib.hid hi3
              have HT := Lib.hid hi5
              have HQS := Lib.hid hi6
              have HK := Lib.hid hi4
              clear hi1 hi2 hi3 hi4 hi5 hi6
              have z0 : wr.cell? ⟨KB, 0, none⟩ = some (.int .i64 4) := HQ.out.cell 0
              have z1 : wr.cell? ⟨KB, 1, none⟩ = some (.string ⟨#[107]⟩) := HQ.out.cell 1
              by_cases hlt3 : j < i
              · have e1 : (j : Int) + 1 ≤ (i : Int) := by omega
                have e0 : (0 : Int) ≤ (j : Int) + 1 := by omega
                have e5 : (j : Int) + 1 < (i : Int) + 1 := by omega
                have e6 : ((j : Int) + 1).toNat = j + 1 := by omega
                have e7 : IntKind.i64.wrap ((j : Int) + 1 + 1) = (j : Int) + 1 + 1 := by rw [IntKind.wrap_i64]; omega
                obtain ⟨R, hR⟩ : ∃ R, 2 * (j + 1) = R := ⟨_, rfl⟩
                have e2 : (2 : Int) * ((j : Int) + 1) = (R : Int) := by omega
                have e3 : IntKind.i64.wrap (2 * ((j : Int) + 1)) = (R : Int) := by rw [IntKind.wrap_i64]; omega
                have e4 : IntKind.u64.wrap (R : Int) = (R : Int) := by rw [show IntKind.u64.wrap (R : Int) = (R : Int) % 18446744073709551616 from rfl]; omega
                have hs := state_is w.heap.size l 4 exK (2 * (j + 1)) (stM i st' dt') wr HI.out
                rw [st_state st' dt' (j := j + 1) (by omega) (by omega), hR] at hs
                obtain ⟨G, hG⟩ : ∃ G, st' (j + 1) = G := ⟨_, rfl⟩
                obtain ⟨DD, hDD⟩ : ∃ DD, dt' (j + 1) = DD := ⟨_, rfl⟩
                rw [hG, hDD] at hs
                have HS : Calls Tryd.prog 17 #[.pointer (some ⟨l, 0, none⟩), .agg #[.int .i64 4, .string ⟨#[107]⟩], .int .u64 (R : Int)] wr (fun e w' => e = .returned (.tuple #[.int .i64 G, .string DD]) ∧ Below wr.heap.size wr w') := hs
                have hcs := next_cases true P st ⟨#[]⟩ dt (j + 1) (HST.out (j + 1))
                rw [HNX.out.1, HNX.out.2, hG, hDD] at hcs
                have HGG := Lib.hid hG
                have HCS := Lib.hid hcs
                clear hs hR hcs hG hDD
                go_wp2_with fail
                refine HS.mono ?_
                rintro e w8 ⟨rfl, hb⟩
                clear HS z0 z1
                have HK := Lib.hid (HK.out.trans (hb.mono HK.out.size))
                have HG := Lib.hid (And.intro (HG.out.1.below hb) (HG.out.2.later hb))
                have HQ := Lib.hid (HQ.out.later hb)
                have HT := Lib.hid (HT.out.later hb)
                have HQS := Lib.hid (HQS.out.later hb)
                have HI := Lib.hid (HI.out.later hb)
                clear hb
                have sv : w8.cell? ⟨SB, j + 1, none⟩ = some (.int .i64 (svS (st (j + 1)))) := by rw [HQS.out.cell (j + 1), svL_get _ (by omega), svF_at (by omega)]
                have sf : w8.frozen? ⟨SB, j + 1, none⟩ = false := HQS.out.frozen (j + 1)
                have y3 : w8.cell? ⟨TB, 3, none⟩ = some (.bool true) := HT.out.cell 3
                have y4 : w8.cell? ⟨TB, 4, none⟩ = some (.string ⟨#[]⟩) := HT.out.cell 4
                rcases HCS.out with ⟨h1, _, h3, rfl⟩ | ⟨h1, _, h3, rfl⟩ | ⟨_, h2, _⟩ | ⟨_, h2, _⟩ | ⟨h1, rfl⟩ | ⟨h1, rfl⟩
                · rw [h1] at sv
                  have sv2 : w8.cell? ⟨SB, j + 1, none⟩ = some (.int .i64 0) := sv
                  have h4 : (j : Int) + 1 ≤ (P : Int) := by omega
                  clear sv
                  have HSET := Lib.hid (svF_set (st := st) (st' := st') (n := i) (j := j + 1) (by omega) (by omega) (v := 2) (by rw [HGG.out]; rfl))
                  have HH1 := Lib.hid h1
                  clear h1 h3
                  go_wp2_with fail
                  have hlw := low_set (w := w8) HSB.out (j + 1) (.int .i64 2)
                  have HI2 := Lib.hid (HI.out.other HQS.out (by decide) (by decide) (j + 1) (.int .i64 2))
                  have HG2 := Lib.hid (And.intro (HG.out.1.low hlw HLW.out.1) (HG.out.2.low hlw HLW.out.2))
                  have HQ2 := Lib.hid (HQ.out.kept (grown_set w8 SB (j + 1) (.int .i64 2)) (fun e => Blk.ne HQ.out HQS.out (by decide) (Option.some.inj e)))
                  have HT2 := Lib.hid (HT.out.kept (grown_set w8 SB (j + 1) (.int .i64 2)) (fun e => Blk.ne HT.out HQS.out (by decide) (Option.some.inj e)))
                  have hqs := HQS.out.set (j + 1) (.int .i64 2)
                  rw [HSET.out] at hqs
                  have HQS2 := Lib.hid hqs
                  have HK2 := Lib.hid (HK.out.trans (hlw.mono HLE.out))
                  clear hlw hqs
                  go_roundw
                  case rel => exact ⟨j + 1, by go_num, by omega, HI2.out, HG2.out, HQ2.out, HT2.out, HQS2.out, HK2.out⟩
                  case measure => simp [intOf]; omega
                · rw [h1] at sv
                  have sv2 : w8.cell? ⟨SB, j + 1, none⟩ = some (.int .i64 0) := sv
                  have h4 : ¬ (j : Int) + 1 ≤ (P : Int) := by omega
                  clear sv
                  have HKEEP := Lib.hid (svF_keep (st := st) (st' := st') (n := i) (j := j + 1) (by omega) (by rw [HGG.out, h1]))
                  have HH1 := Lib.hid h1
                  clear h1 h3
                  go_wp2_with fail
                  go_roundw
                  case rel => exact ⟨j + 1, by go_num, by omega, HI.out, HG.out, HQ.out, HT.out, by rw [← HKEEP.out]; exact HQS.out, HK.out⟩
                  case measure => simp [intOf]; omega
                · cases h2
                · cases h2
                · rw [h1] at sv
                  have sv2 : w8.cell? ⟨SB, j + 1, none⟩ = some (.int .i64 2) := sv
                  clear sv
                  have HSET := Lib.hid (svF_set (st := st) (st' := st') (n := i) (j := j + 1) (by omega) (by omega) (v := 2) (by rw [HGG.out]; rfl))
                  have HH1 := Lib.hid h1
                  clear h1
                  go_wp2_with fail
                  have hlw := low_set (w := w8) HSB.out (j + 1) (.int .i64 2)
                  have HI2 := Lib.hid (HI.out.other HQS.out (by decide) (by decide) (j + 1) (.int .i64 2))
                  have HG2 := Lib.hid (And.intro (HG.out.1.low hlw HLW.out.1) (HG.out.2.low hlw HLW.out.2))
                  have HQ2 := Lib.hid (HQ.out.kept (grown_set w8 SB (j + 1) (.int .i64 2)) (fun e => Blk.ne HQ.out HQS.out (by decide) (Option.some.inj e)))
                  have HT2 := Lib.hid (HT.out.kept (grown_set w8 SB (j + 1) (.int .i64 2)) (fun e => Blk.ne HT.out HQS.out (by decide) (Option.some.inj e)))
                  have hqs := HQS.out.set (j + 1) (.int .i64 2)
                  rw [HSET.out] at hqs
                  have HQS2 := Lib.hid hqs
                  have HK2 := Lib.hid (HK.out.trans (hlw.mono HLE.out))
                  clear hlw hqs
                  go_roundw
                  case rel => exact ⟨j + 1, by go_num, by omega, HI2.out, HG2.out, HQ2.out, HT2.out, HQS2.out, HK2.out⟩
                  case measure => simp [intOf]; omega
                · rw [h1] at sv
                  have sv2 : w8.cell? ⟨SB, j + 1, none⟩ = some (.int .i64 3) := sv
                  clear sv
                  have HSET := Lib.hid (svF_set (st := st) (st' := st') (n := i) (j := j + 1) (by omega) (by omega) (v := 3) (by rw [HGG.out]; rfl))
                  have HH1 := Lib.hid h1
                  clear h1
                  go_wp2_with fail
                  have hlw := low_set (w := w8) HSB.out (j + 1) (.int .i64 3)
                  have HI2 := Lib.hid (HI.out.other HQS.out (by decide) (by decide) (j + 1) (.int .i64 3))
                  have HG2 := Lib.hid (And.intro (HG.out.1.low hlw HLW.out.1) (HG.out.2.low hlw HLW.out.2))
                  have HQ2 := Lib.hid (HQ.out.kept (grown_set w8 SB (j + 1) (.int .i64 3)) (fun e => Blk.ne HQ.out HQS.out (by decide) (Option.some.inj e)))
                  have HT2 := Lib.hid (HT.out.kept (grown_set w8 SB (j + 1) (.int .i64 3)) (fun e => Blk.ne HT.out HQS.out (by decide) (Option.some.inj e)))
                  have hqs := HQS.out.set (j + 1) (.int .i64 3)
                  rw [HSET.out] at hqs
                  have HQS2 := Lib.hid hqs
                  have HK2 := Lib.hid (HK.out.trans (hlw.mono HLE.out))
                  clear hlw hqs
                  go_roundw
                  case rel => exact ⟨j + 1, by go_num, by omega, HI2.out, HG2.out, HQ2.out, HT2.out, HQS2.out, HK2.out⟩
                  case measure => simp [intOf]; omega
              · obtain rfl : j = i := by omega
                have e1 : ¬ (j : Int) + 1 ≤ (j : Int) := by omega
                have HQ9 := Lib.hid (show Blk wr SB (svL j (svF st' st' 0)) 3 by rw [← svF_all (st := st)]; exact HQS.out)
                have HST' := Lib.hid (show (∀ j, st' j = 1 ∨ st' j = 2 ∨ st' j = 3) ∧ (∀ j, (dt' j).size ≤ 20) by
                  rw [← HNX.out.1, ← HNX.out.2]
                  exact ⟨fun j => nextS_vals true P st HST.out j, fun j => nextD_size true P ⟨#[]⟩ st dt (Nat.zero_le _) HDT.out j⟩)
                clear z0 z1 hlt3
                go_wp2_with fail
                go_roundw
                case rel => exact ⟨k + 1, st', dt', by go_num, by omega, by omega, HST'.out.1, HST'.out.2, HI.out, HG.out, HQ.out, HQ9.out, HK.out⟩
                case measure => simp [intOf]; omega
          | false =>
            obtain ⟨M, hM⟩ : ∃ M, min us.size 20 = M := ⟨_, rfl⟩
            have m1 : min (us.size : Int) 20 = (M : Int) := by omega
            have m2 : min (20 : Int) (us.size : Int) = (M : Int) := by omega
            have m3 : (M : Int) ≤ (us.size : Int) := by omega
            have m4 : (0 : Int) ≤ (M : Int) := by omega
            obtain ⟨D, hD⟩ : ∃ D, us.extract 0 M = D := ⟨_, rfl⟩
            have HDZ := Lib.hid (show D.size ≤ 20 by rw [← hD, ByteArray.size_extract]; omega)
            have HDD := Lib.hid hD
            have ST3 : SyU ab (ao + k * 7 + 6) TB us w4.drew := ⟨p7, HT.out.lt, Nat.lt_trans HTL.out.2 HT.out.lt⟩
            have y4 : w4.drew.cell? ⟨TB, 4, none⟩ = some (.string ⟨#[]⟩) := HT.out.cell 4
            have y5 : w4.drew.frozen? ⟨TB, 4, none⟩ = false := HT.out.frozen 4
            have hne : ab ≠ TB := by have := HTL.out.2; omega
            clear hM hD p7
            go_wp2_with fail
            go_region_held3 (fun w' => w'.cell? ⟨ab, ao + k * 7 + 6, none⟩ = some (.string us) ∧ SySz TB ab w') (with_reducible first | exact ST3 | exact SyU.set ST3 hne _ _ | go_keep) (fail)
            rename_i hH
            clear hH ST3 y4 y5 t2 hne m1 m2 m3 m4
            rw [HDD.out]
            have hls := low_set (w := w4) HTL.out.1 4 (.string D)
            have HI := Lib.hid (HI.out.other HT.out (by decide) (by decide) 4 (.string D))
            have HG := Lib.hid (And.intro (HG.out.1.low hls HLW.out.1) (HG.out.2.low hls HLW.out.2))
            have HK := Lib.hid (HK.out.trans (hls.mono HLE.out))
            have HQ := Lib.hid (HQ.out.kept (grown_set w4 TB 4 (.string D)) (fun e => Blk.ne HQ.out HT.out (by decide) (Option.some.inj e)))
            have HQS := Lib.hid (HQS.out.kept (grown_set w4 TB 4 (.string D)) (fun e => Blk.ne HQS.out HT.out (by decide) (Option.some.inj e)))
            have ht := HT.out.set 4 (.string D)
            have HT := Lib.hid (show Blk (w4.setCell ⟨TB, 4, none⟩ (.string D)) TB #[.int .i64 4, .string ⟨#[107]⟩, .int .u64 (Q : Int), .bool false, .string D] 37 from ht)
            clear hls ht
            generalize w4.setCell ⟨TB, 4, none⟩ (.string D) = w40 at HI HG HK HQ HQS HT ⊢
            have hb : Below w40.heap.size w40 w40.drew := (Below.refl _ _).drew
            generalize w40.drew = w5 at hb ⊢
            have HK := Lib.hid (HK.out.trans (hb.mono HK.out.size))
            have HG := Lib.hid (And.intro (HG.out.1.below hb) (HG.out.2.later hb))
            have HQ := Lib.hid (HQ.out.later hb)
            have HQS := Lib.hid (HQS.out.later hb)
            have HT := Lib.hid (HT.out.later hb)
            have HI := Lib.hid (HI.out.later hb)
            clear hb
            have z0 : w5.cell? ⟨KB, 0, none⟩ = some (.int .i64 4) := HQ.out.cell 0
            have z1 : w5.cell? ⟨KB, 1, none⟩ = some (.string ⟨#[107]⟩) := HQ.out.cell 1
            have hno := st_note (n := i) (p := P) false D st dt HPN.out.1 HPN.out.2 (by have := HDZ.out; omega) (fun h => by cases h)
            have hs := note_is g b w.heap.size l ⟨4, exK, 2 * P, false, D⟩ (stM i st dt) w5 HG.out.1 HG.out.2 (by show 2 * P < _; have h8 := HPN.out.2; have h9 := HN.out.1; omega) HI.out
            rw [hno.1, hno.2] at hs
            obtain ⟨st', hst'⟩ : ∃ st', nextS false P st = st' := ⟨_, rfl⟩
            obtain ⟨dt', hdt'⟩ : ∃ dt', nextD false P D st dt = dt' := ⟨_, rfl⟩
            rw [hst', hdt'] at hs
            have HNX := Lib.hid (And.intro hst' hdt')
            have HS : Calls Tryd.prog 11 #[.pointer (some ⟨l, 0, none⟩), .agg #[.int .i64 4, .string ⟨#[107]⟩, .int .u64 (Q : Int), .bool false, .string D]] w5 (fun e w' => e = .returned (.int .i64 0) ∧ LdIs w.heap.size l (stM i st' dt') w' ∧ Kept w.heap.size w5 w') := by
              rw [← HQQ.out]; exact hs
            clear hs hno hst' hdt'
            have y0 : w5.cell? ⟨TB, 0, none⟩ = some (.int .i64 4) := HT.out.cell 0
            have y1 : w5.cell? ⟨TB, 1, none⟩ = some (.string ⟨#[107]⟩) := HT.out.cell 1
            have y2 : w5.cell? ⟨TB, 2, none⟩ = some (.int .u64 (Q : Int)) := HT.out.cell 2
            have y3 : w5.cell? ⟨TB, 3, none⟩ = some (.bool false) := HT.out.cell 3
            have y4 : w5.cell? ⟨TB, 4, none⟩ = some (.string D) := HT.out.cell 4
            go_wp2_with fail
            refine HS.mono ?_
            rintro e w6 ⟨rfl, hi, hk⟩
            clear HS y0 y1 y2 y3 y4
            have HK := Lib.hid (HK.out.trans ((hk.below HI.out.hB).mono HLE.out))
            have HG := Lib.hid (And.intro (HI.out.gv HG.out.1 HLW.out.1 hk) (HI.out.gn HG.out.2 HLW.out.2 hk))
            have HQ := Lib.hid (hk.blk HQ.out (by decide) (by decide))
            have HQS := Lib.hid (hk.blk HQS.out (by decide) (by decide))
            have HT := Lib.hid (hk.blk HT.out (by decide) (by decide))
            have HI := Lib.hid hi
            have z0 : w6.cell? ⟨KB, 0, none⟩ = some (.int .i64 4) := HQ.out.cell 0
            have z1 : w6.cell? ⟨KB, 1, none⟩ = some (.string ⟨#[107]⟩) := HQ.out.cell 1
            clear hi hk
            have hs := note_is g b w.heap.size l ⟨4, exK, 2 * P + 1, true, ⟨#[]⟩⟩ (stM i st' dt') w6 HG.out.1 HG.out.2 (by show 2 * P + 1 < _; have h8 := HPN.out.2; have h9 := HN.out.1; omega) HI.out
            rw [(st_none st' dt').1, (st_none st' dt').2] at hs
            have HS : Calls Tryd.prog 11 #[.pointer (some ⟨l, 0, none⟩), .agg #[.int .i64 4, .string ⟨#[107]⟩, .int .u64 ((Q : Int) + 1), .bool true, .string ⟨#[]⟩]] w6 (fun e w' => e = .returned (.int .i64 5) ∧ LdIs w.heap.size l (stM i st' dt') w' ∧ Kept w.heap.size w6 w') := by
              have e : ((2 * P + 1 : Nat) : Int) = (Q : Int) + 1 := by have := HQQ.out; omega
              rw [← e]; exact hs
            clear hs
            go_wp2_with fail
            refine HS.mono ?_
            rintro e w7 ⟨rfl, hi, hk⟩
            clear HS z0 z1
            have HK := Lib.hid (HK.out.trans ((hk.below HI.out.hB).mono HLE.out))
            have HG := Lib.hid (And.intro (HI.out.gv HG.out.1 HLW.out.1 hk) (HI.out.gn HG.out.2 HLW.out.2 hk))
            have HQ := Lib.hid (hk.blk HQ.out (by decide) (by decide))
            have HQS := Lib.hid (hk.blk HQS.out (by decide) (by decide))
            have HT := Lib.hid (hk.blk HT.out (by decide) (by decide))
            have HI := Lib.hid hi
            clear hi hk
            have HS1 := Lib.hid (show Blk w7 SB (svL i (svF st st' 1)) 3 by rw [← svF_one]; exact HQS.out)
            clear HQS
            go_wp2_with fail
            go_loopw [14, 15, 16, 17] (fun vj _ _ _ wr => ∃ j : Nat, vj = .int .i64 ((j : Int) + 1) ∧ j ≤ i ∧ LdIs w.heap.size l (stM i st' dt') wr ∧ (Gv g wr ∧ Gn b wr) ∧ Blk wr KB #[.int .i64 4, .string ⟨#[107]⟩] 31 ∧ Blk wr TB #[.int .i64 4, .string ⟨#[107]⟩, .int .u64 (Q : Int), .bool false, .string D] 37 ∧ Blk wr SB (svL i (svF st st' (j + 1))) 3 ∧ Below W.heap.size W wr) (fun vj _ _ _ _ => i + 1 - (intOf vj).toNat)
            case atStart => exact ⟨0, rfl, Nat.zero_le _, HI.out, HG.out, HQ.out, HT.out, HS1.out, HK.out⟩
            case round =>
              clear HI HG HQ HK HT HS1
              obtain ⟨j, rfl, hj, hi1, hi2, hi3, hi5, hi6, hi4⟩ := hrel
              have HI := Lib.hid hi1
              have HG := Lib.hid hi2
              have HQ := Lib.hid hi3
              have HT := Lib.hid hi5
              have HQS := Lib.hid hi6
              have HK := Lib.hid hi4
              clear hi1 hi2 hi3 hi4 hi5 hi6
              have z0 : wr.cell? ⟨KB, 0, none⟩ = some (.int .i64 4) := HQ.out.cell 0
              have z1 : wr.cell? ⟨KB, 1, none⟩ = some (.string ⟨#[107]⟩) := HQ.out.cell 1
              by_cases hlt3 : j < i
              · have e1 : (j : Int) + 1 ≤ (i : Int) := by omega
                have e0 : (0 : Int) ≤ (j : Int) + 1 := by omega
                have e5 : (j : Int) + 1 < (i : Int) + 1 := by omega
                have e6 : ((j : Int) + 1).toNat = j + 1 := by omega
                have e7 : IntKind.i64.wrap ((j : Int) + 1 + 1) = (j : Int) + 1 + 1 := by rw [IntKind.wrap_i64]; omega
                obtain ⟨R, hR⟩ : ∃ R, 2 * (j + 1) = R := ⟨_, rfl⟩
                have e2 : (2 : Int) * ((j : Int) + 1) = (R : Int) := by omega
                have e3 : IntKind.i64.wrap (2 * ((j : Int) + 1)) = (R : Int) := by rw [IntKind.wrap_i64]; omega
                have e4 : IntKind.u64.wrap (R : Int) = (R : Int) := by rw [show IntKind.u64.wrap (R : Int) = (R : Int) % 18446744073709551616 from rfl]; omega
                have hs := state_is w.heap.size l 4 exK (2 * (j + 1)) (stM i st' dt') wr HI.out
                rw [st_state st' dt' (j := j + 1) (by omega) (by omega), hR] at hs
                obtain ⟨G, hG⟩ : ∃ G, st' (j + 1) = G := ⟨_, rfl⟩
                obtain ⟨DD, hDD⟩ : ∃ DD, dt' (j + 1) = DD := ⟨_, rfl⟩
                rw [hG, hDD] at hs
                have HS : Calls Tryd.prog 17 #[.pointer (some ⟨l, 0, none⟩), .agg #[.int .i64 4, .string ⟨#[107]⟩], .int .u64 (R : Int)] wr (fun e w' => e = .returned (.tuple #[.int .i64 G, .string DD]) ∧ Below wr.heap.size wr w') := hs
                have hcs := next_cases false P st D dt (j + 1) (HST.out (j + 1))
                rw [HNX.out.1, HNX.out.2, hG, hDD] at hcs
                have HGG := Lib.hid hG
                have HCS := Lib.hid hcs
                clear hs hR hcs hG hDD
                go_wp2_with fail
                refine HS.mono ?_
                rintro e w8 ⟨rfl, hb⟩
                clear HS z0 z1
                have HK := Lib.hid (HK.out.trans (hb.mono HK.out.size))
                have HG := Lib.hid (And.intro (HG.out.1.below hb) (HG.out.2.later hb))
                have HQ := Lib.hid (HQ.out.later hb)
                have HT := Lib.hid (HT.out.later hb)
                have HQS := Lib.hid (HQS.out.later hb)
                have HI := Lib.hid (HI.out.later hb)
                clear hb
                have sv : w8.cell? ⟨SB, j + 1, none⟩ = some (.int .i64 (svS (st (j + 1)))) := by rw [HQS.out.cell (j + 1), svL_get _ (by omega), svF_at (by omega)]
                have sf : w8.frozen? ⟨SB, j + 1, none⟩ = false := HQS.out.frozen (j + 1)
                have y3 : w8.cell? ⟨TB, 3, none⟩ = some (.bool false) := HT.out.cell 3
                have y4 : w8.cell? ⟨TB, 4, none⟩ = some (.string D) := HT.out.cell 4
                rcases HCS.out with ⟨_, h2, _⟩ | ⟨_, h2, _⟩ | ⟨h1, _, h3, rfl, hdd⟩ | ⟨h1, _, h3, rfl⟩ | ⟨h1, rfl⟩ | ⟨h1, rfl⟩
                · cases h2
                · cases h2
                · rw [h1] at sv
                  have sv2 : w8.cell? ⟨SB, j + 1, none⟩ = some (.int .i64 0) := sv
                  have h4 : (j : Int) + 1 = (P : Int) := by omega
                  have h6 : (DD.toList == D.toList) = true := by rw [hdd]; exact beq_refl_list _
                  have h7 : (DD.toList != D.toList) = false := by rw [hdd]; simp
                  clear hdd
                  have sv3 : w8.cell? ⟨SB, P, none⟩ = some (.int .i64 0) := by rw [← h3]; exact sv2
                  have sf3 : w8.frozen? ⟨SB, P, none⟩ = false := HQS.out.frozen P
                  have k4 : (P : Int) < (i : Int) + 1 := by omega
                  have k5 : (0 : Int) ≤ (P : Int) := by omega
                  have k6 : IntKind.i64.wrap ((P : Int) + 1) = (P : Int) + 1 := by rw [IntKind.wrap_i64]; omega
                  clear sv2 sf
                  clear sv
                  have HSET := Lib.hid (svF_set (st := st) (st' := st') (n := i) (j := j + 1) (by omega) (by omega) (v := 3) (by rw [HGG.out]; rfl))
                  have HPJ := Lib.hid h3
                  have HH1 := Lib.hid h1
                  clear h1 h3
                  go_wp2_with fail
                  have hlw := low_set (w := w8) HSB.out P (.int .i64 3)
                  have HI2 := Lib.hid (HI.out.other HQS.out (by decide) (by decide) P (.int .i64 3))
                  have HG2 := Lib.hid (And.intro (HG.out.1.low hlw HLW.out.1) (HG.out.2.low hlw HLW.out.2))
                  have HQ2 := Lib.hid (HQ.out.kept (grown_set w8 SB P (.int .i64 3)) (fun e => Blk.ne HQ.out HQS.out (by decide) (Option.some.inj e)))
                  have HT2 := Lib.hid (HT.out.kept (grown_set w8 SB P (.int .i64 3)) (fun e => Blk.ne HT.out HQS.out (by decide) (Option.some.inj e)))
                  have hqs := HQS.out.set P (.int .i64 3)
                  rw [show (svL i (svF st st' (j + 1))).setIfInBounds P (.int .i64 3) = svL i (svF st st' (j + 1 + 1)) by rw [← HPJ.out]; exact HSET.out] at hqs
                  have HQS2 := Lib.hid hqs
                  have HK2 := Lib.hid (HK.out.trans (hlw.mono HLE.out))
                  clear hlw hqs
                  go_roundw
                  case rel => exact ⟨j + 1, by first | go_num | (congr 1; omega), by omega, HI2.out, HG2.out, HQ2.out, HT2.out, HQS2.out, HK2.out⟩
                  case measure => simp [intOf]; omega
                · rw [h1] at sv
                  have sv2 : w8.cell? ⟨SB, j + 1, none⟩ = some (.int .i64 0) := sv
                  have h4 : ((j : Int) + 1 == (P : Int)) = false := by rw [beq_eq_false_iff_ne]; omega
                  have h5 : ¬ (j : Int) + 1 = (P : Int) := by omega
                  clear sv
                  have HKEEP := Lib.hid (svF_keep (st := st) (st' := st') (n := i) (j := j + 1) (by omega) (by rw [HGG.out, h1]))
                  have HH1 := Lib.hid h1
                  clear h1 h3
                  go_wp2_with fail
                  go_roundw
                  case rel => exact ⟨j + 1, by go_num, by omega, HI.out, HG.out, HQ.out, HT.out, by rw [← HKEEP.out]; exact HQS.out, HK.out⟩
                  case measure => simp [intOf]; omega
                · rw [h1] at sv
                  have sv2 : w8.cell? ⟨SB, j + 1, none⟩ = some (.int .i64 2) := sv
                  clear sv
                  have HSET := Lib.hid (svF_set (st := st) (st' := st') (n := i) (j := j + 1) (by omega) (by omega) (v := 2) (by rw [HGG.out]; rfl))
                  have HH1 := Lib.hid h1
                  clear h1
                  go_wp2_with fail
                  have hlw := low_set (w := w8) HSB.out (j + 1) (.int .i64 2)
                  have HI2 := Lib.hid (HI.out.other HQS.out (by decide) (by decide) (j + 1) (.int .i64 2))
                  have HG2 := Lib.hid (And.intro (HG.out.1.low hlw HLW.out.1) (HG.out.2.low hlw HLW.out.2))
                  have HQ2 := Lib.hid (HQ.out.kept (grown_set w8 SB (j + 1) (.int .i64 2)) (fun e => Blk.ne HQ.out HQS.out (by decide) (Option.some.inj e)))
                  have HT2 := Lib.hid (HT.out.kept (grown_set w8 SB (j + 1) (.int .i64 2)) (fun e => Blk.ne HT.out HQS.out (by decide) (Option.some.inj e)))
                  have hqs := HQS.out.set (j + 1) (.int .i64 2)
                  rw [HSET.out] at hqs
                  have HQS2 := Lib.hid hqs
                  have HK2 := Lib.hid (HK.out.trans (hlw.mono HLE.out))
                  clear hlw hqs
                  go_roundw
                  case rel => exact ⟨j + 1, by go_num, by omega, HI2.out, HG2.out, HQ2.out, HT2.out, HQS2.out, HK2.out⟩
                  case measure => simp [intOf]; omega
                · rw [h1] at sv
                  have sv2 : w8.cell? ⟨SB, j + 1, none⟩ = some (.int .i64 3) := sv
                  clear sv
                  have HSET := Lib.hid (svF_set (st := st) (st' := st') (n := i) (j := j + 1) (by omega) (by omega) (v := 3) (by rw [HGG.out]; rfl))
                  have HH1 := Lib.hid h1
                  clear h1
                  go_wp2_with fail
                  have hlw := low_set (w := w8) HSB.out (j + 1) (.int .i64 3)
                  have HI2 := Lib.hid (HI.out.other HQS.out (by decide) (by decide) (j + 1) (.int .i64 3))
                  have HG2 := Lib.hid (And.intro (HG.out.1.low hlw HLW.out.1) (HG.out.2.low hlw HLW.out.2))
                  have HQ2 := Lib.hid (HQ.out.kept (grown_set w8 SB (j + 1) (.int .i64 3)) (fun e => Blk.ne HQ.out HQS.out (by decide) (Option.some.inj e)))
                  have HT2 := Lib.hid (HT.out.kept (grown_set w8 SB (j + 1) (.int .i64 3)) (fun e => Blk.ne HT.out HQS.out (by decide) (Option.some.inj e)))
                  have hqs := HQS.out.set (j + 1) (.int .i64 3)
                  rw [HSET.out] at hqs
                  have HQS2 := Lib.hid hqs
                  have HK2 := Lib.hid (HK.out.trans (hlw.mono HLE.out))
                  clear hlw hqs
                  go_roundw
                  case rel => exact ⟨j + 1, by go_num, by omega, HI2.out, HG2.out, HQ2.out, HT2.out, HQS2.out, HK2.out⟩
                  case measure => simp [intOf]; omega
              · obtain rfl : j = i := by omega
                have e1 : ¬ (j : Int) + 1 ≤ (j : Int) := by omega
                have HQ9 := Lib.hid (show Blk wr SB (svL j (svF st' st' 0)) 3 by rw [← svF_all (st := st)]; exact HQS.out)
                have HST' := Lib.hid (show (∀ j, st' j = 1 ∨ st' j = 2 ∨ st' j = 3) ∧ (∀ j, (dt' j).size ≤ 20) by
                  rw [← HNX.out.1, ← HNX.out.2]
                  exact ⟨fun j => nextS_vals false P st HST.out j, fun j => nextD_size false P D st dt HDZ.out HDT.out j⟩)
                clear z0 z1 hlt3
                go_wp2_with fail
                go_roundw
                case rel => exact ⟨k + 1, st', dt', by go_num, by omega, by omega, HST'.out.1, HST'.out.2, HI.out, HG.out, HQ.out, HQ9.out, HK.out⟩
                case measure => simp [intOf]; omega
        · have HLT := Lib.hid hlt
          have hgo : (¬ (k : Int) < (LL : Int)) ∨ ((k : Int) < (LL : Int) ∧ ¬ (k : Int) < 20) := by
            by_cases h : k < LL
            · exact .inr ⟨by omega, fun h2 => HLT.out ⟨h, by omega⟩⟩
            · exact .inl (by omega)
          clear hlt
          rcases hgo with hg1 | ⟨hg1, hg2⟩
          all_goals
            go_wp2_with fail
            go_ret
            exact ⟨rfl, HK.out⟩
theorem stays_walk' (a : Option Addr) (l0 c : Nat) (ds : List Dd) (n0 : Nat) (g b : Addr) (W : World) (hg : Gv g W) (hn : Gn b W) (hl : ds.length = l0) (hlen : l0 ≤ maxLen) (hin : DdsIn W a ds) (hds : ∀ p ∈ ds, p.kd < 256 ∧ p.nm < 256 ∧ p.q < 2 ^ 64 ∧ p.s.size ≤ maxLen ∧ p.x.size ≤ maxLen ∧ -9223372036854775808 ≤ p.t ∧ p.t ≤ 9223372036854775807) (h0 : n0 < 256) :
    Calls Tryd.prog 4 #[.int .u8 (n0 : Int), .slice a l0 c] W fun e w' => e = .returned (.bool true) ∧ Below W.heap.size W w' := by
  subst hl
  exact stays_walk a c ds n0 g b W hg hn hin hds hlen h0
end Go.Proofs.YtjcfbpbmieepiaaDoor
