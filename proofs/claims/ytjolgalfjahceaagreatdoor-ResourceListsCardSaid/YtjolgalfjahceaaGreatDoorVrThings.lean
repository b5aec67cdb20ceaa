/- resource's law: thing as a function; things: a list of them. -/
import Derived.Test.YtjolgalfjahceaaGreatDoorVrList
import Derived.Test.YtjolgalfjahceaaGreatDoorVrFields
namespace Go.Proofs.YtjolgalfjahceaaGreatDoor
open Go.RowKit

/-- The version that a Thing makes. -/
def tgV (k : Tg) : Vr :=
  if k.own then ⟨1 + (((IntKind.u64.wrap k.t) % 5).toNat : Int), wd (k.n % 6), 1 + k.q % 20, k.g && ((k.n : Int) % 4 == 0), if (k.g && ((k.n : Int) % 4 == 0)) then ⟨#[]⟩ else k.s.extract 0 (min k.s.size 200)⟩
  else ⟨k.t, k.x, k.q, k.g, k.s⟩

set_option maxRecDepth 100000 in
theorem thing_raw (t : Int) (x : ByteArray) (q : Nat) (g : Bool) (s : ByteArray) (n : Nat) (w : World) :
    Calls Tryz.prog 6 #[.agg #[.int .i64 t, .string x, .int .u64 (q : Int), .bool g, .string s, .bool false, .int .u8 (n : Int)]] w fun e w' => e = .returned (.agg #[.int .i64 t, .string x, .int .u64 (q : Int), .bool g, .string s]) ∧ Below w.heap.size w w' := by
  go_enter Tryz.func6, Tryz.ntmps6
  go_wp2_with fail
  exact bodyPost_ret (v := .agg #[.int .i64 t, .string x, .int .u64 (q : Int), .bool g, .string s]) (by simp [results, Tryz.results6, go_sem]) rfl ⟨rfl, ((Below.refl _ _).alloc (Nat.le_refl _) _).alloc (by simp) _⟩

theorem thing_tg (k : Tg) (w : World) (hs : k.s.size ≤ 9223372036854775807) :
    Calls Tryz.prog 6 #[k.v] w fun e w' => e = .returned (tgV k).v ∧ Below w.heap.size w w' := by
  obtain ⟨t, x, q, g, s, own, n⟩ := k
  have h0 : 0 ≤ IntKind.u64.wrap t := by
    simp only [IntKind.wrap, IntKind.signed, IntKind.bits]
    exact Int.emod_nonneg _ (by decide)
  cases own with
  | false => exact thing_raw t x q g s n w
  | true =>
    have hT : (IntKind.u64.wrap t) % 5 = (((IntKind.u64.wrap t) % 5).toNat : Int) := by omega
    cases g with
    | false => exact thing_gf t x q s n _ _ w hT rfl hs _ rfl
    | true => exact thing_gt t x q s n _ _ w hT rfl hs _ rfl _ rfl
theorem tgV_q (k : Tg) (h : k.q < 2 ^ 64) : (tgV k).q < 2 ^ 64 := by
  unfold tgV
  split
  · show 1 + k.q % 20 < 2 ^ 64; omega
  · exact h

theorem Tryz.infoRs : (Tryz.prog.info? 27).map (fun i => (i.zero, i.size, i.bytes)) = some (some (.agg #[.int .i64 0, .string ⟨#[]⟩, .int .u64 0, .bool false, .string ⟨#[]⟩]), 5, 56) := by kernel_rfl

set_option maxRecDepth 100000 in
set_option maxHeartbeats 2000000 in
theorem things_any (a : Option Addr) (c : Nat) (ms : List Tg) (w : World) (h : TgsIn w a ms) (hlen : ms.length ≤ 9223372036854775807) (hsz : ∀ k ∈ ms, k.s.size ≤ 9223372036854775807) :
    Calls Tryz.prog 5 #[.slice a ms.length c, .int .i64 10] w (VrsPost ((ms.take 10).map tgV) w) := by
  obtain ⟨n, hn⟩ : ∃ n, ms.length = n := ⟨_, rfl⟩
  have HN := Lib.hid hn
  rw [hn] at hlen ⊢
  have HR := Lib.hid h
  have HS := Lib.hid hsz
  clear hn h hsz
  obtain ⟨i0, hi, hz0, hz1, hz2⟩ := info_parts Tryz.infoRs
  go_enter Tryz.func5, Tryz.ntmps5
  go_wp2_with fail
  go_loopw [5, 6] (fun v i wr => ∃ k : Nat, k ≤ n ∧ k ≤ 10 ∧ i = .int .i64 (k : Int) ∧ wr.ownsRow w.heap.size 27 5 v k (vrCells ((ms.take k).map tgV)) ∧ Below w.heap.size w wr) (fun _ i _ => 10 - (intOf i).toNat)
  case atStart => exact ⟨0, Nat.zero_le _, Nat.zero_le _, rfl, World.ownsRow_nil _ _ _ _, Below.refl _ _⟩
  case round =>
    obtain ⟨k, hk, hk10, rfl, hrow, hb⟩ := hrel
    by_cases hlt : k < n
    · by_cases hlt10 : k < 10
      · have b1 : (k : Int) < (n : Int) := by omega
        have b2 : (k : Int) < 10 := by omega
        have b0 : (0 : Int) ≤ (k : Int) := by omega
        obtain ⟨m, hx⟩ : ∃ m, ms[k]? = some m := ⟨_, List.getElem?_eq_getElem (by have := HN.out; omega)⟩
        obtain ⟨g, off, rfl, hgl, q0, q1, q2, q3, q4, q5, q6⟩ := HR.out k m hx
        have p0 := (hb.cell (p := ⟨g, _, none⟩) hgl).trans q0
        have p1 := (hb.cell (p := ⟨g, _, none⟩) hgl).trans q1
        have p2 := (hb.cell (p := ⟨g, _, none⟩) hgl).trans q2
        have p3 := (hb.cell (p := ⟨g, _, none⟩) hgl).trans q3
        have p4 := (hb.cell (p := ⟨g, _, none⟩) hgl).trans q4
        have p5 := (hb.cell (p := ⟨g, _, none⟩) hgl).trans q5
        have p6 := (hb.cell (p := ⟨g, _, none⟩) hgl).trans q6
        clear q0 q1 q2 q3 q4 q5 q6
        have HT := Lib.hid (fun W => thing_tg m W (HS.out m (List.mem_of_getElem? hx)))
        have HNew := Lib.hid (show (ms.take (k + 1)).map tgV = (ms.take k).map tgV ++ [tgV m] by rw [List.take_add_one, hx]; simp)
        have HB := Lib.hid hb
        have HRow := Lib.hid hrow
        clear hx hb hrow
        go_wp2_with fail
        refine (HT.out _).mono ?_
        rintro e w2 ⟨rfl, hb2⟩
        have HRow2 := Lib.hid (ownsRow_later HRow.out hb2)
        have HB2 := Lib.hid (HB.out.trans (hb2.mono HB.out.size))
        clear hb2
        go_wp2_with (at_builtin; go_must (refine wpList_append_own _ rfl _ _ 31 rfl w.heap.size 27 i0 _ 5 56 Tryz.underlying31 hi hz0 hz1 hz2 rfl (by omega) _ _ _ rfl (HRow2.out.alloc _) ⟨w2.heap.size, 0, none⟩ 1 1 (vrCells [tgV m]) rfl rfl (World.news_of_block (cs := #[.int .i64 (tgV m).t, .string (tgV m).x, .int .u64 ((tgV m).q : Int), .bool (tgV m).g, .string (tgV m).s]) (t := 27) (fr := (0, 0)) (heap_alloc_new w2 _)) (by simp [Value.oneCell', vrCells]) (by unfold maxLen; omega) (by omega) (by have := HB2.out.size; simp; omega) ?_; intro v' w3 hown3 hgrow3 _))
        have HRow3 := Lib.hid (show w3.ownsRow w.heap.size 27 5 v' (k + 1) (vrCells ((ms.take (k + 1)).map tgV)) by rw [HNew.out, vrCells_append]; exact hown3)
        have HB3 := Lib.hid ((HB2.out.alloc HB2.out.size _).grown hgrow3 (by have := HB2.out.size; simp; omega) (fun j hj => (HRow2.out.lt j hj).1))
        clear hown3 hgrow3
        go_wp2_with fail
        go_roundw
        case rel => exact ⟨k + 1, by omega, by omega, by go_num, HRow3.out, HB3.out⟩
        case measure => simp [intOf]; omega
      · obtain rfl : k = 10 := by omega
        have HE := Lib.hid (show (ms.take 10).length = 10 by rw [List.length_take]; have := HN.out; omega)
        have HRow := Lib.hid hrow
        have HB := Lib.hid hb
        have b1 : ((10 : Nat) : Int) < (n : Int) := by omega
        clear hrow hb
        go_wp2_with fail
        go_ret
        refine ⟨_, rfl, ?_, HB.out⟩
        rw [List.length_map, HE.out]; exact HRow.out
    · obtain rfl : k = n := by omega
      have HE := Lib.hid (show ms.take 10 = ms.take k by rw [List.take_of_length_le (by have := HN.out; omega), List.take_of_length_le (by have := HN.out; omega)])
      have HRow := Lib.hid hrow
      have HB := Lib.hid hb
      clear hrow hb
      go_wp2_with fail
      go_ret
      refine ⟨_, rfl, ?_, HB.out⟩
      rw [HE.out, List.length_map, List.length_take, HN.out, Nat.min_self]; exact HRow.out
end Go.Proofs.YtjolgalfjahceaaGreatDoor
