/- payload: word and made (right ones): the walks. -/
import Derived.Test.YtngceccpebdgmaaGreatDoorPlPutC
import Derived.Test.YtngceccpebdgmaaGreatDoorPlListTake
import Derived.RegionTactic
namespace Go.Proofs.YtngceccpebdgmaaGreatDoor
open Go.RowKit Go.Shelf

def wordOf (n : Nat) : ByteArray := match n % 6 with
  | 0 => ⟨#[97]⟩
  | 1 => ⟨#[98]⟩
  | 2 => ⟨#[99, 47, 100]⟩
  | 3 => ⟨#[101, 46, 102]⟩
  | 4 => ⟨#[103, 45, 49]⟩
  | _ => ⟨#[122, 122]⟩
/-- One of the law's words. -/
def IsW (W : ByteArray) : Prop := ∃ x, W = wordOf x
theorem wordOf_size (n : Nat) : 1 ≤ (wordOf n).size ∧ (wordOf n).size ≤ 3 := by
  unfold wordOf; split <;> decide
set_option maxRecDepth 100000 in
theorem word_any (n : Nat) (w : World) (hn : n < 256) : Calls Tryz.prog 25 #[.int .u8 (n : Int)] w fun e w' => e = .returned (.string (wordOf n)) ∧ Below w.heap.size w w' := by
  have hc : n % 6 = 0 ∨ n % 6 = 1 ∨ n % 6 = 2 ∨ n % 6 = 3 ∨ n % 6 = 4 ∨ n % 6 = 5 := by omega
  rcases hc with h | h | h | h | h | h
  · have hm : (n : Int) % 6 = 0 := by omega
    have HW := Lib.hid (show wordOf n = wordOf 0 by unfold wordOf; rw [h])
    clear h
    go_enter Tryz.func25, Tryz.ntmps25
    go_wp2
    go_ret
    exact ⟨by rw [HW.out]; rfl, below_f w _⟩
  · have hm : (n : Int) % 6 = 1 := by omega
    have HW := Lib.hid (show wordOf n = wordOf 1 by unfold wordOf; rw [h])
    clear h
    go_enter Tryz.func25, Tryz.ntmps25
    go_wp2
    go_ret
    exact ⟨by rw [HW.out]; rfl, below_f w _⟩
  · have hm : (n : Int) % 6 = 2 := by omega
    have HW := Lib.hid (show wordOf n = wordOf 2 by unfold wordOf; rw [h])
    clear h
    go_enter Tryz.func25, Tryz.ntmps25
    go_wp2
    go_ret
    exact ⟨by rw [HW.out]; rfl, below_f w _⟩
  · have hm : (n : Int) % 6 = 3 := by omega
    have HW := Lib.hid (show wordOf n = wordOf 3 by unfold wordOf; rw [h])
    clear h
    go_enter Tryz.func25, Tryz.ntmps25
    go_wp2
    go_ret
    exact ⟨by rw [HW.out]; rfl, below_f w _⟩
  · have hm : (n : Int) % 6 = 4 := by omega
    have HW := Lib.hid (show wordOf n = wordOf 4 by unfold wordOf; rw [h])
    clear h
    go_enter Tryz.func25, Tryz.ntmps25
    go_wp2
    go_ret
    exact ⟨by rw [HW.out]; rfl, below_f w _⟩
  · have hm : (n : Int) % 6 = 5 := by omega
    have HW := Lib.hid (show wordOf n = wordOf 5 by unfold wordOf; rw [h])
    clear h
    go_enter Tryz.func25, Tryz.ntmps25
    go_wp2
    go_ret
    exact ⟨by rw [HW.out]; rfl, below_f w _⟩

/-- What a right payload of a type has. -/
structure OwnOk (k : Int) (p : Pl) : Prop where
  name : 1 ≤ p.name.size ∧ p.name.size ≤ 3
  port : if k = 1 then 1 ≤ p.port ∧ p.port ≤ 65535 else p.port = 0
  route : if k = 1 then 1 ≤ p.route.size ∧ p.route.size ≤ 3 else p.route.size = 0
  rules : if k = 2 then 1 ≤ p.rules.length ∧ p.rules.length ≤ 3 else p.rules = []
  rule : ∀ r ∈ p.rules, r.pre.size = 2 ∧ 1 ≤ r.clu.size ∧ r.clu.size ≤ 3
  policy : if k = 3 then p.policy ≤ 2 else p.policy = 0
  secret : if k = 3 then p.secret.size ≤ 3 else p.secret.size = 0
  addrs : if k = 4 then p.addrs.length ≤ 3 else p.addrs = []
  addr : ∀ a ∈ p.addrs, 1 ≤ a.host.size ∧ a.host.size ≤ 3 ∧ 1 ≤ a.port ∧ a.port ≤ 3 ∧ a.wt < 1000
  key : if k = 5 then 16 ≤ p.key.size ∧ p.key.size ≤ 19 else p.key.size = 0
  kind : 1 ≤ k ∧ k ≤ 5
  nameW : IsW p.name
  routeW : k = 1 → IsW p.route
  ruleW : ∀ i r, p.rules[i]? = some r → r.pre = (⟨#[47]⟩ : ByteArray) ++ ⟨#[UInt8.ofNat (97 + i)]⟩ ∧ IsW r.clu
  secretW : p.secret.size = 0 ∨ IsW p.secret
  addrW : ∀ i a, p.addrs[i]? = some a → a.port = i + 1 ∧ IsW a.host
def MadePost (k : Int) (w : World) (e : Ending) (w' : World) : Prop := ∃ p a3 c3 a6 c6, e = .returned (.tuple #[.int .i64 k, plV p a3 c3 a6 c6]) ∧ OwnOk k p ∧ RulesAt w' a3 p.rules ∧ AddrsAt w' a6 p.addrs ∧ Below w.heap.size w w'
theorem two_at (w : World) (a b : Obj) : ((w.alloc a).alloc b).heap[w.heap.size]? = some a ∧ ((w.alloc a).alloc b).heap[w.heap.size + 1]? = some b := by
  have h1 := World.alloc_heap_new w a
  have h2 := World.alloc_heap_new (w.alloc a) b
  rw [World.size_alloc] at h2
  exact ⟨by rw [Below.heap_alloc _ _ _ (by rw [World.size_alloc]; omega)]; exact h1, h2⟩
theorem below_set8 {B g : Nat} {a w : World} {u0 u1 u2 u3 u4 u5 u6 u7 : Value} (h : Below B a w) (hB : B ≤ g) : Below B a (((((((((w).setCell ⟨g, 0, none⟩ u0).setCell ⟨g, 1, none⟩ u1).setCell ⟨g, 2, none⟩ u2).setCell ⟨g, 3, none⟩ u3).setCell ⟨g, 4, none⟩ u4).setCell ⟨g, 5, none⟩ u5).setCell ⟨g, 6, none⟩ u6).setCell ⟨g, 7, none⟩ u7) :=
  (((((((h.setCell (p := ⟨g, 0, none⟩) hB u0).setCell (p := ⟨g, 1, none⟩) hB u1).setCell (p := ⟨g, 2, none⟩) hB u2).setCell (p := ⟨g, 3, none⟩) hB u3).setCell (p := ⟨g, 4, none⟩) hB u4).setCell (p := ⟨g, 5, none⟩) hB u5).setCell (p := ⟨g, 6, none⟩) hB u6).setCell (p := ⟨g, 7, none⟩) hB u7
theorem no_rules (w : World) (a : Option Addr) : RulesAt w a [] := fun i r h => by simp at h
theorem no_addrs (w : World) (a : Option Addr) : AddrsAt w a [] := fun i r h => by simp at h

set_option maxRecDepth 100000 in
set_option maxHeartbeats 4000000 in
theorem made_0 (s0 s2 s5 s7 : ByteArray) (n1 n4 nn mm : Nat) (a3 a6 : Option Addr) (l3 c3 l6 c6 : Nat) (kd : Int) (w : World) (hnn : nn < 256) (hmm : mm < 256) (_hn1 : n1 < 2 ^ 64) (_hn4 : n4 < 2 ^ 64) (_hs7 : s7.size ≤ 140737488355328) (hr : (IntKind.u64.wrap kd).tmod 5 = 0) :
    Calls Tryz.prog 19 #[.agg #[.string s0, .int .u64 (n1 : Int), .string s2, .slice a3 l3 c3, .int .u64 (n4 : Int), .string s5, .slice a6 l6 c6, .string s7, .int .i64 kd, .bool true, .int .u8 (nn : Int), .int .u8 (mm : Int)]] w (MadePost 1 w) := by
  obtain ⟨k0, k1⟩ := two_at w (.cells #[.string s0, .int .u64 (n1 : Int), .string s2, .slice a3 l3 c3, .int .u64 (n4 : Int), .string s5, .slice a6 l6 c6, .string s7, .int .i64 kd, .bool true, .int .u8 (nn : Int), .int .u8 (mm : Int)] 38) (.cells #[.string ⟨#[]⟩, .int .u64 0, .string ⟨#[]⟩, .slice none 0 0, .int .u64 0, .string ⟨#[]⟩, .slice none 0 0, .string ⟨#[]⟩] 36)
  have HK0 := Lib.hid k0
  have HK1 := Lib.hid k1
  have HUP := Lib.hid (below_up (below_f w (.cells #[.string s0, .int .u64 (n1 : Int), .string s2, .slice a3 l3 c3, .int .u64 (n4 : Int), .string s5, .slice a6 l6 c6, .string s7, .int .i64 kd, .bool true, .int .u8 (nn : Int), .int .u8 (mm : Int)] 38)) (.cells #[.string ⟨#[]⟩, .int .u64 0, .string ⟨#[]⟩, .slice none 0 0, .int .u64 0, .string ⟨#[]⟩, .slice none 0 0, .string ⟨#[]⟩] 36))
  have HNN := Lib.hid hnn
  clear k0 k1
  go_enter Tryz.func19, Tryz.ntmps19
  go_wp2_with fail
  refine (word_any nn _ HNN.out).mono ?_
  rintro e w2 ⟨rfl, hb2⟩
  have m0 := (hb2.block w.heap.size (by rw [World.size_alloc, World.size_alloc]; omega)).trans HK0.out
  have m1 := (hb2.block (w.heap.size + 1) (by rw [World.size_alloc, World.size_alloc]; omega)).trans HK1.out
  have hz2 : w.heap.size + 1 < w2.heap.size := by have := hb2.size; rw [World.size_alloc, World.size_alloc] at this; omega
  have HB2 := Lib.hid (HUP.out.trans (hb2.mono (by rw [World.size_alloc, World.size_alloc]; omega)))
  have g1 : w2.cell? ⟨w.heap.size, 1, none⟩ = some (.int .u64 (n1 : Int)) := (Lib.cell_of_heap m0 1).trans rfl
  have g4 : w2.cell? ⟨w.heap.size, 4, none⟩ = some (.int .u64 (n4 : Int)) := (Lib.cell_of_heap m0 4).trans rfl
  have g7 : w2.cell? ⟨w.heap.size, 7, none⟩ = some (.string s7) := (Lib.cell_of_heap m0 7).trans rfl
  have g11 : w2.cell? ⟨w.heap.size, 11, none⟩ = some (.int .u8 (mm : Int)) := (Lib.cell_of_heap m0 11).trans rfl
  have HM1 := Lib.hid m1
  have hlt0 : w.heap.size < w2.heap.size := by omega
  have hne0 : w.heap.size ≠ w2.heap.size := by omega
  obtain ⟨W0, hW0⟩ : ∃ W0, wordOf nn = W0 := ⟨_, rfl⟩
  have HW0 := Lib.hid (show (1 ≤ W0.size ∧ W0.size ≤ 3) ∧ IsW W0 from ⟨by rw [← hW0]; exact wordOf_size nn, _, hW0.symm⟩)
  rw [hW0]
  clear hb2 m0 m1 hW0
  have HP := Lib.hid (World.alloc_heap_new w2 (.cells #[.string W0, .int .u64 (1 + (n1 : Int) % 65535), .string ⟨#[]⟩, .slice none 0 0, .int .u64 0, .string ⟨#[]⟩, .slice none 0 0, .string ⟨#[]⟩] 36))
  have HB2p := Lib.hid (below_up HB2.out (.cells #[.string W0, .int .u64 (1 + (n1 : Int) % 65535), .string ⟨#[]⟩, .slice none 0 0, .int .u64 0, .string ⟨#[]⟩, .slice none 0 0, .string ⟨#[]⟩] 36))
  have hq := HB2.out.size
  go_wp2_with fail
  refine (word_any mm _ hmm).mono ?_
  rintro e w3 ⟨rfl, hb3⟩
  have hz3 : w2.heap.size < w3.heap.size := by have := hb3.size; rw [World.size_alloc] at this; omega
  have pb := (hb3.block w2.heap.size (by rw [World.size_alloc]; omega)).trans HP.out
  have rb := (hb3.block (w.heap.size + 1) (by rw [World.size_alloc]; omega)).trans ((Below.heap_alloc w2 (.cells #[.string W0, .int .u64 (1 + (n1 : Int) % 65535), .string ⟨#[]⟩, .slice none 0 0, .int .u64 0, .string ⟨#[]⟩, .slice none 0 0, .string ⟨#[]⟩] 36) _ (by omega)).trans HM1.out)
  have t0 : w3.cell? ⟨w2.heap.size, 0, none⟩ = some (.string W0) := (Lib.cell_of_heap pb 0).trans rfl
  have tf0 := Lib.frozen_of_heap pb 0
  have t1 : w3.cell? ⟨w2.heap.size, 1, none⟩ = some (.int .u64 (1 + (n1 : Int) % 65535)) := (Lib.cell_of_heap pb 1).trans rfl
  have tf1 := Lib.frozen_of_heap pb 1
  have t2 : w3.cell? ⟨w2.heap.size, 2, none⟩ = some (.string ⟨#[]⟩) := (Lib.cell_of_heap pb 2).trans rfl
  have tf2 := Lib.frozen_of_heap pb 2
  have t3 : w3.cell? ⟨w2.heap.size, 3, none⟩ = some (.slice none 0 0) := (Lib.cell_of_heap pb 3).trans rfl
  have tf3 := Lib.frozen_of_heap pb 3
  have t4 : w3.cell? ⟨w2.heap.size, 4, none⟩ = some (.int .u64 0) := (Lib.cell_of_heap pb 4).trans rfl
  have tf4 := Lib.frozen_of_heap pb 4
  have t5 : w3.cell? ⟨w2.heap.size, 5, none⟩ = some (.string ⟨#[]⟩) := (Lib.cell_of_heap pb 5).trans rfl
  have tf5 := Lib.frozen_of_heap pb 5
  have t6 : w3.cell? ⟨w2.heap.size, 6, none⟩ = some (.slice none 0 0) := (Lib.cell_of_heap pb 6).trans rfl
  have tf6 := Lib.frozen_of_heap pb 6
  have t7 : w3.cell? ⟨w2.heap.size, 7, none⟩ = some (.string ⟨#[]⟩) := (Lib.cell_of_heap pb 7).trans rfl
  have tf7 := Lib.frozen_of_heap pb 7
  have r0 : w3.cell? ⟨w.heap.size + 1, 0, none⟩ = some (.string ⟨#[]⟩) := (Lib.cell_of_heap rb 0).trans rfl
  have rf0 := Lib.frozen_of_heap rb 0
  have r1 : w3.cell? ⟨w.heap.size + 1, 1, none⟩ = some (.int .u64 0) := (Lib.cell_of_heap rb 1).trans rfl
  have rf1 := Lib.frozen_of_heap rb 1
  have r2 : w3.cell? ⟨w.heap.size + 1, 2, none⟩ = some (.string ⟨#[]⟩) := (Lib.cell_of_heap rb 2).trans rfl
  have rf2 := Lib.frozen_of_heap rb 2
  have r3 : w3.cell? ⟨w.heap.size + 1, 3, none⟩ = some (.slice none 0 0) := (Lib.cell_of_heap rb 3).trans rfl
  have rf3 := Lib.frozen_of_heap rb 3
  have r4 : w3.cell? ⟨w.heap.size + 1, 4, none⟩ = some (.int .u64 0) := (Lib.cell_of_heap rb 4).trans rfl
  have rf4 := Lib.frozen_of_heap rb 4
  have r5 : w3.cell? ⟨w.heap.size + 1, 5, none⟩ = some (.string ⟨#[]⟩) := (Lib.cell_of_heap rb 5).trans rfl
  have rf5 := Lib.frozen_of_heap rb 5
  have r6 : w3.cell? ⟨w.heap.size + 1, 6, none⟩ = some (.slice none 0 0) := (Lib.cell_of_heap rb 6).trans rfl
  have rf6 := Lib.frozen_of_heap rb 6
  have r7 : w3.cell? ⟨w.heap.size + 1, 7, none⟩ = some (.string ⟨#[]⟩) := (Lib.cell_of_heap rb 7).trans rfl
  have rf7 := Lib.frozen_of_heap rb 7
  have HB3 := Lib.hid (HB2p.out.trans (hb3.mono (by rw [World.size_alloc]; omega)))
  obtain ⟨W1, hW1⟩ : ∃ W1, wordOf mm = W1 := ⟨_, rfl⟩
  have HW1 := Lib.hid (show (1 ≤ W1.size ∧ W1.size ≤ 3) ∧ IsW W1 from ⟨by rw [← hW1]; exact wordOf_size mm, _, hW1.symm⟩)
  rw [hW1]
  have hlt3 : w.heap.size + 1 < w3.heap.size := by omega
  have hne1 : w.heap.size + 1 ≠ w2.heap.size := by omega
  clear hb3 pb rb hW1 g1 g4 g7 g11
  go_wp2_with fail
  go_region
  all_goals
    go_wp2
    refine bodyPost_ret (v := .tuple #[.int .i64 1, .agg #[.string W0, .int .u64 (1 + (n1 : Int) % 65535), .string W1, .slice none 0 0, .int .u64 0, .string ⟨#[]⟩, .slice none 0 0, .string ⟨#[]⟩]]) (by simp [results, Tryz.results19, go_sem, r0, r1, r2, r3, r4, r5, r6, r7]) rfl ?_
    exact ⟨⟨W0, 1 + n1 % 65535, W1, [], 0, ⟨#[]⟩, [], ⟨#[]⟩⟩, none, 0, none, 0, rfl, ⟨HW0.out.1, by rw [if_pos rfl]; exact ⟨by show 1 ≤ 1 + n1 % 65535; omega, by show 1 + n1 % 65535 ≤ 65535; omega⟩, by rw [if_pos rfl]; exact HW1.out.1, by first | (rw [if_neg (by decide)]; rfl) | rw [if_neg (by decide)], by intro r h; simp at h, by first | (rw [if_neg (by decide)]; rfl) | rw [if_neg (by decide)], by first | (rw [if_neg (by decide)]; rfl) | rw [if_neg (by decide)], by first | (rw [if_neg (by decide)]; rfl) | rw [if_neg (by decide)], by intro a h; simp at h, by first | (rw [if_neg (by decide)]; rfl) | rw [if_neg (by decide)], by decide, HW0.out.2, fun _ => HW1.out.2, by intro i r h; simp at h, Or.inl rfl, by intro i a h; simp at h⟩, no_rules _ _, no_addrs _ _, (below_set8 (HB3.out.setCell (p := ⟨w2.heap.size, 2, none⟩) (by show w.heap.size ≤ w2.heap.size; omega) _) (by omega)).drew⟩
theorem word_at (x : Int) (n : Nat) (w : World) (hx : x = n) (hn : n < 256) : Calls Tryz.prog 25 #[.int .u8 x] w fun e w' => e = .returned (.string (wordOf n)) ∧ Below w.heap.size w w' := by
  subst hx; exact word_any n w hn

set_option maxRecDepth 100000 in
set_option maxHeartbeats 4000000 in
theorem made_2 (s0 s2 s5 s7 : ByteArray) (n1 n4 nn mm : Nat) (a3 a6 : Option Addr) (l3 c3 l6 c6 : Nat) (kd : Int) (w : World) (hnn : nn < 256) (hmm : mm < 256) (_hn1 : n1 < 2 ^ 64) (_hn4 : n4 < 2 ^ 64) (_hs7 : s7.size ≤ 140737488355328) (hr : (IntKind.u64.wrap kd).tmod 5 = 2) :
    Calls Tryz.prog 19 #[.agg #[.string s0, .int .u64 (n1 : Int), .string s2, .slice a3 l3 c3, .int .u64 (n4 : Int), .string s5, .slice a6 l6 c6, .string s7, .int .i64 kd, .bool true, .int .u8 (nn : Int), .int .u8 (mm : Int)]] w (MadePost 3 w) := by
  obtain ⟨k0, k1⟩ := two_at w (.cells #[.string s0, .int .u64 (n1 : Int), .string s2, .slice a3 l3 c3, .int .u64 (n4 : Int), .string s5, .slice a6 l6 c6, .string s7, .int .i64 kd, .bool true, .int .u8 (nn : Int), .int .u8 (mm : Int)] 38) (.cells #[.string ⟨#[]⟩, .int .u64 0, .string ⟨#[]⟩, .slice none 0 0, .int .u64 0, .string ⟨#[]⟩, .slice none 0 0, .string ⟨#[]⟩] 36)
  have HK0 := Lib.hid k0
  have HK1 := Lib.hid k1
  have HUP := Lib.hid (below_up (below_f w (.cells #[.string s0, .int .u64 (n1 : Int), .string s2, .slice a3 l3 c3, .int .u64 (n4 : Int), .string s5, .slice a6 l6 c6, .string s7, .int .i64 kd, .bool true, .int .u8 (nn : Int), .int .u8 (mm : Int)] 38)) (.cells #[.string ⟨#[]⟩, .int .u64 0, .string ⟨#[]⟩, .slice none 0 0, .int .u64 0, .string ⟨#[]⟩, .slice none 0 0, .string ⟨#[]⟩] 36))
  have HNN := Lib.hid hnn
  clear k0 k1
  go_enter Tryz.func19, Tryz.ntmps19
  go_wp2_with fail
  refine (word_any nn _ HNN.out).mono ?_
  rintro e w2 ⟨rfl, hb2⟩
  have m0 := (hb2.block w.heap.size (by rw [World.size_alloc, World.size_alloc]; omega)).trans HK0.out
  have m1 := (hb2.block (w.heap.size + 1) (by rw [World.size_alloc, World.size_alloc]; omega)).trans HK1.out
  have hz2 : w.heap.size + 1 < w2.heap.size := by have := hb2.size; rw [World.size_alloc, World.size_alloc] at this; omega
  have HB2 := Lib.hid (HUP.out.trans (hb2.mono (by rw [World.size_alloc, World.size_alloc]; omega)))
  have g1 : w2.cell? ⟨w.heap.size, 1, none⟩ = some (.int .u64 (n1 : Int)) := (Lib.cell_of_heap m0 1).trans rfl
  have g4 : w2.cell? ⟨w.heap.size, 4, none⟩ = some (.int .u64 (n4 : Int)) := (Lib.cell_of_heap m0 4).trans rfl
  have g7 : w2.cell? ⟨w.heap.size, 7, none⟩ = some (.string s7) := (Lib.cell_of_heap m0 7).trans rfl
  have g11 : w2.cell? ⟨w.heap.size, 11, none⟩ = some (.int .u8 (mm : Int)) := (Lib.cell_of_heap m0 11).trans rfl
  have HM1 := Lib.hid m1
  have hlt0 : w.heap.size < w2.heap.size := by omega
  have hne0 : w.heap.size ≠ w2.heap.size := by omega
  obtain ⟨W0, hW0⟩ : ∃ W0, wordOf nn = W0 := ⟨_, rfl⟩
  have HW0 := Lib.hid (show (1 ≤ W0.size ∧ W0.size ≤ 3) ∧ IsW W0 from ⟨by rw [← hW0]; exact wordOf_size nn, _, hW0.symm⟩)
  rw [hW0]
  clear hb2 m0 m1 hW0
  have hm3 : (0 : Int) ≤ (mm : Int) % 3 := by omega
  have hm3' : (mm : Int) % 3 ≤ 2 := by omega
  have hq := HB2.out.size
  have hne1 : w.heap.size + 1 ≠ w2.heap.size := by omega
  by_cases hs : mm / 3 % 2 = 0
  · have hs1 : ((mm : Int) / 3 % 2 == 0) = true := by simp; omega
    clear hs
    have HP := Lib.hid (World.alloc_heap_new w2 (.cells #[.string W0, .int .u64 0, .string ⟨#[]⟩, .slice none 0 0, .int .u64 ((mm : Int) % 3), .string ⟨#[]⟩, .slice none 0 0, .string ⟨#[]⟩] 36))
    have HB2p := Lib.hid (below_up HB2.out (.cells #[.string W0, .int .u64 0, .string ⟨#[]⟩, .slice none 0 0, .int .u64 ((mm : Int) % 3), .string ⟨#[]⟩, .slice none 0 0, .string ⟨#[]⟩] 36))
    go_wp2_with fail
    refine (word_at _ (mm / 6) _ (by omega) (by omega)).mono ?_
    rintro e w3 ⟨rfl, hb3⟩
    have hz3 : w2.heap.size < w3.heap.size := by have := hb3.size; rw [World.size_alloc] at this; omega
    have pb := (hb3.block w2.heap.size (by rw [World.size_alloc]; omega)).trans HP.out
    have rb := (hb3.block (w.heap.size + 1) (by rw [World.size_alloc]; omega)).trans ((Below.heap_alloc w2 (.cells #[.string W0, .int .u64 0, .string ⟨#[]⟩, .slice none 0 0, .int .u64 ((mm : Int) % 3), .string ⟨#[]⟩, .slice none 0 0, .string ⟨#[]⟩] 36) _ (by omega)).trans HM1.out)
    have t0 : w3.cell? ⟨w2.heap.size, 0, none⟩ = some (.string W0) := (Lib.cell_of_heap pb 0).trans rfl
    have tf0 := Lib.frozen_of_heap pb 0
    have t1 : w3.cell? ⟨w2.heap.size, 1, none⟩ = some (.int .u64 0) := (Lib.cell_of_heap pb 1).trans rfl
    have tf1 := Lib.frozen_of_heap pb 1
    have t2 : w3.cell? ⟨w2.heap.size, 2, none⟩ = some (.string ⟨#[]⟩) := (Lib.cell_of_heap pb 2).trans rfl
    have tf2 := Lib.frozen_of_heap pb 2
    have t3 : w3.cell? ⟨w2.heap.size, 3, none⟩ = some (.slice none 0 0) := (Lib.cell_of_heap pb 3).trans rfl
    have tf3 := Lib.frozen_of_heap pb 3
    have t4 : w3.cell? ⟨w2.heap.size, 4, none⟩ = some (.int .u64 ((mm : Int) % 3)) := (Lib.cell_of_heap pb 4).trans rfl
    have tf4 := Lib.frozen_of_heap pb 4
    have t5 : w3.cell? ⟨w2.heap.size, 5, none⟩ = some (.string ⟨#[]⟩) := (Lib.cell_of_heap pb 5).trans rfl
    have tf5 := Lib.frozen_of_heap pb 5
    have t6 : w3.cell? ⟨w2.heap.size, 6, none⟩ = some (.slice none 0 0) := (Lib.cell_of_heap pb 6).trans rfl
    have tf6 := Lib.frozen_of_heap pb 6
    have t7 : w3.cell? ⟨w2.heap.size, 7, none⟩ = some (.string ⟨#[]⟩) := (Lib.cell_of_heap pb 7).trans rfl
    have tf7 := Lib.frozen_of_heap pb 7
    have r0 : w3.cell? ⟨w.heap.size + 1, 0, none⟩ = some (.string ⟨#[]⟩) := (Lib.cell_of_heap rb 0).trans rfl
    have rf0 := Lib.frozen_of_heap rb 0
    have r1 : w3.cell? ⟨w.heap.size + 1, 1, none⟩ = some (.int .u64 0) := (Lib.cell_of_heap rb 1).trans rfl
    have rf1 := Lib.frozen_of_heap rb 1
    have r2 : w3.cell? ⟨w.heap.size + 1, 2, none⟩ = some (.string ⟨#[]⟩) := (Lib.cell_of_heap rb 2).trans rfl
    have rf2 := Lib.frozen_of_heap rb 2
    have r3 : w3.cell? ⟨w.heap.size + 1, 3, none⟩ = some (.slice none 0 0) := (Lib.cell_of_heap rb 3).trans rfl
    have rf3 := Lib.frozen_of_heap rb 3
    have r4 : w3.cell? ⟨w.heap.size + 1, 4, none⟩ = some (.int .u64 0) := (Lib.cell_of_heap rb 4).trans rfl
    have rf4 := Lib.frozen_of_heap rb 4
    have r5 : w3.cell? ⟨w.heap.size + 1, 5, none⟩ = some (.string ⟨#[]⟩) := (Lib.cell_of_heap rb 5).trans rfl
    have rf5 := Lib.frozen_of_heap rb 5
    have r6 : w3.cell? ⟨w.heap.size + 1, 6, none⟩ = some (.slice none 0 0) := (Lib.cell_of_heap rb 6).trans rfl
    have rf6 := Lib.frozen_of_heap rb 6
    have r7 : w3.cell? ⟨w.heap.size + 1, 7, none⟩ = some (.string ⟨#[]⟩) := (Lib.cell_of_heap rb 7).trans rfl
    have rf7 := Lib.frozen_of_heap rb 7
    have HB3 := Lib.hid (HB2p.out.trans (hb3.mono (by rw [World.size_alloc]; omega)))
    obtain ⟨W1, hW1⟩ : ∃ W1, wordOf (mm / 6) = W1 := ⟨_, rfl⟩
    have HW1 := Lib.hid (show (1 ≤ W1.size ∧ W1.size ≤ 3) ∧ IsW W1 from ⟨by rw [← hW1]; exact wordOf_size (mm / 6), _, hW1.symm⟩)
    rw [hW1]
    have hlt3 : w.heap.size + 1 < w3.heap.size := by omega
    clear hb3 pb rb hW1 g1 g4 g7 g11
    go_wp2_with fail
    go_region
    all_goals
      go_wp2
      refine bodyPost_ret (v := .tuple #[.int .i64 3, .agg #[.string W0, .int .u64 0, .string ⟨#[]⟩, .slice none 0 0, .int .u64 ((mm : Int) % 3), .string W1, .slice none 0 0, .string ⟨#[]⟩]]) (by simp [results, Tryz.results19, go_sem, r0, r1, r2, r3, r4, r5, r6, r7]) rfl ?_
      exact ⟨⟨W0, 0, ⟨#[]⟩, [], mm % 3, W1, [], ⟨#[]⟩⟩, none, 0, none, 0, rfl, ⟨HW0.out.1, by first | (rw [if_neg (by decide)]; rfl) | rw [if_neg (by decide)], by first | (rw [if_neg (by decide)]; rfl) | rw [if_neg (by decide)], by first | (rw [if_neg (by decide)]; rfl) | rw [if_neg (by decide)], by intro r h; simp at h, by rw [if_pos rfl]; show mm % 3 ≤ 2; omega, by rw [if_pos rfl]; exact HW1.out.1.2, by first | (rw [if_neg (by decide)]; rfl) | rw [if_neg (by decide)], by intro a h; simp at h, by first | (rw [if_neg (by decide)]; rfl) | rw [if_neg (by decide)], by decide, HW0.out.2, fun h => absurd h (by decide), by intro i r h; simp at h, Or.inr HW1.out.2, by intro i a h; simp at h⟩, no_rules _ _, no_addrs _ _, (below_set8 (HB3.out.setCell (p := ⟨w2.heap.size, 5, none⟩) (by show w.heap.size ≤ w2.heap.size; omega) _) (by omega)).drew⟩
  · have hs1 : ((mm : Int) / 3 % 2 == 0) = false := by simp; omega
    clear hs
    have pb := World.alloc_heap_new w2 (.cells #[.string W0, .int .u64 0, .string ⟨#[]⟩, .slice none 0 0, .int .u64 ((mm : Int) % 3), .string ⟨#[]⟩, .slice none 0 0, .string ⟨#[]⟩] 36)
    have rb := (Below.heap_alloc w2 (.cells #[.string W0, .int .u64 0, .string ⟨#[]⟩, .slice none 0 0, .int .u64 ((mm : Int) % 3), .string ⟨#[]⟩, .slice none 0 0, .string ⟨#[]⟩] 36) (w.heap.size + 1) (by omega)).trans HM1.out
    have hbx := below_up HB2.out (.cells #[.string W0, .int .u64 0, .string ⟨#[]⟩, .slice none 0 0, .int .u64 ((mm : Int) % 3), .string ⟨#[]⟩, .slice none 0 0, .string ⟨#[]⟩] 36)
    have hsx := World.size_alloc w2 (.cells #[.string W0, .int .u64 0, .string ⟨#[]⟩, .slice none 0 0, .int .u64 ((mm : Int) % 3), .string ⟨#[]⟩, .slice none 0 0, .string ⟨#[]⟩] 36)
    go_wp2_with fail
    obtain ⟨w3, hw3⟩ : ∃ w3, w2.alloc (.cells #[.string W0, .int .u64 0, .string ⟨#[]⟩, .slice none 0 0, .int .u64 ((mm : Int) % 3), .string ⟨#[]⟩, .slice none 0 0, .string ⟨#[]⟩] 36) = w3 := ⟨_, rfl⟩
    rw [hw3]
    rw [hw3] at pb rb hbx hsx
    have HB2p := Lib.hid hbx
    have hlt3 : w.heap.size + 1 < w3.heap.size := by omega
    have t0 : w3.cell? ⟨w2.heap.size, 0, none⟩ = some (.string W0) := (Lib.cell_of_heap pb 0).trans rfl
    have tf0 := Lib.frozen_of_heap pb 0
    have t1 : w3.cell? ⟨w2.heap.size, 1, none⟩ = some (.int .u64 0) := (Lib.cell_of_heap pb 1).trans rfl
    have tf1 := Lib.frozen_of_heap pb 1
    have t2 : w3.cell? ⟨w2.heap.size, 2, none⟩ = some (.string ⟨#[]⟩) := (Lib.cell_of_heap pb 2).trans rfl
    have tf2 := Lib.frozen_of_heap pb 2
    have t3 : w3.cell? ⟨w2.heap.size, 3, none⟩ = some (.slice none 0 0) := (Lib.cell_of_heap pb 3).trans rfl
    have tf3 := Lib.frozen_of_heap pb 3
    have t4 : w3.cell? ⟨w2.heap.size, 4, none⟩ = some (.int .u64 ((mm : Int) % 3)) := (Lib.cell_of_heap pb 4).trans rfl
    have tf4 := Lib.frozen_of_heap pb 4
    have t5 : w3.cell? ⟨w2.heap.size, 5, none⟩ = some (.string ⟨#[]⟩) := (Lib.cell_of_heap pb 5).trans rfl
    have tf5 := Lib.frozen_of_heap pb 5
    have t6 : w3.cell? ⟨w2.heap.size, 6, none⟩ = some (.slice none 0 0) := (Lib.cell_of_heap pb 6).trans rfl
    have tf6 := Lib.frozen_of_heap pb 6
    have t7 : w3.cell? ⟨w2.heap.size, 7, none⟩ = some (.string ⟨#[]⟩) := (Lib.cell_of_heap pb 7).trans rfl
    have tf7 := Lib.frozen_of_heap pb 7
    have r0 : w3.cell? ⟨w.heap.size + 1, 0, none⟩ = some (.string ⟨#[]⟩) := (Lib.cell_of_heap rb 0).trans rfl
    have rf0 := Lib.frozen_of_heap rb 0
    have r1 : w3.cell? ⟨w.heap.size + 1, 1, none⟩ = some (.int .u64 0) := (Lib.cell_of_heap rb 1).trans rfl
    have rf1 := Lib.frozen_of_heap rb 1
    have r2 : w3.cell? ⟨w.heap.size + 1, 2, none⟩ = some (.string ⟨#[]⟩) := (Lib.cell_of_heap rb 2).trans rfl
    have rf2 := Lib.frozen_of_heap rb 2
    have r3 : w3.cell? ⟨w.heap.size + 1, 3, none⟩ = some (.slice none 0 0) := (Lib.cell_of_heap rb 3).trans rfl
    have rf3 := Lib.frozen_of_heap rb 3
    have r4 : w3.cell? ⟨w.heap.size + 1, 4, none⟩ = some (.int .u64 0) := (Lib.cell_of_heap rb 4).trans rfl
    have rf4 := Lib.frozen_of_heap rb 4
    have r5 : w3.cell? ⟨w.heap.size + 1, 5, none⟩ = some (.string ⟨#[]⟩) := (Lib.cell_of_heap rb 5).trans rfl
    have rf5 := Lib.frozen_of_heap rb 5
    have r6 : w3.cell? ⟨w.heap.size + 1, 6, none⟩ = some (.slice none 0 0) := (Lib.cell_of_heap rb 6).trans rfl
    have rf6 := Lib.frozen_of_heap rb 6
    have r7 : w3.cell? ⟨w.heap.size + 1, 7, none⟩ = some (.string ⟨#[]⟩) := (Lib.cell_of_heap rb 7).trans rfl
    have rf7 := Lib.frozen_of_heap rb 7
    clear hw3 pb rb hbx hsx g1 g4 g7 g11
    go_wp2_with fail
    go_region
    all_goals
      go_wp2
      refine bodyPost_ret (v := .tuple #[.int .i64 3, .agg #[.string W0, .int .u64 0, .string ⟨#[]⟩, .slice none 0 0, .int .u64 ((mm : Int) % 3), .string ⟨#[]⟩, .slice none 0 0, .string ⟨#[]⟩]]) (by simp [results, Tryz.results19, go_sem, r0, r1, r2, r3, r4, r5, r6, r7]) rfl ?_
      exact ⟨⟨W0, 0, ⟨#[]⟩, [], mm % 3, ⟨#[]⟩, [], ⟨#[]⟩⟩, none, 0, none, 0, rfl, ⟨HW0.out.1, by first | (rw [if_neg (by decide)]; rfl) | rw [if_neg (by decide)], by first | (rw [if_neg (by decide)]; rfl) | rw [if_neg (by decide)], by first | (rw [if_neg (by decide)]; rfl) | rw [if_neg (by decide)], by intro r h; simp at h, by rw [if_pos rfl]; show mm % 3 ≤ 2; omega, by rw [if_pos rfl]; exact Nat.zero_le _, by first | (rw [if_neg (by decide)]; rfl) | rw [if_neg (by decide)], by intro a h; simp at h, by first | (rw [if_neg (by decide)]; rfl) | rw [if_neg (by decide)], by decide, HW0.out.2, fun h => absurd h (by decide), by intro i r h; simp at h, Or.inl rfl, by intro i a h; simp at h⟩, no_rules _ _, no_addrs _ _, (below_set8 HB2p.out (by omega)).drew⟩
end Go.Proofs.YtngceccpebdgmaaGreatDoor
