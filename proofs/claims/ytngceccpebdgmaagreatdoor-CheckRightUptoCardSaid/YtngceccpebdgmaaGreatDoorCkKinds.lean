/- check: what is wrong first, of each kind: the walks. -/
import Derived.Test.YtngceccpebdgmaaGreatDoorCkAddr
namespace Go.Proofs.YtngceccpebdgmaaGreatDoor
open Go.RowKit Go.Shelf

theorem ck_rules {w : World} {base c : Nat} {a : Option Addr} {rs : List Rl} (h : w.ownsRow base 42 2 (.slice a rs.length c) rs.length (rlCells rs)) : RulesAt w a rs ∧ rs.length ≤ c := by
  have hh := h
  refine ⟨rulesAt_row h, ?_⟩
  rcases hh.2 with ⟨hv, hl⟩ | ⟨g, cap, cur, hv, _, _, hnc, _⟩
  · simp at hv; omega
  · simp at hv; omega
theorem ck_addrs {w : World} {base c : Nat} {a : Option Addr} {rs : List Ad} (h : w.ownsRow base 44 3 (.slice a rs.length c) rs.length (adCells rs)) : AddrsAt w a rs := addrsAt_row h
structure LkOne (W : World) (g f : Nat) (p : Pl) (a3 a6 : Option Addr) (c3 c6 : Nat) (F1 : Nat) : Prop where
  p0 : W.cell? ⟨g, 0, none⟩ = some (.string p.name)
  p1 : W.cell? ⟨g, 1, none⟩ = some (.int .u64 (p.port : Int))
  p2 : W.cell? ⟨g, 2, none⟩ = some (.string p.route)
  p3 : W.cell? ⟨g, 3, none⟩ = some (.slice a3 p.rules.length c3)
  p4 : W.cell? ⟨g, 4, none⟩ = some (.int .u64 (p.policy : Int))
  p5 : W.cell? ⟨g, 5, none⟩ = some (.string p.secret)
  p6 : W.cell? ⟨g, 6, none⟩ = some (.slice a6 p.addrs.length c6)
  p7 : W.cell? ⟨g, 7, none⟩ = some (.string p.key)
  q0 : W.cell? ⟨f, 0, none⟩ = some (.func (.func F1) #[] #[])
  lg : g < W.heap.size
  lf : f < W.heap.size
theorem LkOne.below {W W' : World} {g f : Nat} {p : Pl} {a3 a6 : Option Addr} {c3 c6 F1 : Nat} (h : LkOne W g f p a3 a6 c3 c6 F1) (hb : Below W.heap.size W W') : LkOne W' g f p a3 a6 c3 c6 F1 :=
  ⟨(hb.cell (p := ⟨g, 0, none⟩) h.lg).trans h.p0, (hb.cell (p := ⟨g, 1, none⟩) h.lg).trans h.p1, (hb.cell (p := ⟨g, 2, none⟩) h.lg).trans h.p2, (hb.cell (p := ⟨g, 3, none⟩) h.lg).trans h.p3, (hb.cell (p := ⟨g, 4, none⟩) h.lg).trans h.p4, (hb.cell (p := ⟨g, 5, none⟩) h.lg).trans h.p5, (hb.cell (p := ⟨g, 6, none⟩) h.lg).trans h.p6, (hb.cell (p := ⟨g, 7, none⟩) h.lg).trans h.p7, (hb.cell (p := ⟨f, 0, none⟩) h.lf).trans h.q0, Nat.lt_of_lt_of_le h.lg hb.size, Nat.lt_of_lt_of_le h.lf hb.size⟩
theorem lkOne_new (w : World) (p : Pl) (a3 a6 : Option Addr) (c3 c6 F1 : Nat) :
    LkOne ((w.alloc (.cells #[.string p.name, .int .u64 (p.port : Int), .string p.route, .slice a3 p.rules.length c3, .int .u64 (p.policy : Int), .string p.secret, .slice a6 p.addrs.length c6, .string p.key] 36)).alloc (.cells #[.func (.func F1) #[] #[]] 104)) w.heap.size (w.heap.size + 1) p a3 a6 c3 c6 F1 := by
  have hb := below_alloc (w.alloc (.cells #[.string p.name, .int .u64 (p.port : Int), .string p.route, .slice a3 p.rules.length c3, .int .u64 (p.policy : Int), .string p.secret, .slice a6 p.addrs.length c6, .string p.key] 36)) (.cells #[.func (.func F1) #[] #[]] 104)
  have hc := fun j => (hb.cell (p := ⟨w.heap.size, j, none⟩) (by simp)).trans (new_cell w _ _ j)
  have hz : w.heap.size + 1 = (w.alloc (.cells #[.string p.name, .int .u64 (p.port : Int), .string p.route, .slice a3 p.rules.length c3, .int .u64 (p.policy : Int), .string p.secret, .slice a6 p.addrs.length c6, .string p.key] 36)).heap.size := by simp
  have hd := fun j => new_cell (w.alloc (.cells #[.string p.name, .int .u64 (p.port : Int), .string p.route, .slice a3 p.rules.length c3, .int .u64 (p.policy : Int), .string p.secret, .slice a6 p.addrs.length c6, .string p.key] 36)) #[.func (.func F1) #[] #[]] 104 j
  rw [← hz] at hd
  exact ⟨(hc 0).trans rfl, (hc 1).trans rfl, (hc 2).trans rfl, (hc 3).trans rfl, (hc 4).trans rfl, (hc 5).trans rfl, (hc 6).trans rfl, (hc 7).trans rfl, (hd 0).trans rfl, by simp; omega, by simp⟩
set_option maxRecDepth 100000 in
set_option maxHeartbeats 4000000 in
theorem wrong_1 (n s : ByteArray) (p : Pl) (b : Addr) (w : World) (hg : Gv b w) (h : s.size ≤ 1024) (hp : Pl.getOf 1 s.data.toList = some p) (hn : (p.name.toList == n.toList) = true) :
    Calls Tryz.prog 36 #[kyV 1 n, .string s] w fun e w' => e = .returned ((wPort p).or (wRoute p)).v ∧ Below w.heap.size w w' := by
  have HG := Lib.hid hg
  have HP := Lib.hid hp

  have HA := Lib.hid ((Below.refl w.heap.size w).alloc (Nat.le_refl _) (.cells #[.int .i64 1, .string n] 23))
  clear hg hp
  go_enter Tryz.func36, Tryz.ntmps36
  go_wp2_with fail
  refine (get_any 1 s b _ (HG.out.below HA.out) (by omega)).mono ?_
  intro e w2 hh
  rw [HP.out] at hh
  obtain ⟨⟨a3, c3, a6, c6, rfl, h3, h6, hl3, hl6⟩, hb⟩ := hh
  have hk0 : w2.cell? ⟨w.heap.size, 0, none⟩ = some (.int .i64 1) := ((hb.cell (p := ⟨w.heap.size, 0, none⟩) (by simp)).trans (new_cell w #[.int .i64 1, .string n] 23 0))
  have hk1 : w2.cell? ⟨w.heap.size, 1, none⟩ = some (.string n) := ((hb.cell (p := ⟨w.heap.size, 1, none⟩) (by simp)).trans (new_cell w #[.int .i64 1, .string n] 23 1))
  have hsz := hb.size
  simp only [World.size_alloc] at hsz
  have hlt : w.heap.size < w2.heap.size := by omega
  have HB2 := Lib.hid (HA.out.trans (hb.mono (by simp)))
  obtain ⟨hr3, hrc⟩ := ck_rules h3
  have HR3 := Lib.hid hr3
  have HRC := Lib.hid hrc
  have HRL := Lib.hid hl3
  have HR6 := Lib.hid (ck_addrs h6)
  have HAL := Lib.hid hl6
  clear hb h3 h6 hr3 hrc hl3 hl6
  go_wp2_with fail
  refine (looksOf_1 _).mono ?_
  rintro e w3 ⟨rfl, hw3⟩
  have L0 := lkAt_new w2 p a3 a6 c3 c6 68 69
  have B3 := (HB2.out.alloc HB2.out.size (.cells #[.string p.name, .int .u64 (p.port : Int), .string p.route, .slice a3 p.rules.length c3, .int .u64 (p.policy : Int), .string p.secret, .slice a6 p.addrs.length c6, .string p.key] 36)).alloc (by have := HB2.out.size; simp; omega) (.cells #[.func (.func 68) #[] #[], .func (.func 69) #[] #[]] 104)
  have T3 := (below_alloc w2 (.cells #[.string p.name, .int .u64 (p.port : Int), .string p.route, .slice a3 p.rules.length c3, .int .u64 (p.policy : Int), .string p.secret, .slice a6 p.addrs.length c6, .string p.key] 36)).alloc (by simp) (.cells #[.func (.func 68) #[] #[], .func (.func 69) #[] #[]] 104)
  rw [hw3] at L0 B3 T3
  clear hw3 hk0 hk1 hlt hsz
  have HL3 := Lib.hid L0
  have HB3 := Lib.hid B3
  have HT3 := Lib.hid T3
  clear B3 T3
  obtain ⟨p0, p1, p2, p3, p4, p5, p6, p7, q0, q1, lg, lf⟩ := L0
  rw [show (w2.alloc (.cells #[.string p.name, .int .u64 (p.port : Int), .string p.route, .slice a3 p.rules.length c3, .int .u64 (p.policy : Int), .string p.secret, .slice a6 p.addrs.length c6, .string p.key] 36)).heap.size = w2.heap.size + 1 by simp]
  go_wp2_with fail
  refine wp_loop_rounds 3 ?_
  rw [rounds_succ]
  go_wp2_with fail
  refine (port_any p a3 a6 c3 c6 _).mono ?_
  rintro e w4 ⟨rfl, hb⟩
  have HL4 := Lib.hid (HL3.out.below hb)
  have HB4 := Lib.hid (HB3.out.trans (hb.mono HB3.out.size))
  have HT4 := Lib.hid (HT3.out.trans (hb.mono HT3.out.size))
  clear hb p0 p1 p2 p3 p4 p5 p6 p7 q0 q1 lg lf
  obtain ⟨p0, p1, p2, p3, p4, p5, p6, p7, q0, q1, lg, lf⟩ := HL4.out
  cases hr0 : wPort p with
  | word s0 =>
    have HR0X := Lib.hid hr0
    clear hr0
    rw [show (Wr.word s0).v = .iface 93 (.string s0) from rfl]
    go_wp2_with fail
    go_ret
    exact ⟨by rw [HR0X.out]; rfl, HB4.out⟩
  | pl i0 s0 =>
    have HR0X := Lib.hid hr0
    clear hr0
    rw [show (Wr.pl i0 s0).v = .iface 97 (.agg #[.int .i64 (i0 : Int), .iface 93 (.string s0)]) from rfl]
    go_wp2_with fail
    go_ret
    exact ⟨by rw [HR0X.out]; rfl, HB4.out⟩
  | no =>
    have HR0X := Lib.hid hr0
    clear hr0
    rw [show Wr.no.v = .nilIface from rfl]
    go_wp2_with fail
    rw [rounds_succ]
    go_wp2_with fail
    refine (route_any p a3 a6 c3 c6 _).mono ?_
    rintro e w5 ⟨rfl, hb⟩
    have HL5 := Lib.hid (HL4.out.below hb)
    have HB5 := Lib.hid (HB4.out.trans (hb.mono HB4.out.size))
    have HT5 := Lib.hid (HT4.out.trans (hb.mono HT4.out.size))
    clear hb p0 p1 p2 p3 p4 p5 p6 p7 q0 q1 lg lf
    obtain ⟨p0, p1, p2, p3, p4, p5, p6, p7, q0, q1, lg, lf⟩ := HL5.out
    cases hr1 : wRoute p with
    | word s1 =>
      have HR1X := Lib.hid hr1
      clear hr1
      rw [show (Wr.word s1).v = .iface 93 (.string s1) from rfl]
      go_wp2_with fail
      go_ret
      exact ⟨by rw [HR0X.out, HR1X.out]; rfl, HB5.out⟩
    | pl i1 s1 =>
      have HR1X := Lib.hid hr1
      clear hr1
      rw [show (Wr.pl i1 s1).v = .iface 97 (.agg #[.int .i64 (i1 : Int), .iface 93 (.string s1)]) from rfl]
      go_wp2_with fail
      go_ret
      exact ⟨by rw [HR0X.out, HR1X.out]; rfl, HB5.out⟩
    | no =>
      have HR1X := Lib.hid hr1
      clear hr1
      rw [show Wr.no.v = .nilIface from rfl]
      go_wp2_with fail
      rw [rounds_succ]
      go_wp2_with fail
      go_ret
      exact ⟨by rw [HR0X.out, HR1X.out]; rfl, HB5.out⟩

set_option maxRecDepth 100000 in
theorem looksOf_2 (w : World) : Calls Tryz.prog 50 #[.int .i64 2] w fun e w' => e = .returned (.slice (some ⟨w.heap.size, 0, none⟩) 2 2) ∧ w.alloc (.cells #[.func (.func 70) #[] #[], .func (.func 71) #[] #[]] 104) = w' := by
  go_enter Tryz.func50, Tryz.ntmps50
  go_wp2
  go_ret
  exact ⟨rfl, rfl⟩
set_option maxRecDepth 100000 in
set_option maxHeartbeats 4000000 in
theorem wrong_2 (n s : ByteArray) (p : Pl) (b : Addr) (w : World) (hg : Gv b w) (h : s.size ≤ 1024) (hp : Pl.getOf 2 s.data.toList = some p) (hn : (p.name.toList == n.toList) = true) :
    Calls Tryz.prog 36 #[kyV 2 n, .string s] w fun e w' => e = .returned ((wAnyRule p).or (wEachRule p)).v ∧ Below w.heap.size w w' := by
  have HG := Lib.hid hg
  have HP := Lib.hid hp

  have HA := Lib.hid ((Below.refl w.heap.size w).alloc (Nat.le_refl _) (.cells #[.int .i64 2, .string n] 23))
  clear hg hp
  go_enter Tryz.func36, Tryz.ntmps36
  go_wp2_with fail
  refine (get_any 2 s b _ (HG.out.below HA.out) (by omega)).mono ?_
  intro e w2 hh
  rw [HP.out] at hh
  obtain ⟨⟨a3, c3, a6, c6, rfl, h3, h6, hl3, hl6⟩, hb⟩ := hh
  have hk0 : w2.cell? ⟨w.heap.size, 0, none⟩ = some (.int .i64 2) := ((hb.cell (p := ⟨w.heap.size, 0, none⟩) (by simp)).trans (new_cell w #[.int .i64 2, .string n] 23 0))
  have hk1 : w2.cell? ⟨w.heap.size, 1, none⟩ = some (.string n) := ((hb.cell (p := ⟨w.heap.size, 1, none⟩) (by simp)).trans (new_cell w #[.int .i64 2, .string n] 23 1))
  have hsz := hb.size
  simp only [World.size_alloc] at hsz
  have hlt : w.heap.size < w2.heap.size := by omega
  have HB2 := Lib.hid (HA.out.trans (hb.mono (by simp)))
  obtain ⟨hr3, hrc⟩ := ck_rules h3
  have HR3 := Lib.hid hr3
  have HRC := Lib.hid hrc
  have HRL := Lib.hid hl3
  have HR6 := Lib.hid (ck_addrs h6)
  have HAL := Lib.hid hl6
  clear hb h3 h6 hr3 hrc hl3 hl6
  go_wp2_with fail
  refine (looksOf_2 _).mono ?_
  rintro e w3 ⟨rfl, hw3⟩
  have L0 := lkAt_new w2 p a3 a6 c3 c6 70 71
  have B3 := (HB2.out.alloc HB2.out.size (.cells #[.string p.name, .int .u64 (p.port : Int), .string p.route, .slice a3 p.rules.length c3, .int .u64 (p.policy : Int), .string p.secret, .slice a6 p.addrs.length c6, .string p.key] 36)).alloc (by have := HB2.out.size; simp; omega) (.cells #[.func (.func 70) #[] #[], .func (.func 71) #[] #[]] 104)
  have T3 := (below_alloc w2 (.cells #[.string p.name, .int .u64 (p.port : Int), .string p.route, .slice a3 p.rules.length c3, .int .u64 (p.policy : Int), .string p.secret, .slice a6 p.addrs.length c6, .string p.key] 36)).alloc (by simp) (.cells #[.func (.func 70) #[] #[], .func (.func 71) #[] #[]] 104)
  rw [hw3] at L0 B3 T3
  clear hw3 hk0 hk1 hlt hsz
  have HL3 := Lib.hid L0
  have HB3 := Lib.hid B3
  have HT3 := Lib.hid T3
  clear B3 T3
  obtain ⟨p0, p1, p2, p3, p4, p5, p6, p7, q0, q1, lg, lf⟩ := L0
  rw [show (w2.alloc (.cells #[.string p.name, .int .u64 (p.port : Int), .string p.route, .slice a3 p.rules.length c3, .int .u64 (p.policy : Int), .string p.secret, .slice a6 p.addrs.length c6, .string p.key] 36)).heap.size = w2.heap.size + 1 by simp]
  go_wp2_with fail
  refine wp_loop_rounds 3 ?_
  rw [rounds_succ]
  go_wp2_with fail
  refine (anyRule_any p a3 a6 c3 c6 _).mono ?_
  rintro e w4 ⟨rfl, hb⟩
  have HL4 := Lib.hid (HL3.out.below hb)
  have HB4 := Lib.hid (HB3.out.trans (hb.mono HB3.out.size))
  have HT4 := Lib.hid (HT3.out.trans (hb.mono HT3.out.size))
  clear hb p0 p1 p2 p3 p4 p5 p6 p7 q0 q1 lg lf
  obtain ⟨p0, p1, p2, p3, p4, p5, p6, p7, q0, q1, lg, lf⟩ := HL4.out
  cases hr0 : wAnyRule p with
  | word s0 =>
    have HR0X := Lib.hid hr0
    clear hr0
    rw [show (Wr.word s0).v = .iface 93 (.string s0) from rfl]
    go_wp2_with fail
    go_ret
    exact ⟨by rw [HR0X.out]; rfl, HB4.out⟩
  | pl i0 s0 =>
    have HR0X := Lib.hid hr0
    clear hr0
    rw [show (Wr.pl i0 s0).v = .iface 97 (.agg #[.int .i64 (i0 : Int), .iface 93 (.string s0)]) from rfl]
    go_wp2_with fail
    go_ret
    exact ⟨by rw [HR0X.out]; rfl, HB4.out⟩
  | no =>
    have HR0X := Lib.hid hr0
    clear hr0
    rw [show Wr.no.v = .nilIface from rfl]
    go_wp2_with fail
    rw [rounds_succ]
    go_wp2_with fail
    refine (eachRule_any p a3 a6 c3 c6 _ (HR3.out.below HT4.out) HRL.out HRC.out).mono ?_
    rintro e w5 ⟨rfl, hb⟩
    have HL5 := Lib.hid (HL4.out.below hb)
    have HB5 := Lib.hid (HB4.out.trans (hb.mono HB4.out.size))
    have HT5 := Lib.hid (HT4.out.trans (hb.mono HT4.out.size))
    clear hb p0 p1 p2 p3 p4 p5 p6 p7 q0 q1 lg lf
    obtain ⟨p0, p1, p2, p3, p4, p5, p6, p7, q0, q1, lg, lf⟩ := HL5.out
    cases hr1 : wEachRule p with
    | word s1 =>
      have HR1X := Lib.hid hr1
      clear hr1
      rw [show (Wr.word s1).v = .iface 93 (.string s1) from rfl]
      go_wp2_with fail
      go_ret
      exact ⟨by rw [HR0X.out, HR1X.out]; rfl, HB5.out⟩
    | pl i1 s1 =>
      have HR1X := Lib.hid hr1
      clear hr1
      rw [show (Wr.pl i1 s1).v = .iface 97 (.agg #[.int .i64 (i1 : Int), .iface 93 (.string s1)]) from rfl]
      go_wp2_with fail
      go_ret
      exact ⟨by rw [HR0X.out, HR1X.out]; rfl, HB5.out⟩
    | no =>
      have HR1X := Lib.hid hr1
      clear hr1
      rw [show Wr.no.v = .nilIface from rfl]
      go_wp2_with fail
      rw [rounds_succ]
      go_wp2_with fail
      go_ret
      exact ⟨by rw [HR0X.out, HR1X.out]; rfl, HB5.out⟩

set_option maxRecDepth 100000 in
theorem looksOf_3 (w : World) : Calls Tryz.prog 50 #[.int .i64 3] w fun e w' => e = .returned (.slice (some ⟨w.heap.size, 0, none⟩) 2 2) ∧ w.alloc (.cells #[.func (.func 72) #[] #[], .func (.func 73) #[] #[]] 104) = w' := by
  go_enter Tryz.func50, Tryz.ntmps50
  go_wp2
  go_ret
  exact ⟨rfl, rfl⟩
set_option maxRecDepth 100000 in
set_option maxHeartbeats 4000000 in
theorem wrong_3 (n s : ByteArray) (p : Pl) (b : Addr) (w : World) (hg : Gv b w) (h : s.size ≤ 1024) (hp : Pl.getOf 3 s.data.toList = some p) (hn : (p.name.toList == n.toList) = true) :
    Calls Tryz.prog 36 #[kyV 3 n, .string s] w fun e w' => e = .returned ((wPolicy p).or (wSecret p)).v ∧ Below w.heap.size w w' := by
  have HG := Lib.hid hg
  have HP := Lib.hid hp

  have HA := Lib.hid ((Below.refl w.heap.size w).alloc (Nat.le_refl _) (.cells #[.int .i64 3, .string n] 23))
  clear hg hp
  go_enter Tryz.func36, Tryz.ntmps36
  go_wp2_with fail
  refine (get_any 3 s b _ (HG.out.below HA.out) (by omega)).mono ?_
  intro e w2 hh
  rw [HP.out] at hh
  obtain ⟨⟨a3, c3, a6, c6, rfl, h3, h6, hl3, hl6⟩, hb⟩ := hh
  have hk0 : w2.cell? ⟨w.heap.size, 0, none⟩ = some (.int .i64 3) := ((hb.cell (p := ⟨w.heap.size, 0, none⟩) (by simp)).trans (new_cell w #[.int .i64 3, .string n] 23 0))
  have hk1 : w2.cell? ⟨w.heap.size, 1, none⟩ = some (.string n) := ((hb.cell (p := ⟨w.heap.size, 1, none⟩) (by simp)).trans (new_cell w #[.int .i64 3, .string n] 23 1))
  have hsz := hb.size
  simp only [World.size_alloc] at hsz
  have hlt : w.heap.size < w2.heap.size := by omega
  have HB2 := Lib.hid (HA.out.trans (hb.mono (by simp)))
  obtain ⟨hr3, hrc⟩ := ck_rules h3
  have HR3 := Lib.hid hr3
  have HRC := Lib.hid hrc
  have HRL := Lib.hid hl3
  have HR6 := Lib.hid (ck_addrs h6)
  have HAL := Lib.hid hl6
  clear hb h3 h6 hr3 hrc hl3 hl6
  go_wp2_with fail
  refine (looksOf_3 _).mono ?_
  rintro e w3 ⟨rfl, hw3⟩
  have L0 := lkAt_new w2 p a3 a6 c3 c6 72 73
  have B3 := (HB2.out.alloc HB2.out.size (.cells #[.string p.name, .int .u64 (p.port : Int), .string p.route, .slice a3 p.rules.length c3, .int .u64 (p.policy : Int), .string p.secret, .slice a6 p.addrs.length c6, .string p.key] 36)).alloc (by have := HB2.out.size; simp; omega) (.cells #[.func (.func 72) #[] #[], .func (.func 73) #[] #[]] 104)
  have T3 := (below_alloc w2 (.cells #[.string p.name, .int .u64 (p.port : Int), .string p.route, .slice a3 p.rules.length c3, .int .u64 (p.policy : Int), .string p.secret, .slice a6 p.addrs.length c6, .string p.key] 36)).alloc (by simp) (.cells #[.func (.func 72) #[] #[], .func (.func 73) #[] #[]] 104)
  rw [hw3] at L0 B3 T3
  clear hw3 hk0 hk1 hlt hsz
  have HL3 := Lib.hid L0
  have HB3 := Lib.hid B3
  have HT3 := Lib.hid T3
  clear B3 T3
  obtain ⟨p0, p1, p2, p3, p4, p5, p6, p7, q0, q1, lg, lf⟩ := L0
  rw [show (w2.alloc (.cells #[.string p.name, .int .u64 (p.port : Int), .string p.route, .slice a3 p.rules.length c3, .int .u64 (p.policy : Int), .string p.secret, .slice a6 p.addrs.length c6, .string p.key] 36)).heap.size = w2.heap.size + 1 by simp]
  go_wp2_with fail
  refine wp_loop_rounds 3 ?_
  rw [rounds_succ]
  go_wp2_with fail
  refine (policy_any p a3 a6 c3 c6 _).mono ?_
  rintro e w4 ⟨rfl, hb⟩
  have HL4 := Lib.hid (HL3.out.below hb)
  have HB4 := Lib.hid (HB3.out.trans (hb.mono HB3.out.size))
  have HT4 := Lib.hid (HT3.out.trans (hb.mono HT3.out.size))
  clear hb p0 p1 p2 p3 p4 p5 p6 p7 q0 q1 lg lf
  obtain ⟨p0, p1, p2, p3, p4, p5, p6, p7, q0, q1, lg, lf⟩ := HL4.out
  cases hr0 : wPolicy p with
  | word s0 =>
    have HR0X := Lib.hid hr0
    clear hr0
    rw [show (Wr.word s0).v = .iface 93 (.string s0) from rfl]
    go_wp2_with fail
    go_ret
    exact ⟨by rw [HR0X.out]; rfl, HB4.out⟩
  | pl i0 s0 =>
    have HR0X := Lib.hid hr0
    clear hr0
    rw [show (Wr.pl i0 s0).v = .iface 97 (.agg #[.int .i64 (i0 : Int), .iface 93 (.string s0)]) from rfl]
    go_wp2_with fail
    go_ret
    exact ⟨by rw [HR0X.out]; rfl, HB4.out⟩
  | no =>
    have HR0X := Lib.hid hr0
    clear hr0
    rw [show Wr.no.v = .nilIface from rfl]
    go_wp2_with fail
    rw [rounds_succ]
    go_wp2_with fail
    refine (secret_any p a3 a6 c3 c6 _).mono ?_
    rintro e w5 ⟨rfl, hb⟩
    have HL5 := Lib.hid (HL4.out.below hb)
    have HB5 := Lib.hid (HB4.out.trans (hb.mono HB4.out.size))
    have HT5 := Lib.hid (HT4.out.trans (hb.mono HT4.out.size))
    clear hb p0 p1 p2 p3 p4 p5 p6 p7 q0 q1 lg lf
    obtain ⟨p0, p1, p2, p3, p4, p5, p6, p7, q0, q1, lg, lf⟩ := HL5.out
    cases hr1 : wSecret p with
    | word s1 =>
      have HR1X := Lib.hid hr1
      clear hr1
      rw [show (Wr.word s1).v = .iface 93 (.string s1) from rfl]
      go_wp2_with fail
      go_ret
      exact ⟨by rw [HR0X.out, HR1X.out]; rfl, HB5.out⟩
    | pl i1 s1 =>
      have HR1X := Lib.hid hr1
      clear hr1
      rw [show (Wr.pl i1 s1).v = .iface 97 (.agg #[.int .i64 (i1 : Int), .iface 93 (.string s1)]) from rfl]
      go_wp2_with fail
      go_ret
      exact ⟨by rw [HR0X.out, HR1X.out]; rfl, HB5.out⟩
    | no =>
      have HR1X := Lib.hid hr1
      clear hr1
      rw [show Wr.no.v = .nilIface from rfl]
      go_wp2_with fail
      rw [rounds_succ]
      go_wp2_with fail
      go_ret
      exact ⟨by rw [HR0X.out, HR1X.out]; rfl, HB5.out⟩

set_option maxRecDepth 100000 in
theorem looksOf_4 (w : World) : Calls Tryz.prog 50 #[.int .i64 4] w fun e w' => e = .returned (.slice (some ⟨w.heap.size, 0, none⟩) 2 2) ∧ w.alloc (.cells #[.func (.func 74) #[] #[], .func (.func 75) #[] #[]] 104) = w' := by
  go_enter Tryz.func50, Tryz.ntmps50
  go_wp2
  go_ret
  exact ⟨rfl, rfl⟩
set_option maxRecDepth 100000 in
set_option maxHeartbeats 4000000 in
theorem wrong_4 (n s : ByteArray) (p : Pl) (b : Addr) (w : World) (hg : Gv b w) (h : s.size ≤ 1024) (hp : Pl.getOf 4 s.data.toList = some p) (hn : (p.name.toList == n.toList) = true) (hads : AdsOk p) :
    Calls Tryz.prog 36 #[kyV 4 n, .string s] w fun e w' => e = .returned ((wEachAddr p).or (wWeight p)).v ∧ Below w.heap.size w w' := by
  have HG := Lib.hid hg
  have HP := Lib.hid hp
  have HAD := Lib.hid hads
  have HA := Lib.hid ((Below.refl w.heap.size w).alloc (Nat.le_refl _) (.cells #[.int .i64 4, .string n] 23))
  clear hg hp hads
  go_enter Tryz.func36, Tryz.ntmps36
  go_wp2_with fail
  refine (get_any 4 s b _ (HG.out.below HA.out) (by omega)).mono ?_
  intro e w2 hh
  rw [HP.out] at hh
  obtain ⟨⟨a3, c3, a6, c6, rfl, h3, h6, hl3, hl6⟩, hb⟩ := hh
  have hk0 : w2.cell? ⟨w.heap.size, 0, none⟩ = some (.int .i64 4) := ((hb.cell (p := ⟨w.heap.size, 0, none⟩) (by simp)).trans (new_cell w #[.int .i64 4, .string n] 23 0))
  have hk1 : w2.cell? ⟨w.heap.size, 1, none⟩ = some (.string n) := ((hb.cell (p := ⟨w.heap.size, 1, none⟩) (by simp)).trans (new_cell w #[.int .i64 4, .string n] 23 1))
  have hsz := hb.size
  simp only [World.size_alloc] at hsz
  have hlt : w.heap.size < w2.heap.size := by omega
  have HB2 := Lib.hid (HA.out.trans (hb.mono (by simp)))
  obtain ⟨hr3, hrc⟩ := ck_rules h3
  have HR3 := Lib.hid hr3
  have HRC := Lib.hid hrc
  have HRL := Lib.hid hl3
  have HR6 := Lib.hid (ck_addrs h6)
  have HAL := Lib.hid hl6
  clear hb h3 h6 hr3 hrc hl3 hl6
  go_wp2_with fail
  refine (looksOf_4 _).mono ?_
  rintro e w3 ⟨rfl, hw3⟩
  have L0 := lkAt_new w2 p a3 a6 c3 c6 74 75
  have B3 := (HB2.out.alloc HB2.out.size (.cells #[.string p.name, .int .u64 (p.port : Int), .string p.route, .slice a3 p.rules.length c3, .int .u64 (p.policy : Int), .string p.secret, .slice a6 p.addrs.length c6, .string p.key] 36)).alloc (by have := HB2.out.size; simp; omega) (.cells #[.func (.func 74) #[] #[], .func (.func 75) #[] #[]] 104)
  have T3 := (below_alloc w2 (.cells #[.string p.name, .int .u64 (p.port : Int), .string p.route, .slice a3 p.rules.length c3, .int .u64 (p.policy : Int), .string p.secret, .slice a6 p.addrs.length c6, .string p.key] 36)).alloc (by simp) (.cells #[.func (.func 74) #[] #[], .func (.func 75) #[] #[]] 104)
  rw [hw3] at L0 B3 T3
  clear hw3 hk0 hk1 hlt hsz
  have HL3 := Lib.hid L0
  have HB3 := Lib.hid B3
  have HT3 := Lib.hid T3
  clear B3 T3
  obtain ⟨p0, p1, p2, p3, p4, p5, p6, p7, q0, q1, lg, lf⟩ := L0
  rw [show (w2.alloc (.cells #[.string p.name, .int .u64 (p.port : Int), .string p.route, .slice a3 p.rules.length c3, .int .u64 (p.policy : Int), .string p.secret, .slice a6 p.addrs.length c6, .string p.key] 36)).heap.size = w2.heap.size + 1 by simp]
  go_wp2_with fail
  refine wp_loop_rounds 3 ?_
  rw [rounds_succ]
  go_wp2_with fail
  refine (eachAddr_any p a3 a6 c3 c6 _ (HR6.out.below HT3.out) HAL.out HAD.out).mono ?_
  rintro e w4 ⟨rfl, hb⟩
  have HL4 := Lib.hid (HL3.out.below hb)
  have HB4 := Lib.hid (HB3.out.trans (hb.mono HB3.out.size))
  have HT4 := Lib.hid (HT3.out.trans (hb.mono HT3.out.size))
  clear hb p0 p1 p2 p3 p4 p5 p6 p7 q0 q1 lg lf
  obtain ⟨p0, p1, p2, p3, p4, p5, p6, p7, q0, q1, lg, lf⟩ := HL4.out
  cases hr0 : wEachAddr p with
  | word s0 =>
    have HR0X := Lib.hid hr0
    clear hr0
    rw [show (Wr.word s0).v = .iface 93 (.string s0) from rfl]
    go_wp2_with fail
    go_ret
    exact ⟨by rw [HR0X.out]; rfl, HB4.out⟩
  | pl i0 s0 =>
    have HR0X := Lib.hid hr0
    clear hr0
    rw [show (Wr.pl i0 s0).v = .iface 97 (.agg #[.int .i64 (i0 : Int), .iface 93 (.string s0)]) from rfl]
    go_wp2_with fail
    go_ret
    exact ⟨by rw [HR0X.out]; rfl, HB4.out⟩
  | no =>
    have HR0X := Lib.hid hr0
    clear hr0
    rw [show Wr.no.v = .nilIface from rfl]
    go_wp2_with fail
    rw [rounds_succ]
    go_wp2_with fail
    refine (weight_any p a3 a6 c3 c6 _ (HR6.out.below HT4.out) HAL.out HAD.out).mono ?_
    rintro e w5 ⟨rfl, hb⟩
    have HL5 := Lib.hid (HL4.out.below hb)
    have HB5 := Lib.hid (HB4.out.trans (hb.mono HB4.out.size))
    have HT5 := Lib.hid (HT4.out.trans (hb.mono HT4.out.size))
    clear hb p0 p1 p2 p3 p4 p5 p6 p7 q0 q1 lg lf
    obtain ⟨p0, p1, p2, p3, p4, p5, p6, p7, q0, q1, lg, lf⟩ := HL5.out
    cases hr1 : wWeight p with
    | word s1 =>
      have HR1X := Lib.hid hr1
      clear hr1
      rw [show (Wr.word s1).v = .iface 93 (.string s1) from rfl]
      go_wp2_with fail
      go_ret
      exact ⟨by rw [HR0X.out, HR1X.out]; rfl, HB5.out⟩
    | pl i1 s1 =>
      have HR1X := Lib.hid hr1
      clear hr1
      rw [show (Wr.pl i1 s1).v = .iface 97 (.agg #[.int .i64 (i1 : Int), .iface 93 (.string s1)]) from rfl]
      go_wp2_with fail
      go_ret
      exact ⟨by rw [HR0X.out, HR1X.out]; rfl, HB5.out⟩
    | no =>
      have HR1X := Lib.hid hr1
      clear hr1
      rw [show Wr.no.v = .nilIface from rfl]
      go_wp2_with fail
      rw [rounds_succ]
      go_wp2_with fail
      go_ret
      exact ⟨by rw [HR0X.out, HR1X.out]; rfl, HB5.out⟩

set_option maxRecDepth 100000 in
theorem looksOf_5 (w : World) : Calls Tryz.prog 50 #[.int .i64 5] w fun e w' => e = .returned (.slice (some ⟨w.heap.size, 0, none⟩) 1 1) ∧ w.alloc (.cells #[.func (.func 76) #[] #[]] 104) = w' := by
  go_enter Tryz.func50, Tryz.ntmps50
  go_wp2
  go_ret
  exact ⟨rfl, rfl⟩
set_option maxRecDepth 100000 in
set_option maxHeartbeats 4000000 in
theorem wrong_5 (n s : ByteArray) (p : Pl) (b : Addr) (w : World) (hg : Gv b w) (h : s.size ≤ 1024) (hp : Pl.getOf 5 s.data.toList = some p) (hn : (p.name.toList == n.toList) = true) :
    Calls Tryz.prog 36 #[kyV 5 n, .string s] w fun e w' => e = .returned (wKey p).v ∧ Below w.heap.size w w' := by
  have HG := Lib.hid hg
  have HP := Lib.hid hp

  have HA := Lib.hid ((Below.refl w.heap.size w).alloc (Nat.le_refl _) (.cells #[.int .i64 5, .string n] 23))
  clear hg hp
  go_enter Tryz.func36, Tryz.ntmps36
  go_wp2_with fail
  refine (get_any 5 s b _ (HG.out.below HA.out) (by omega)).mono ?_
  intro e w2 hh
  rw [HP.out] at hh
  obtain ⟨⟨a3, c3, a6, c6, rfl, h3, h6, hl3, hl6⟩, hb⟩ := hh
  have hk0 : w2.cell? ⟨w.heap.size, 0, none⟩ = some (.int .i64 5) := ((hb.cell (p := ⟨w.heap.size, 0, none⟩) (by simp)).trans (new_cell w #[.int .i64 5, .string n] 23 0))
  have hk1 : w2.cell? ⟨w.heap.size, 1, none⟩ = some (.string n) := ((hb.cell (p := ⟨w.heap.size, 1, none⟩) (by simp)).trans (new_cell w #[.int .i64 5, .string n] 23 1))
  have hsz := hb.size
  simp only [World.size_alloc] at hsz
  have hlt : w.heap.size < w2.heap.size := by omega
  have HB2 := Lib.hid (HA.out.trans (hb.mono (by simp)))
  obtain ⟨hr3, hrc⟩ := ck_rules h3
  have HR3 := Lib.hid hr3
  have HRC := Lib.hid hrc
  have HRL := Lib.hid hl3
  have HR6 := Lib.hid (ck_addrs h6)
  have HAL := Lib.hid hl6
  clear hb h3 h6 hr3 hrc hl3 hl6
  go_wp2_with fail
  refine (looksOf_5 _).mono ?_
  rintro e w3 ⟨rfl, hw3⟩
  have L0 := lkOne_new w2 p a3 a6 c3 c6 76
  have B3 := (HB2.out.alloc HB2.out.size (.cells #[.string p.name, .int .u64 (p.port : Int), .string p.route, .slice a3 p.rules.length c3, .int .u64 (p.policy : Int), .string p.secret, .slice a6 p.addrs.length c6, .string p.key] 36)).alloc (by have := HB2.out.size; simp; omega) (.cells #[.func (.func 76) #[] #[]] 104)
  have T3 := (below_alloc w2 (.cells #[.string p.name, .int .u64 (p.port : Int), .string p.route, .slice a3 p.rules.length c3, .int .u64 (p.policy : Int), .string p.secret, .slice a6 p.addrs.length c6, .string p.key] 36)).alloc (by simp) (.cells #[.func (.func 76) #[] #[]] 104)
  rw [hw3] at L0 B3 T3
  clear hw3 hk0 hk1 hlt hsz
  have HL3 := Lib.hid L0
  have HB3 := Lib.hid B3
  have HT3 := Lib.hid T3
  clear B3 T3
  obtain ⟨p0, p1, p2, p3, p4, p5, p6, p7, q0, lg, lf⟩ := L0
  rw [show (w2.alloc (.cells #[.string p.name, .int .u64 (p.port : Int), .string p.route, .slice a3 p.rules.length c3, .int .u64 (p.policy : Int), .string p.secret, .slice a6 p.addrs.length c6, .string p.key] 36)).heap.size = w2.heap.size + 1 by simp]
  go_wp2_with fail
  refine wp_loop_rounds 2 ?_
  rw [rounds_succ]
  go_wp2_with fail
  refine (key5_any p a3 a6 c3 c6 _).mono ?_
  rintro e w4 ⟨rfl, hb⟩
  have HL4 := Lib.hid (HL3.out.below hb)
  have HB4 := Lib.hid (HB3.out.trans (hb.mono HB3.out.size))
  have HT4 := Lib.hid (HT3.out.trans (hb.mono HT3.out.size))
  clear hb p0 p1 p2 p3 p4 p5 p6 p7 q0 lg lf
  obtain ⟨p0, p1, p2, p3, p4, p5, p6, p7, q0, lg, lf⟩ := HL4.out
  cases hr0 : wKey p with
  | word s0 =>
    have HR0X := Lib.hid hr0
    clear hr0
    rw [show (Wr.word s0).v = .iface 93 (.string s0) from rfl]
    go_wp2_with fail
    go_ret
    exact ⟨by rw [HR0X.out]; rfl, HB4.out⟩
  | pl i0 s0 =>
    have HR0X := Lib.hid hr0
    clear hr0
    rw [show (Wr.pl i0 s0).v = .iface 97 (.agg #[.int .i64 (i0 : Int), .iface 93 (.string s0)]) from rfl]
    go_wp2_with fail
    go_ret
    exact ⟨by rw [HR0X.out]; rfl, HB4.out⟩
  | no =>
    have HR0X := Lib.hid hr0
    clear hr0
    rw [show Wr.no.v = .nilIface from rfl]
    go_wp2_with fail
    rw [rounds_succ]
    go_wp2_with fail
    go_ret
    exact ⟨by rw [HR0X.out]; rfl, HB4.out⟩
end Go.Proofs.YtngceccpebdgmaaGreatDoor
