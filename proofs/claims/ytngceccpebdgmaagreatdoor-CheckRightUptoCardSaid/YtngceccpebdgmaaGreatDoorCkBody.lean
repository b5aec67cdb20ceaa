/- check: the body: what is wrong with it, but for what a type's fields are looked at for; and a Listener's. -/
import Derived.Test.YtngceccpebdgmaaGreatDoorCkErr
import Derived.Test.YtngceccpebdgmaaGreatDoorPlGet
namespace Go.Proofs.YtngceccpebdgmaaGreatDoor
open Go.RowKit Go.Shelf

def wSize : Wr := .word ⟨#[115, 105, 122, 101]⟩
def wForm : Wr := .word ⟨#[102, 111, 114, 109]⟩
def wName : Wr := .word ⟨#[110, 97, 109, 101]⟩
def wPort (p : Pl) : Wr := wrIf (!(portB (p.port : Int))) ⟨#[112, 111, 114, 116]⟩
def wRoute (p : Pl) : Wr := wrIf (!(nmOk p.route)) ⟨#[114, 111, 117, 116, 101]⟩

set_option maxRecDepth 100000 in
theorem port_any (p : Pl) (a3 a6 : Option Addr) (c3 c6 : Nat) (w : World) : Calls Tryz.prog 68 #[plV p a3 c3 a6 c6] w fun e w' => e = .returned (wPort p).v ∧ Below w.heap.size w w' := by
  go_enter Tryz.func68, Tryz.ntmps68
  go_wp2_with (first | (go_at_call 102; refine (isPort_any _ _).mono ?_; rintro e w' ⟨rfl, rfl⟩) | (go_at_call 101; refine (faultIf_any _ _ _).mono ?_; rintro e w' ⟨rfl, rfl⟩))
  go_ret
  exact ⟨rfl, (Below.refl _ _).alloc (Nat.le_refl _) _⟩
set_option maxRecDepth 100000 in
theorem route_any (p : Pl) (a3 a6 : Option Addr) (c3 c6 : Nat) (w : World) : Calls Tryz.prog 69 #[plV p a3 c3 a6 c6] w fun e w' => e = .returned (wRoute p).v ∧ Below w.heap.size w w' := by
  go_enter Tryz.func69, Tryz.ntmps69
  go_wp2_with (first | (go_at_call 11; refine (name_any _ _).mono ?_; rintro e w' ⟨rfl, rfl⟩) | (go_at_call 101; refine (faultIf_any _ _ _).mono ?_; rintro e w' ⟨rfl, rfl⟩))
  go_ret
  exact ⟨rfl, (Below.refl _ _).alloc (Nat.le_refl _) _⟩

set_option maxRecDepth 100000 in
theorem firstWrong_size (k : Int) (n s : ByteArray) (w : World) (h : 1024 < s.size) :
    Calls Tryz.prog 36 #[kyV k n, .string s] w fun e w' => e = .returned wSize.v ∧ Below w.heap.size w w' := by
  go_enter Tryz.func36, Tryz.ntmps36
  go_wp2
  go_ret
  exact ⟨rfl, (Below.refl _ _).alloc (Nat.le_refl _) _⟩
set_option maxRecDepth 100000 in
set_option maxHeartbeats 1000000 in
theorem firstWrong_form (k : Int) (n s : ByteArray) (b : Addr) (w : World) (hg : Gv b w) (h : s.size ≤ 1024) (hp : Pl.getOf k s.data.toList = none) :
    Calls Tryz.prog 36 #[kyV k n, .string s] w fun e w' => e = .returned wForm.v ∧ Below w.heap.size w w' := by
  have HG := Lib.hid hg
  have HP := Lib.hid hp
  clear hg hp
  go_enter Tryz.func36, Tryz.ntmps36
  go_wp2_with fail
  refine (get_any k s b _ (HG.out.below ((Below.refl _ _).alloc (Nat.le_refl _) _)) (by omega)).mono ?_
  intro e w2 hh
  rw [HP.out] at hh
  obtain ⟨rfl, hb⟩ := hh
  have HB := Lib.hid (((Below.refl w.heap.size w).alloc (Nat.le_refl _) (.cells #[.int .i64 k, .string n] 23)).trans (hb.mono (by simp)))
  clear hb
  go_wp2_with fail
  go_ret
  exact ⟨rfl, HB.out.alloc HB.out.size _⟩
set_option maxRecDepth 100000 in
set_option maxHeartbeats 1000000 in
theorem firstWrong_name (k : Int) (n s : ByteArray) (p : Pl) (b : Addr) (w : World) (hg : Gv b w) (h : s.size ≤ 1024) (hp : Pl.getOf k s.data.toList = some p) (hn : (p.name.toList == n.toList) = false) :
    Calls Tryz.prog 36 #[kyV k n, .string s] w fun e w' => e = .returned wName.v ∧ Below w.heap.size w w' := by
  have HG := Lib.hid hg
  have HP := Lib.hid hp
  have HA := Lib.hid ((Below.refl w.heap.size w).alloc (Nat.le_refl _) (.cells #[.int .i64 k, .string n] 23))
  clear hg hp
  go_enter Tryz.func36, Tryz.ntmps36
  go_wp2_with fail
  refine (get_any k s b _ (HG.out.below HA.out) (by omega)).mono ?_
  intro e w2 hh
  rw [HP.out] at hh
  obtain ⟨⟨a3, c3, a6, c6, rfl, h3, h6, _, _⟩, hb⟩ := hh
  have hk1 := (hb.cell (p := ⟨w.heap.size, 1, none⟩) (by simp)).trans (new_cell w #[.int .i64 k, .string n] 23 1)
  have hsz := hb.size
  simp only [World.size_alloc] at hsz
  have hlt : w.heap.size < w2.heap.size := by omega
  have HB := Lib.hid (HA.out.trans (hb.mono (by simp)))
  clear hb
  have hk := hk1.trans rfl
  clear hk1
  go_wp2_with fail
  go_ret
  exact ⟨rfl, HB.out.alloc HB.out.size _⟩
/-- What the loop over the looks reads. -/
structure LkAt (W : World) (g f : Nat) (p : Pl) (a3 a6 : Option Addr) (c3 c6 : Nat) (F1 F2 : Nat) : Prop where
  p0 : W.cell? ⟨g, 0, none⟩ = some (.string p.name)
  p1 : W.cell? ⟨g, 1, none⟩ = some (.int .u64 (p.port : Int))
  p2 : W.cell? ⟨g, 2, none⟩ = some (.string p.route)
  p3 : W.cell? ⟨g, 3, none⟩ = some (.slice a3 p.rules.length c3)
  p4 : W.cell? ⟨g, 4, none⟩ = some (.int .u64 (p.policy : Int))
  p5 : W.cell? ⟨g, 5, none⟩ = some (.string p.secret)
  p6 : W.cell? ⟨g, 6, none⟩ = some (.slice a6 p.addrs.length c6)
  p7 : W.cell? ⟨g, 7, none⟩ = some (.string p.key)
  q0 : W.cell? ⟨f, 0, none⟩ = some (.func (.func F1) #[] #[])
  q1 : W.cell? ⟨f, 1, none⟩ = some (.func (.func F2) #[] #[])
  lg : g < W.heap.size
  lf : f < W.heap.size
theorem LkAt.below {W W' : World} {g f : Nat} {p : Pl} {a3 a6 : Option Addr} {c3 c6 F1 F2 : Nat} (h : LkAt W g f p a3 a6 c3 c6 F1 F2) (hb : Below W.heap.size W W') : LkAt W' g f p a3 a6 c3 c6 F1 F2 :=
  ⟨(hb.cell (p := ⟨g, 0, none⟩) h.lg).trans h.p0, (hb.cell (p := ⟨g, 1, none⟩) h.lg).trans h.p1, (hb.cell (p := ⟨g, 2, none⟩) h.lg).trans h.p2, (hb.cell (p := ⟨g, 3, none⟩) h.lg).trans h.p3, (hb.cell (p := ⟨g, 4, none⟩) h.lg).trans h.p4, (hb.cell (p := ⟨g, 5, none⟩) h.lg).trans h.p5, (hb.cell (p := ⟨g, 6, none⟩) h.lg).trans h.p6, (hb.cell (p := ⟨g, 7, none⟩) h.lg).trans h.p7, (hb.cell (p := ⟨f, 0, none⟩) h.lf).trans h.q0, (hb.cell (p := ⟨f, 1, none⟩) h.lf).trans h.q1, Nat.lt_of_lt_of_le h.lg hb.size, Nat.lt_of_lt_of_le h.lf hb.size⟩
theorem lkAt_new (w : World) (p : Pl) (a3 a6 : Option Addr) (c3 c6 F1 F2 : Nat) :
    LkAt ((w.alloc (.cells #[.string p.name, .int .u64 (p.port : Int), .string p.route, .slice a3 p.rules.length c3, .int .u64 (p.policy : Int), .string p.secret, .slice a6 p.addrs.length c6, .string p.key] 36)).alloc (.cells #[.func (.func F1) #[] #[], .func (.func F2) #[] #[]] 104)) w.heap.size (w.heap.size + 1) p a3 a6 c3 c6 F1 F2 := by
  have hb := below_alloc (w.alloc (.cells #[.string p.name, .int .u64 (p.port : Int), .string p.route, .slice a3 p.rules.length c3, .int .u64 (p.policy : Int), .string p.secret, .slice a6 p.addrs.length c6, .string p.key] 36)) (.cells #[.func (.func F1) #[] #[], .func (.func F2) #[] #[]] 104)
  have hc := fun j => (hb.cell (p := ⟨w.heap.size, j, none⟩) (by simp)).trans (new_cell w _ _ j)
  have hz : w.heap.size + 1 = (w.alloc (.cells #[.string p.name, .int .u64 (p.port : Int), .string p.route, .slice a3 p.rules.length c3, .int .u64 (p.policy : Int), .string p.secret, .slice a6 p.addrs.length c6, .string p.key] 36)).heap.size := by simp
  have hd := fun j => new_cell (w.alloc (.cells #[.string p.name, .int .u64 (p.port : Int), .string p.route, .slice a3 p.rules.length c3, .int .u64 (p.policy : Int), .string p.secret, .slice a6 p.addrs.length c6, .string p.key] 36)) #[.func (.func F1) #[] #[], .func (.func F2) #[] #[]] 104 j
  rw [← hz] at hd
  exact ⟨(hc 0).trans rfl, (hc 1).trans rfl, (hc 2).trans rfl, (hc 3).trans rfl, (hc 4).trans rfl, (hc 5).trans rfl, (hc 6).trans rfl, (hc 7).trans rfl, (hd 0).trans rfl, (hd 1).trans rfl, by simp; omega, by simp⟩

set_option maxRecDepth 100000 in
theorem looksOf_1 (w : World) : Calls Tryz.prog 50 #[.int .i64 1] w fun e w' => e = .returned (.slice (some ⟨w.heap.size, 0, none⟩) 2 2) ∧ w.alloc (.cells #[.func (.func 68) #[] #[], .func (.func 69) #[] #[]] 104) = w' := by
  go_enter Tryz.func50, Tryz.ntmps50
  go_wp2
  go_ret
  exact ⟨rfl, rfl⟩
set_option maxRecDepth 100000 in
set_option maxHeartbeats 2000000 in
theorem firstWrong_1 (n s : ByteArray) (p : Pl) (b : Addr) (w : World) (hg : Gv b w) (h : s.size ≤ 1024) (hp : Pl.getOf 1 s.data.toList = some p) (hn : (p.name.toList == n.toList) = true) (hw1 : wPort p = .no) (hw2 : wRoute p = .no) :
    Calls Tryz.prog 36 #[kyV 1 n, .string s] w fun e w' => e = .returned Wr.no.v ∧ Below w.heap.size w w' := by
  have HG := Lib.hid hg
  have HP := Lib.hid hp
  have HA := Lib.hid ((Below.refl w.heap.size w).alloc (Nat.le_refl _) (.cells #[.int .i64 1, .string n] 23))
  have H1 := Lib.hid hw1
  have H2 := Lib.hid hw2
  clear hg hp hw1 hw2
  go_enter Tryz.func36, Tryz.ntmps36
  go_wp2_with fail
  refine (get_any 1 s b _ (HG.out.below HA.out) (by omega)).mono ?_
  intro e w2 hh
  rw [HP.out] at hh
  obtain ⟨⟨a3, c3, a6, c6, rfl, h3, h6, _, _⟩, hb⟩ := hh
  have hk0 := ((hb.cell (p := ⟨w.heap.size, 0, none⟩) (by simp)).trans (new_cell w #[.int .i64 1, .string n] 23 0)).trans rfl
  have hk1 := ((hb.cell (p := ⟨w.heap.size, 1, none⟩) (by simp)).trans (new_cell w #[.int .i64 1, .string n] 23 1)).trans rfl
  have hsz := hb.size
  simp only [World.size_alloc] at hsz
  have hlt : w.heap.size < w2.heap.size := by omega
  have HB := Lib.hid (HA.out.trans (hb.mono (by simp)))
  have H3 := Lib.hid h3
  have H6 := Lib.hid h6
  clear hb h3 h6
  go_wp2_with fail
  refine (looksOf_1 _).mono ?_
  rintro e w3 ⟨rfl, hw3⟩
  have L0 := lkAt_new w2 p a3 a6 c3 c6 68 69
  have B3 := (HB.out.alloc HB.out.size (.cells #[.string p.name, .int .u64 (p.port : Int), .string p.route, .slice a3 p.rules.length c3, .int .u64 (p.policy : Int), .string p.secret, .slice a6 p.addrs.length c6, .string p.key] 36)).alloc (by have := HB.out.size; simp; omega) (.cells #[.func (.func 68) #[] #[], .func (.func 69) #[] #[]] 104)
  rw [hw3] at L0 B3
  clear hw3 hk0 hk1 hlt hsz
  have HL := Lib.hid L0
  have HB3 := Lib.hid B3
  clear B3
  obtain ⟨p0, p1, p2, p3, p4, p5, p6, p7, q0, q1, lg, lf⟩ := L0
  rw [show (w2.alloc (.cells #[.string p.name, .int .u64 (p.port : Int), .string p.route, .slice a3 p.rules.length c3, .int .u64 (p.policy : Int), .string p.secret, .slice a6 p.addrs.length c6, .string p.key] 36)).heap.size = w2.heap.size + 1 by simp]
  go_wp2_with fail
  refine wp_loop_rounds 3 ?_
  rw [rounds_succ]
  go_wp2_with fail
  refine (port_any p a3 a6 c3 c6 _).mono ?_
  rintro e w4 ⟨rfl, hb⟩
  rw [H1.out]
  have HL4 := Lib.hid (HL.out.below hb)
  have HB4 := Lib.hid (HB3.out.trans (hb.mono HB3.out.size))
  clear hb p0 p1 p2 p3 p4 p5 p6 p7 q0 q1 lg lf
  obtain ⟨p0, p1, p2, p3, p4, p5, p6, p7, q0, q1, lg, lf⟩ := HL4.out
  rw [show Wr.no.v = .nilIface from rfl]
  go_wp2_with fail
  rw [rounds_succ]
  go_wp2_with fail
  refine (route_any p a3 a6 c3 c6 _).mono ?_
  rintro e w5 ⟨rfl, hb⟩
  rw [H2.out]
  have HB5 := Lib.hid (HB4.out.trans (hb.mono HB4.out.size))
  clear hb p0 p1 p2 p3 p4 p5 p6 p7 q0 q1 lg lf
  rw [show Wr.no.v = .nilIface from rfl]
  go_wp2_with fail
  rw [rounds_succ]
  go_wp2_with fail
  go_ret
  exact ⟨rfl, HB5.out⟩
end Go.Proofs.YtngceccpebdgmaaGreatDoor
