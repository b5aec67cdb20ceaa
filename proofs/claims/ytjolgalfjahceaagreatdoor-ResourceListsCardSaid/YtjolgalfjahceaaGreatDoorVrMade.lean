/- resource: made. -/
import Derived.Test.YtjolgalfjahceaaGreatDoorVrIdx
namespace Go.Proofs.YtjolgalfjahceaaGreatDoor
open Go.RowKit

theorem lastCells_lastF (num : Int) (fs : List Fd) : lastCells (withL num fs) = #[.int .i64 ((lastF num fs).num : Int), .int .i64 ((lastF num fs).kind : Int), .int .u64 ((lastF num fs).n : Int), .string ⟨(lastF num fs).s.toArray⟩] := by
  unfold lastCells lastF
  cases (withL num fs).getLast? <;> rfl
theorem Tryz.fieldF2 (a b c d : Value) (w : World) : (Instr.field 62 (.agg #[a, b, c, d]) 2).run Tryz.prog w = .ok c w := by kernel_rfl
theorem Tryz.fieldF3 (a b c d : Value) (w : World) : (Instr.field 62 (.agg #[a, b, c, d]) 3).run Tryz.prog w = .ok d w := by kernel_rfl
abbrev fV (f : Fd) : Value := .agg #[.int .i64 (f.num : Int), .int .i64 (f.kind : Int), .int .u64 (f.n : Int), .string ⟨f.s.toArray⟩]
theorem last_f (a0 : Option Addr) (L cap g : Nat) (fs : List Fd) (num : Int) (f : Fd) (o : Bool) (w : World) (hf : lastF num fs = f) (ho : (!(withL num fs).isEmpty) = o) (hL : fs.length = L) (ha : 0 < L → a0 = some ⟨g, 0, none⟩) (hr : RowAt w g fs) (hLb : L ≤ 1099511627776) :
    Calls Tryz.prog 53 #[.slice a0 L cap, .int .i64 num] w fun e w' => e = .returned (.tuple #[fV f, .bool o]) ∧ Below w.heap.size w w' := by
  have h := callsIn_wide.1 (last0_in g cap L a0 ha num fs hL hLb w hr)
  rw [lastCells_lastF, ho, hf] at h
  exact h
set_option maxRecDepth 100000 in
set_option maxHeartbeats 1000000 in
/-- The closure of made: the last of a number. -/
theorem made1_any (B : Nat) (a0 : Option Addr) (L cap g : Nat) (fs : List Fd) (num : Int) (f : Fd) (w : World) (hf : lastF num fs = f) (hB : w.cell? ⟨B, 0, none⟩ = some (.slice a0 L cap)) (hL : fs.length = L) (ha : 0 < L → a0 = some ⟨g, 0, none⟩) (hr : RowAt w g fs) (hLb : L ≤ 1099511627776) :
    Calls Tryz.prog 52 #[.int .i64 num, .pointer (some ⟨B, 0, none⟩)] w fun e w' => e = .returned (fV f) ∧ Below w.heap.size w w' := by
  have hb0 : Below w.heap.size w (w.alloc (.cells #[.int .i64 0, .int .i64 0, .int .u64 0, .string ⟨#[]⟩] 62)) := (Below.refl _ _).alloc (Nat.le_refl _) _
  have HC := Lib.hid (fun o ho => last_f a0 L cap g fs num f o _ hf ho hL ha (hr.below hb0) hLb)
  obtain ⟨o, ho⟩ : ∃ o, (!(withL num fs).isEmpty) = o := ⟨_, rfl⟩
  have HO := Lib.hid ho; clear ho
  have hBl : B < w.heap.size := World.block_lt_of_cell? w _ hB
  have hq0 : Blk (w.alloc (.cells #[.int .i64 0, .int .i64 0, .int .u64 0, .string ⟨#[]⟩] 62)) w.heap.size #[.int .i64 0, .int .i64 0, .int .u64 0, .string ⟨#[]⟩] 62 := Blk.new _ _ _
  have HB0 := Lib.hid (And.intro hb0 hq0); clear hb0 hq0 hf hL ha hr
  go_enter Tryz.func52, Tryz.ntmps52
  go_wp2_with fail
  refine (HC.out o HO.out).mono ?_
  rintro e w1 ⟨rfl, hb1⟩
  have q1 := HB0.out.2.below hb1 HB0.out.2.lt
  have c0 : w1.cell? ⟨w.heap.size, 0, none⟩ = some (.int .i64 0) := q1.cell 0
  have c1 : w1.cell? ⟨w.heap.size, 1, none⟩ = some (.int .i64 0) := q1.cell 1
  have c2 : w1.cell? ⟨w.heap.size, 2, none⟩ = some (.int .u64 0) := q1.cell 2
  have c3 : w1.cell? ⟨w.heap.size, 3, none⟩ = some (.string ⟨#[]⟩) := q1.cell 3
  have f0 := q1.frozen 0
  have f1 := q1.frozen 1
  have f2 := q1.frozen 2
  have f3 := q1.frozen 3
  have hlt1 := q1.lt
  have hbb : Below w.heap.size w w1 := HB0.out.1.trans (hb1.mono HB0.out.1.size)
  clear hb1
  go_wp2_with fail
  have q5 := ((((q1.set 0 (.int .i64 (f.num : Int))).set 1 (.int .i64 (f.kind : Int))).set 2 (.int .u64 (f.n : Int))).set 3 (.string ⟨f.s.toArray⟩)).alloc (.cells #[.int .i64 (f.num : Int), .int .i64 (f.kind : Int), .int .u64 (f.n : Int), .string ⟨f.s.toArray⟩] 62)
  have z0 := q5.cell 0
  have z1 := q5.cell 1
  have z2 := q5.cell 2
  have z3 := q5.cell 3
  simp only [List.setIfInBounds_toArray, List.set_cons_zero, List.set_cons_succ, List.getElem?_toArray, List.getElem?_cons_zero, List.getElem?_cons_succ] at z0 z1 z2 z3
  have hb4 := (((hbb.setCell (p := ⟨w.heap.size, 0, none⟩) (Nat.le_refl _) (.int .i64 (f.num : Int))).setCell (p := ⟨w.heap.size, 1, none⟩) (Nat.le_refl _) (.int .i64 (f.kind : Int))).setCell (p := ⟨w.heap.size, 2, none⟩) (Nat.le_refl _) (.int .u64 (f.n : Int))).setCell (p := ⟨w.heap.size, 3, none⟩) (Nat.le_refl _) (.string ⟨f.s.toArray⟩)
  refine bodyPost_ret (v := fV f) (by simp [results, Tryz.results52, go_sem, z0, z1, z2, z3]) rfl ⟨rfl, hb4.alloc hb4.size _⟩

set_option maxRecDepth 100000 in
set_option maxHeartbeats 2000000 in
theorem made_no (a0 : Option Addr) (L cap g : Nat) (fs : List Fd) (w : World) (hL : fs.length = L) (ha : 0 < L → a0 = some ⟨g, 0, none⟩) (hr : RowAt w g fs) (hLb : L ≤ 1099511627776) (hmk : madeOk fs = false) :
    Calls Tryz.prog 37 #[.slice a0 L cap] w fun e w' => e = .returned (.tuple #[.agg #[.int .i64 0, .string ⟨#[]⟩, .int .u64 0, .bool false, .string ⟨#[]⟩], .bool false]) ∧ Below w.heap.size w w' := by
  obtain ⟨f1, h1⟩ : ∃ f, lastF 1 fs = f := ⟨_, rfl⟩
  obtain ⟨f2, h2⟩ : ∃ f, lastF 2 fs = f := ⟨_, rfl⟩
  obtain ⟨f3, h3⟩ : ∃ f, lastF 3 fs = f := ⟨_, rfl⟩
  obtain ⟨f4, h4⟩ : ∃ f, lastF 4 fs = f := ⟨_, rfl⟩
  obtain ⟨f5, h5⟩ : ∃ f, lastF 5 fs = f := ⟨_, rfl⟩
  have hv : madeV fs = ⟨(f1.n : Int), ⟨f2.s.toArray⟩, f3.n, decide (f4.n = 1), ⟨f5.s.toArray⟩⟩ := by unfold madeV; rw [h1, h2, h3, h4, h5]
  have hmk2 : (!(decide (5 < f1.n)) && !(decide (1 < f4.n))) = false := by rw [← hmk]; unfold madeOk; rw [h1, h4]
  clear hmk
  have hb0 : Below w.heap.size w ((w.alloc (.cells #[.slice a0 L cap] 57)).alloc (.cells #[.int .i64 0, .string ⟨#[]⟩, .int .u64 0, .bool false, .string ⟨#[]⟩] 27)) := ((Below.refl _ _).alloc (Nat.le_refl _) _).alloc (by simp) _
  obtain ⟨w0, hw0⟩ : ∃ w0, (w.alloc (.cells #[.slice a0 L cap] 57)).alloc (.cells #[.int .i64 0, .string ⟨#[]⟩, .int .u64 0, .bool false, .string ⟨#[]⟩] 27) = w0 := ⟨_, rfl⟩
  have hB : Blk w0 w.heap.size #[.slice a0 L cap] 57 := by rw [← hw0]; exact (Blk.new w _ _).alloc _
  have hR : Blk w0 (w.heap.size + 1) #[.int .i64 0, .string ⟨#[]⟩, .int .u64 0, .bool false, .string ⟨#[]⟩] 27 := by
    rw [← hw0]
    have := Blk.new (w.alloc (.cells #[.slice a0 L cap] 57)) #[.int .i64 0, .string ⟨#[]⟩, .int .u64 0, .bool false, .string ⟨#[]⟩] 27
    simpa using this
  rw [hw0] at hb0
  have hr0 := hr.below hb0
  have call : ∀ (num : Int) (f : Fd) (wx : World), lastF num fs = f → Below w0.heap.size w0 wx → Calls Tryz.prog 52 #[.int .i64 num, .pointer (some ⟨w.heap.size, 0, none⟩)] wx fun e w' => e = .returned (.agg #[.int .i64 (f.num : Int), .int .i64 (f.kind : Int), .int .u64 (f.n : Int), .string ⟨f.s.toArray⟩]) ∧ Below wx.heap.size wx w' := fun num f wx hf hb =>
    made1_any w.heap.size a0 L cap g fs num f wx hf ((hB.below hb hB.lt).cell 0) hL ha (hr0.below hb) hLb
  have fl2 := Tryz.fieldF2
  have fl3 := Tryz.fieldF3
  have HC := Lib.hid (And.intro h1 (And.intro h2 (And.intro h3 (And.intro h4 (And.intro h5 (And.intro hw0 (And.intro hB (And.intro hR (And.intro hb0 call))))))))); clear h1 h2 h3 h4 h5 hw0 hB hR hb0 call hr hr0 hL ha
  have HV := Lib.hid hv; clear hv
  have hbad : 5 < f1.n ∨ (f1.n ≤ 5 ∧ 1 < f4.n) := by
    by_cases h : 5 < f1.n
    · exact .inl h
    · by_cases h' : 1 < f4.n
      · exact .inr ⟨by omega, h'⟩
      · simp [h, h'] at hmk2
  clear hmk2
  go_enter Tryz.func37, Tryz.ntmps37
  go_wp2_with fail
  rw [HC.out.2.2.2.2.2.1]
  refine (HC.out.2.2.2.2.2.2.2.2.2 1 f1 w0 HC.out.1 (Below.refl _ _)).mono ?_
  rintro e w1 ⟨rfl, hb1⟩
  go_wp2_with fail
  refine (HC.out.2.2.2.2.2.2.2.2.2 4 f4 w1 HC.out.2.2.2.1 hb1).mono ?_
  rintro e w2 ⟨rfl, hb2⟩
  have hb2' := hb1.trans (hb2.mono hb1.size)
  clear hb1 hb2
  have q2 := HC.out.2.2.2.2.2.2.2.1.below hb2' HC.out.2.2.2.2.2.2.2.1.lt
  have k0 : w2.cell? ⟨w.heap.size + 1, 0, none⟩ = some (.int .i64 0) := q2.cell 0
  have m0 := q2.frozen 0
  have k1 : w2.cell? ⟨w.heap.size + 1, 1, none⟩ = some (.string ⟨#[]⟩) := q2.cell 1
  have m1 := q2.frozen 1
  have k2 : w2.cell? ⟨w.heap.size + 1, 2, none⟩ = some (.int .u64 0) := q2.cell 2
  have m2 := q2.frozen 2
  have k3 : w2.cell? ⟨w.heap.size + 1, 3, none⟩ = some (.bool false) := q2.cell 3
  have m3 := q2.frozen 3
  have k4 : w2.cell? ⟨w.heap.size + 1, 4, none⟩ = some (.string ⟨#[]⟩) := q2.cell 4
  have m4 := q2.frozen 4
  have hbw : Below w.heap.size w w2 := HC.out.2.2.2.2.2.2.2.2.1.trans (hb2'.mono HC.out.2.2.2.2.2.2.2.2.1.size)
  rcases hbad with h15 | ⟨h15, h41⟩
  · have h15' : (5 : Int) < (f1.n : Int) := by omega
    go_wp2_with fail
    exact bodyPost_ret (v := .tuple #[.agg #[.int .i64 0, .string ⟨#[]⟩, .int .u64 0, .bool false, .string ⟨#[]⟩], .bool false]) (by simp [results, Tryz.results37, go_sem, k0, k1, k2, k3, k4]) rfl ⟨rfl, (((((hbw.setCell (p := ⟨w.heap.size + 1, 0, none⟩) (Nat.le_succ _) (.int .i64 0)).setCell (p := ⟨w.heap.size + 1, 1, none⟩) (Nat.le_succ _) (.string ⟨#[]⟩)).setCell (p := ⟨w.heap.size + 1, 2, none⟩) (Nat.le_succ _) (.int .u64 0)).setCell (p := ⟨w.heap.size + 1, 3, none⟩) (Nat.le_succ _) (.bool false)).setCell (p := ⟨w.heap.size + 1, 4, none⟩) (Nat.le_succ _) (.string ⟨#[]⟩))⟩
  · have h15' : ¬ (5 : Int) < (f1.n : Int) := by omega
    have h41' : (1 : Int) < (f4.n : Int) := by omega
    go_wp2_with fail
    exact bodyPost_ret (v := .tuple #[.agg #[.int .i64 0, .string ⟨#[]⟩, .int .u64 0, .bool false, .string ⟨#[]⟩], .bool false]) (by simp [results, Tryz.results37, go_sem, k0, k1, k2, k3, k4]) rfl ⟨rfl, (((((hbw.setCell (p := ⟨w.heap.size + 1, 0, none⟩) (Nat.le_succ _) (.int .i64 0)).setCell (p := ⟨w.heap.size + 1, 1, none⟩) (Nat.le_succ _) (.string ⟨#[]⟩)).setCell (p := ⟨w.heap.size + 1, 2, none⟩) (Nat.le_succ _) (.int .u64 0)).setCell (p := ⟨w.heap.size + 1, 3, none⟩) (Nat.le_succ _) (.bool false)).setCell (p := ⟨w.heap.size + 1, 4, none⟩) (Nat.le_succ _) (.string ⟨#[]⟩))⟩

set_option maxRecDepth 100000 in
set_option maxHeartbeats 2000000 in
theorem made_yes (a0 : Option Addr) (L cap g : Nat) (fs : List Fd) (w : World) (hL : fs.length = L) (ha : 0 < L → a0 = some ⟨g, 0, none⟩) (hr : RowAt w g fs) (hLb : L ≤ 1099511627776) (hmk : madeOk fs = true) :
    Calls Tryz.prog 37 #[.slice a0 L cap] w fun e w' => e = .returned (.tuple #[(madeV fs).v, .bool true]) ∧ Below w.heap.size w w' := by
  obtain ⟨f1, h1⟩ : ∃ f, lastF 1 fs = f := ⟨_, rfl⟩
  obtain ⟨f2, h2⟩ : ∃ f, lastF 2 fs = f := ⟨_, rfl⟩
  obtain ⟨f3, h3⟩ : ∃ f, lastF 3 fs = f := ⟨_, rfl⟩
  obtain ⟨f4, h4⟩ : ∃ f, lastF 4 fs = f := ⟨_, rfl⟩
  obtain ⟨f5, h5⟩ : ∃ f, lastF 5 fs = f := ⟨_, rfl⟩
  have hv : madeV fs = ⟨(f1.n : Int), ⟨f2.s.toArray⟩, f3.n, decide (f4.n = 1), ⟨f5.s.toArray⟩⟩ := by unfold madeV; rw [h1, h2, h3, h4, h5]
  have hmk2 : (!(decide (5 < f1.n)) && !(decide (1 < f4.n))) = true := by rw [← hmk]; unfold madeOk; rw [h1, h4]
  clear hmk
  have hb0 : Below w.heap.size w ((w.alloc (.cells #[.slice a0 L cap] 57)).alloc (.cells #[.int .i64 0, .string ⟨#[]⟩, .int .u64 0, .bool false, .string ⟨#[]⟩] 27)) := ((Below.refl _ _).alloc (Nat.le_refl _) _).alloc (by simp) _
  obtain ⟨w0, hw0⟩ : ∃ w0, (w.alloc (.cells #[.slice a0 L cap] 57)).alloc (.cells #[.int .i64 0, .string ⟨#[]⟩, .int .u64 0, .bool false, .string ⟨#[]⟩] 27) = w0 := ⟨_, rfl⟩
  have hB : Blk w0 w.heap.size #[.slice a0 L cap] 57 := by rw [← hw0]; exact (Blk.new w _ _).alloc _
  have hR : Blk w0 (w.heap.size + 1) #[.int .i64 0, .string ⟨#[]⟩, .int .u64 0, .bool false, .string ⟨#[]⟩] 27 := by
    rw [← hw0]
    have := Blk.new (w.alloc (.cells #[.slice a0 L cap] 57)) #[.int .i64 0, .string ⟨#[]⟩, .int .u64 0, .bool false, .string ⟨#[]⟩] 27
    simpa using this
  rw [hw0] at hb0
  have hr0 := hr.below hb0
  have call : ∀ (num : Int) (f : Fd) (wx : World), lastF num fs = f → Below w0.heap.size w0 wx → Calls Tryz.prog 52 #[.int .i64 num, .pointer (some ⟨w.heap.size, 0, none⟩)] wx fun e w' => e = .returned (.agg #[.int .i64 (f.num : Int), .int .i64 (f.kind : Int), .int .u64 (f.n : Int), .string ⟨f.s.toArray⟩]) ∧ Below wx.heap.size wx w' := fun num f wx hf hb =>
    made1_any w.heap.size a0 L cap g fs num f wx hf ((hB.below hb hB.lt).cell 0) hL ha (hr0.below hb) hLb
  have fl2 := Tryz.fieldF2
  have fl3 := Tryz.fieldF3
  have HC := Lib.hid (And.intro h1 (And.intro h2 (And.intro h3 (And.intro h4 (And.intro h5 (And.intro hw0 (And.intro hB (And.intro hR (And.intro hb0 call))))))))); clear h1 h2 h3 h4 h5 hw0 hB hR hb0 call hr hr0 hL ha
  have HV := Lib.hid hv; clear hv
  have h15 : f1.n ≤ 5 := by
    by_cases h : 5 < f1.n
    · simp [h] at hmk2
    · omega
  have h41 : f4.n ≤ 1 := by
    by_cases h : 1 < f4.n
    · simp [h] at hmk2
    · omega
  clear hmk2
  have h15' : ¬ (5 : Int) < (f1.n : Int) := by omega
  have h41' : ¬ (1 : Int) < (f4.n : Int) := by omega
  obtain ⟨G, hG⟩ : ∃ G, decide (f4.n = 1) = G := ⟨_, rfl⟩
  have hG2 : ((f4.n : Int) == 1) = G := by rw [← hG]; by_cases h : f4.n = 1 <;> simp [h]; omega
  have HG := Lib.hid hG; clear hG
  rw [HV.out, HG.out]
  go_enter Tryz.func37, Tryz.ntmps37
  go_wp2_with fail
  rw [HC.out.2.2.2.2.2.1]
  refine (HC.out.2.2.2.2.2.2.2.2.2 1 f1 w0 HC.out.1 (Below.refl _ _)).mono ?_
  rintro e w1 ⟨rfl, hb1⟩
  go_wp2_with fail
  refine (HC.out.2.2.2.2.2.2.2.2.2 4 f4 w1 HC.out.2.2.2.1 hb1).mono ?_
  rintro e w2 ⟨rfl, hb2⟩
  have hb2' := hb1.trans (hb2.mono hb1.size)
  clear hb1 hb2
  go_wp2_with fail
  refine (HC.out.2.2.2.2.2.2.2.2.2 2 f2 w2 HC.out.2.1 hb2').mono ?_
  rintro e w3 ⟨rfl, hb3⟩
  have hb3' := hb2'.trans (hb3.mono hb2'.size)
  clear hb3 hb2'
  go_wp2_with fail
  refine (HC.out.2.2.2.2.2.2.2.2.2 3 f3 w3 HC.out.2.2.1 hb3').mono ?_
  rintro e w4 ⟨rfl, hb4⟩
  have hb4' := hb3'.trans (hb4.mono hb3'.size)
  clear hb4 hb3'
  go_wp2_with fail
  refine (HC.out.2.2.2.2.2.2.2.2.2 5 f5 w4 HC.out.2.2.2.2.1 hb4').mono ?_
  rintro e w5 ⟨rfl, hb5⟩
  have hb5' := hb4'.trans (hb5.mono hb4'.size)
  clear hb5 hb4'
  have q5 := HC.out.2.2.2.2.2.2.2.1.below hb5' HC.out.2.2.2.2.2.2.2.1.lt
  have k0 : w5.cell? ⟨w.heap.size + 1, 0, none⟩ = some (.int .i64 0) := q5.cell 0
  have m0 := q5.frozen 0
  have k1 : w5.cell? ⟨w.heap.size + 1, 1, none⟩ = some (.string ⟨#[]⟩) := q5.cell 1
  have m1 := q5.frozen 1
  have k2 : w5.cell? ⟨w.heap.size + 1, 2, none⟩ = some (.int .u64 0) := q5.cell 2
  have m2 := q5.frozen 2
  have k3 : w5.cell? ⟨w.heap.size + 1, 3, none⟩ = some (.bool false) := q5.cell 3
  have m3 := q5.frozen 3
  have k4 : w5.cell? ⟨w.heap.size + 1, 4, none⟩ = some (.string ⟨#[]⟩) := q5.cell 4
  have m4 := q5.frozen 4
  have hbw : Below w.heap.size w w5 := HC.out.2.2.2.2.2.2.2.2.1.trans (hb5'.mono HC.out.2.2.2.2.2.2.2.2.1.size)
  go_wp2_with fail
  have q6 := (((((q5.set 0 (.int .i64 (f1.n : Int))).set 1 (.string ⟨f2.s.toArray⟩)).set 2 (.int .u64 (f3.n : Int))).set 3 (.bool G)).set 4 (.string ⟨f5.s.toArray⟩))
  have z0 := q6.cell 0
  have z1 := q6.cell 1
  have z2 := q6.cell 2
  have z3 := q6.cell 3
  have z4 := q6.cell 4
  simp only [List.setIfInBounds_toArray, List.set_cons_zero, List.set_cons_succ, List.getElem?_toArray, List.getElem?_cons_zero, List.getElem?_cons_succ] at z0 z1 z2 z3 z4
  exact bodyPost_ret (v := .tuple #[.agg #[.int .i64 (f1.n : Int), .string ⟨f2.s.toArray⟩, .int .u64 (f3.n : Int), .bool G, .string ⟨f5.s.toArray⟩], .bool true]) (by simp [results, Tryz.results37, go_sem, z0, z1, z2, z3, z4]) rfl ⟨rfl, (((((hbw.setCell (p := ⟨w.heap.size + 1, 0, none⟩) (Nat.le_succ _) (.int .i64 (f1.n : Int))).setCell (p := ⟨w.heap.size + 1, 1, none⟩) (Nat.le_succ _) (.string ⟨f2.s.toArray⟩)).setCell (p := ⟨w.heap.size + 1, 2, none⟩) (Nat.le_succ _) (.int .u64 (f3.n : Int))).setCell (p := ⟨w.heap.size + 1, 3, none⟩) (Nat.le_succ _) (.bool G)).setCell (p := ⟨w.heap.size + 1, 4, none⟩) (Nat.le_succ _) (.string ⟨f5.s.toArray⟩))⟩
end Go.Proofs.YtjolgalfjahceaaGreatDoor
