/- payload: takeAll of a rule and of an address: the walks. -/
import Derived.Test.YtngceccpebdgmaaGreatDoorPlFds
import Derived.Test.YtngceccpebdgmaaGreatDoorPlSing
import Derived.Laws.EntriesVeiled
namespace Go.Proofs.YtngceccpebdgmaaGreatDoor
open Go.RowKit Go.Shelf

theorem below_up {w0 w : World} (h : Below w0.heap.size w0 w) (o : Obj) : Below w0.heap.size w0 (w.alloc o) := h.alloc h.size o
theorem three_new (w : World) (a b c : Obj) : (((w.alloc a).alloc b).alloc c).heap[w.heap.size]? = some a ∧ (((w.alloc a).alloc b).alloc c).heap[w.heap.size + 1]? = some b ∧ (((w.alloc a).alloc b).alloc c).heap[w.heap.size + 1 + 1]? = some c := by
  have h1 := World.alloc_heap_new w a
  have h2 := World.alloc_heap_new (w.alloc a) b
  have h3 := World.alloc_heap_new ((w.alloc a).alloc b) c
  rw [World.size_alloc] at h2
  rw [World.size_alloc, World.size_alloc] at h3
  refine ⟨?_, ?_, h3⟩
  · rw [Below.heap_alloc _ _ _ (by rw [World.size_alloc, World.size_alloc]; omega), Below.heap_alloc _ _ _ (by rw [World.size_alloc]; omega)]; exact h1
  · rw [Below.heap_alloc _ _ _ (by rw [World.size_alloc, World.size_alloc]; omega)]; exact h2
def RRule (B : Nat) (w : World) (r : Rl) : Prop := Blk w B #[.string r.pre, .string r.clu] 42
def RAddr (B : Nat) (w : World) (a : Ad) : Prop := Blk w B #[.string a.host, .int .u64 (a.port : Int), .int .u64 (a.wt : Int)] 44
theorem keeps_Rule (B : Nat) : Keeps (RRule B) := fun _ _ _ h hb => Blk.below h hb (Blk.lt h)
theorem keeps_Addr (B : Nat) : Keeps (RAddr B) := fun _ _ _ h hb => Blk.below h hb (Blk.lt h)
theorem takesRule_0 {w0 : World} {x : PartV} {base B : Nat} (hx : SingleAt w0 x 1 2 160 161 117 107 144) (hB : w0.heap.size ≤ B) : x.num = 0+1 ∧ x.kind = rlKind 0 ∧ TakesAs w0.heap.size base B (RRule B) w0 x (Rl.take 0) := by
  obtain ⟨bo, bp, bn, bv, rfl, a, b1, c, d⟩ := hx
  refine ⟨rfl, rfl, enters_of Tryz.func161 (by kernel_rfl) rfl, fun W s f hW hbase hR _ _ _ => ?_⟩
  have hbo := a.1
  have hbv := d.1
  refine (takeRule_0 B bv bo _ f W hR rfl (d.below hW) (a.below hW) (by omega) (by omega)).mono ?_
  rintro e w' ⟨rfl, hb, hg⟩
  exact ⟨BelowBut.grown hg hbase, rfl, hb⟩
theorem takesRule_1 {w0 : World} {x : PartV} {base B : Nat} (hx : SingleAt w0 x 2 2 160 161 118 107 144) (hB : w0.heap.size ≤ B) : x.num = 1+1 ∧ x.kind = rlKind 1 ∧ TakesAs w0.heap.size base B (RRule B) w0 x (Rl.take 1) := by
  obtain ⟨bo, bp, bn, bv, rfl, a, b1, c, d⟩ := hx
  refine ⟨rfl, rfl, enters_of Tryz.func161 (by kernel_rfl) rfl, fun W s f hW hbase hR _ _ _ => ?_⟩
  have hbo := a.1
  have hbv := d.1
  refine (takeRule_1 B bv bo _ f W hR rfl (d.below hW) (a.below hW) (by omega) (by omega)).mono ?_
  rintro e w' ⟨rfl, hb, hg⟩
  exact ⟨BelowBut.grown hg hbase, rfl, hb⟩
theorem takesAddr_0 {w0 : World} {x : PartV} {base B : Nat} (hx : SingleAt w0 x 1 2 162 163 124 107 147) (hB : w0.heap.size ≤ B) : x.num = 0+1 ∧ x.kind = adKind 0 ∧ TakesAs w0.heap.size base B (RAddr B) w0 x (Ad.take 0) := by
  obtain ⟨bo, bp, bn, bv, rfl, a, b1, c, d⟩ := hx
  refine ⟨rfl, rfl, enters_of Tryz.func163 (by kernel_rfl) rfl, fun W s f hW hbase hR _ _ _ => ?_⟩
  have hbo := a.1
  have hbv := d.1
  refine (takeAddr_0 B bv bo _ f W hR rfl (d.below hW) (a.below hW) (by omega) (by omega)).mono ?_
  rintro e w' ⟨rfl, hb, hg⟩
  exact ⟨BelowBut.grown hg hbase, rfl, hb⟩
theorem takesAddr_1 {w0 : World} {x : PartV} {base B : Nat} (hx : SingleAt w0 x 2 0 164 165 126 110 149) (hB : w0.heap.size ≤ B) : x.num = 1+1 ∧ x.kind = adKind 1 ∧ TakesAs w0.heap.size base B (RAddr B) w0 x (Ad.take 1) := by
  obtain ⟨bo, bp, bn, bv, rfl, a, b1, c, d⟩ := hx
  refine ⟨rfl, rfl, enters_of Tryz.func165 (by kernel_rfl) rfl, fun W s f hW hbase hR _ _ _ => ?_⟩
  have hbo := a.1
  have hbv := d.1
  refine (takeAddr_1 B bv bo _ f W hR rfl (d.below hW) (a.below hW) (by omega) (by omega)).mono ?_
  rintro e w' ⟨rfl, hb, hg⟩
  exact ⟨BelowBut.grown hg hbase, rfl, hb⟩
theorem takesAddr_2 {w0 : World} {x : PartV} {base B : Nat} (hx : SingleAt w0 x 3 0 164 165 127 110 149) (hB : w0.heap.size ≤ B) : x.num = 2+1 ∧ x.kind = adKind 2 ∧ TakesAs w0.heap.size base B (RAddr B) w0 x (Ad.take 2) := by
  obtain ⟨bo, bp, bn, bv, rfl, a, b1, c, d⟩ := hx
  refine ⟨rfl, rfl, enters_of Tryz.func165 (by kernel_rfl) rfl, fun W s f hW hbase hR _ _ _ => ?_⟩
  have hbo := a.1
  have hbv := d.1
  refine (takeAddr_2 B bv bo _ f W hR rfl (d.below hW) (a.below hW) (by omega) (by omega)).mono ?_
  rintro e w' ⟨rfl, hb, hg⟩
  exact ⟨BelowBut.grown hg hbase, rfl, hb⟩
theorem rule_takes {w0 : World} {g base B : Nat} (hx : RuleParts w0 g) (hB : w0.heap.size ≤ B) : ∃ xs, xs.length = 2 ∧ PartsAt w0 g xs ∧ TakeParts w0.heap.size base B (RRule B) w0 rlKind Rl.take [0, 1] xs := by
  obtain ⟨x0, x1, hp, h0, h1⟩ := hx
  refine ⟨[x0, x1], rfl, hp, rfl, fun j i x hi hx => ?_⟩
  match j with
  | 0 => simp at hi hx; subst hi; subst hx; exact takesRule_0 h0 hB
  | 1 => simp at hi hx; subst hi; subst hx; exact takesRule_1 h1 hB
  | j + 2 => simp at hi
theorem addr_takes {w0 : World} {g base B : Nat} (hx : AddrParts w0 g) (hB : w0.heap.size ≤ B) : ∃ xs, xs.length = 3 ∧ PartsAt w0 g xs ∧ TakeParts w0.heap.size base B (RAddr B) w0 adKind Ad.take [0, 1, 2] xs := by
  obtain ⟨x0, x1, x2, hp, h0, h1, h2⟩ := hx
  refine ⟨[x0, x1, x2], rfl, hp, rfl, fun j i x hi hx => ?_⟩
  match j with
  | 0 => simp at hi hx; subst hi; subst hx; exact takesAddr_0 h0 hB
  | 1 => simp at hi hx; subst hi; subst hx; exact takesAddr_1 h1 hB
  | 2 => simp at hi hx; subst hi; subst hx; exact takesAddr_2 h2 hB
  | j + 3 => simp at hi

def RulePost (r : Option Rl) (w : World) (e : Ending) (w' : World) : Prop := (match r with
  | none => e = .returned (.tuple #[.agg #[.string ⟨#[]⟩, .string ⟨#[]⟩], .bool false])
  | some r => e = .returned (.tuple #[.agg #[.string r.pre, .string r.clu], .bool true])) ∧ Below w.heap.size w w'
set_option maxRecDepth 100000 in
set_option maxHeartbeats 2000000 in
theorem takeAllRule_any (g cap : Nat) (s : ByteArray) (b : Addr) (w : World) (hg : Gv b w) (hx : RuleParts w g) (hs : s.size ≤ 1099511627776) :
    Calls Tryz.prog 115 #[.slice (some ⟨g, 0, none⟩) 2 cap, .string s] w (RulePost (Rl.get s.data.toList) w) := by
  have HG := Lib.hid hg
  have HX := Lib.hid hx
  have HSZ := Lib.hid hs
  clear hg hx hs
  go_enter Tryz.func115, Tryz.ntmps115
  go_wp2_with fail
  have up := below_up (below_up (below_f w (.cells #[.string ⟨#[]⟩, .string ⟨#[]⟩] 42)) (.cells #[.string ⟨#[]⟩, .string ⟨#[]⟩] 42)) (.cells #[.string ⟨#[]⟩, .string ⟨#[]⟩] 42)
  obtain ⟨k0, k1, k2⟩ := three_new w (.cells #[.string ⟨#[]⟩, .string ⟨#[]⟩] 42) (.cells #[.string ⟨#[]⟩, .string ⟨#[]⟩] 42) (.cells #[.string ⟨#[]⟩, .string ⟨#[]⟩] 42)
  have HUP := Lib.hid up
  have HK0 := Lib.hid k0
  have HK1 := Lib.hid k1
  have HK2 := Lib.hid k2
  clear up k0 k1 k2
  cases hpar : parse s.data.toList with
  | none =>
    have HPN := Lib.hid hpar
    have HPA := Lib.hid (parse_any s b _ HSZ.out (HG.out.below HUP.out))
    rw [hpar] at HPA
    clear hpar
    refine HPA.out.mono ?_
    rintro e w3 ⟨rfl, hb3⟩
    have m0 := (hb3.block _ (by simp; omega)).trans HK0.out
    have m2 := (hb3.block _ (by simp)).trans HK2.out
    have r0 := (Lib.cell_of_heap m0 0).trans rfl
    have rf0 := Lib.frozen_of_heap m0 0
    have r1 := (Lib.cell_of_heap m0 1).trans rfl
    have rf1 := Lib.frozen_of_heap m0 1
    have z0 := (Lib.cell_of_heap m2 0).trans rfl
    have zf0 := Lib.frozen_of_heap m2 0
    have z1 := (Lib.cell_of_heap m2 1).trans rfl
    have zf1 := Lib.frozen_of_heap m2 1
    have hz3 : w.heap.size + 1 + 1 < w3.heap.size := by have := hb3.size; simp at this; omega
    have HB3 := Lib.hid (HUP.out.trans (hb3.mono (by simp; omega)))
    clear m0 m2 hb3
    go_wp2
    refine bodyPost_ret (v := .tuple #[.agg #[.string ⟨#[]⟩, .string ⟨#[]⟩], .bool false]) (by simp [results, Tryz.results115, go_sem, r0, r1]) rfl ⟨?_, ?_⟩
    · rw [show Rl.get s.data.toList = none from allOf_none HPN.out]
    · exact ((HB3.out.setCell (p := ⟨w.heap.size, 0, none⟩) (Nat.le_refl _) _).setCell (p := ⟨w.heap.size, 1, none⟩) (Nat.le_refl _) _)
  | some fs =>
    have HPS := Lib.hid hpar
    have HPA := Lib.hid (parse_any s b _ HSZ.out (HG.out.below HUP.out))
    rw [hpar] at HPA
    have HPF := Lib.hid (parse_facts _ (Nat.le_refl _) hpar)
    clear hpar
    refine HPA.out.mono ?_
    rintro e w3 ⟨⟨v, rfl, hrow⟩, hb3⟩
    obtain ⟨a, cl, rfl, hfa⟩ := fds_row hrow
    obtain ⟨L, hL⟩ : ∃ L, fs.length = L := ⟨_, rfl⟩
    rw [hL] at hfa ⊢
    have HL := Lib.hid hL
    have HFA := Lib.hid hfa
    have hLm : L ≤ 1099511627776 := by
      have h1 := parse_len _ (Nat.le_refl _) HPS.out
      have h2 := HSZ.out
      have h3 : s.data.toList.length = s.size := by simp
      omega
    have m0 := (hb3.block _ (by simp; omega)).trans HK0.out
    have m1 := (hb3.block _ (by simp)).trans HK1.out
    have m2 := (hb3.block _ (by simp)).trans HK2.out
    have hz3 : w.heap.size + 1 + 1 < w3.heap.size := by have := hb3.size; simp at this; omega
    have HB3 := Lib.hid (HUP.out.trans (hb3.mono (by simp; omega)))
    have HM0 := Lib.hid m0
    have HM1 := Lib.hid m1
    have HM2 := Lib.hid m2
    obtain ⟨xs, hxl, hpa, htp⟩ := rule_takes (base := w3.heap.size) (B := w.heap.size + 1) HX.out (by omega)
    have HXL := Lib.hid hxl
    have HXP := Lib.hid hpa
    have HTP := Lib.hid htp
    clear hrow hL hfa m0 m1 m2 hb3 hxl hpa htp
    go_wp2_with fail
    go_loopw [22] (fun i wr => ∃ (j : Nat) (r : Rl), j ≤ L ∧ i = .int .i64 j ∧ TRel Rl.one fs Rl.zero j r ∧ RRule (w.heap.size + 1) wr r ∧ BelowBut w3.heap.size (w.heap.size + 1) w3 wr) (fun i _ => L - (intOf i).toNat)
    case atStart => exact ⟨0, Rl.zero, Nat.zero_le _, rfl, rfl, HM1.out, BelowBut.refl _ _ _⟩
    case round =>
      obtain ⟨j, r, hj, rfl, htr, hr, hbb⟩ := hrel
      have hsz := hbb.size
      have HW := Lib.hid (HB3.out.trans (hbb.below (by omega) (by omega)))
      by_cases hlt : j < L
      · obtain ⟨f, hf⟩ : ∃ f, fs[j]? = some f := ⟨_, List.getElem?_eq_getElem (by have := HL.out; omega)⟩
        obtain ⟨g2, rfl, hg2, hfd⟩ := HFA.out (by omega)
        rw [World.size_alloc, World.size_alloc, World.size_alloc] at hg2
        obtain ⟨c0, c1, c2, c3⟩ := (hbb.fds hfd hfd.1 (by omega)).2 j f hf
        have HF := Lib.hid hf
        have HPR := Lib.hid (HPF.out f (List.mem_of_getElem? hf))
        have HTR := Lib.hid htr
        have HR := Lib.hid hr
        have HBB := Lib.hid hbb
        clear hf hfd htr hr hbb
        have b0 : (0 : Int) ≤ (j : Int) := by omega
        have b1 : (j : Int) < (L : Int) := by omega
        go_wp2_with fail
        refine (takeOneRule_any (RRule (w.heap.size + 1)) w.heap.size w3.heap.size (w.heap.size + 1) g cap 2 rlKind Rl.take [0, 1] xs r f w _ (keeps_Rule _) (HXP.out.below (HW.out.trans ((below_f wr _).mono (by omega))) HXP.out.1) HXL.out (by omega) HTP.out (HW.out.trans ((below_f wr _).mono (by omega))) (by rw [World.size_alloc]; omega) (by rw [World.size_alloc]; omega) (keeps_Rule _ _ _ _ HR.out (below_f wr _)) HPR.out.1 (by have h1 := HPR.out.2; have h2 := HSZ.out; have h3 : s.data.toList.length = s.size := (by simp); omega)).mono ?_
        intro e w5 hpost
        have HBP := Lib.hid (HBB.out.trans ((BelowBut.of (below_f wr _) (by omega)).trans hpost.1))
        have hsz5 := hpost.1.size
        rw [World.size_alloc] at hsz5
        cases ho : Rl.one r f with
        | none =>
          have hp2 := hpost.2
          rw [show oneOf rlKind Rl.take [0, 1] r f = none from ho] at hp2
          obtain rfl := hp2
          have HBAD := Lib.hid (HTR.out.bad HF.out ho)
          have m0 := (HBP.out.block _ (by omega) (by omega)).trans HM0.out
          have m2 := (HBP.out.block _ (by omega) (by omega)).trans HM2.out
          have r0 := (Lib.cell_of_heap m0 0).trans rfl
          have rf0 := Lib.frozen_of_heap m0 0
          have r1 := (Lib.cell_of_heap m0 1).trans rfl
          have rf1 := Lib.frozen_of_heap m0 1
          have z0 := (Lib.cell_of_heap m2 0).trans rfl
          have zf0 := Lib.frozen_of_heap m2 0
          have z1 := (Lib.cell_of_heap m2 1).trans rfl
          have zf1 := Lib.frozen_of_heap m2 1
          have HB5 := Lib.hid (HB3.out.trans (HBP.out.below (by omega) (by omega)))
          have hz5 : w.heap.size + 1 + 1 < w5.heap.size := by have := HBP.out.size; omega
          clear m0 m2 hpost ho
          go_wp2
          refine bodyPost_ret (v := .tuple #[.agg #[.string ⟨#[]⟩, .string ⟨#[]⟩], .bool false]) (by simp [results, Tryz.results115, go_sem, r0, r1]) rfl ⟨?_, ?_⟩
          · rw [show Rl.get s.data.toList = none from (allOf_some HPS.out).trans HBAD.out]
          · exact ((HB5.out.setCell (p := ⟨w.heap.size, 0, none⟩) (Nat.le_refl _) _).setCell (p := ⟨w.heap.size, 1, none⟩) (Nat.le_refl _) _)
        | some r' =>
          have hp2 := hpost.2
          rw [show oneOf rlKind Rl.take [0, 1] r f = some r' from ho] at hp2
          obtain ⟨rfl, hr5⟩ := hp2
          have HT5 := Lib.hid (HTR.out.step HF.out ho)
          have HR5 := Lib.hid hr5
          clear hpost ho hr5
          go_wp2_with fail
          go_roundw
          case rel => exact ⟨j + 1, r', by omega, by go_num, HT5.out, HR5.out, HBP.out⟩
          case measure => simp [intOf]; omega
      · obtain rfl : j = L := by omega
        have HDN := Lib.hid (htr.done (by have := HL.out; omega))
        have m0 := (hbb.block _ (by omega) (by omega)).trans HM0.out
        have m1 := hr
        unfold RRule Blk at m1
        have r0 := (Lib.cell_of_heap m0 0).trans rfl
        have rf0 := Lib.frozen_of_heap m0 0
        have r1 := (Lib.cell_of_heap m0 1).trans rfl
        have rf1 := Lib.frozen_of_heap m0 1
        have z0 := (Lib.cell_of_heap m1 0).trans rfl
        have zf0 := Lib.frozen_of_heap m1 0
        have z1 := (Lib.cell_of_heap m1 1).trans rfl
        have zf1 := Lib.frozen_of_heap m1 1
        clear m0 m1 htr hr hbb
        go_wp2
        refine bodyPost_ret (v := .tuple #[.agg #[.string r.pre, .string r.clu], .bool true]) (by simp [results, Tryz.results115, go_sem, r0, r1]) rfl ⟨?_, ?_⟩
        · rw [show Rl.get s.data.toList = some r from (allOf_some HPS.out).trans HDN.out]
        · exact ((HW.out.setCell (p := ⟨w.heap.size, 0, none⟩) (Nat.le_refl _) _).setCell (p := ⟨w.heap.size, 1, none⟩) (Nat.le_refl _) _)

def AddrPost (r : Option Ad) (w : World) (e : Ending) (w' : World) : Prop := (match r with
  | none => e = .returned (.tuple #[.agg #[.string ⟨#[]⟩, .int .u64 0, .int .u64 0], .bool false])
  | some r => e = .returned (.tuple #[.agg #[.string r.host, .int .u64 (r.port : Int), .int .u64 (r.wt : Int)], .bool true])) ∧ Below w.heap.size w w'
set_option maxRecDepth 100000 in
set_option maxHeartbeats 2000000 in
theorem takeAllAddr_any (g cap : Nat) (s : ByteArray) (b : Addr) (w : World) (hg : Gv b w) (hx : AddrParts w g) (hs : s.size ≤ 1099511627776) :
    Calls Tryz.prog 122 #[.slice (some ⟨g, 0, none⟩) 3 cap, .string s] w (AddrPost (Ad.get s.data.toList) w) := by
  have HG := Lib.hid hg
  have HX := Lib.hid hx
  have HSZ := Lib.hid hs
  clear hg hx hs
  go_enter Tryz.func122, Tryz.ntmps122
  go_wp2_with fail
  have up := below_up (below_up (below_f w (.cells #[.string ⟨#[]⟩, .int .u64 0, .int .u64 0] 44)) (.cells #[.string ⟨#[]⟩, .int .u64 0, .int .u64 0] 44)) (.cells #[.string ⟨#[]⟩, .int .u64 0, .int .u64 0] 44)
  obtain ⟨k0, k1, k2⟩ := three_new w (.cells #[.string ⟨#[]⟩, .int .u64 0, .int .u64 0] 44) (.cells #[.string ⟨#[]⟩, .int .u64 0, .int .u64 0] 44) (.cells #[.string ⟨#[]⟩, .int .u64 0, .int .u64 0] 44)
  have HUP := Lib.hid up
  have HK0 := Lib.hid k0
  have HK1 := Lib.hid k1
  have HK2 := Lib.hid k2
  clear up k0 k1 k2
  cases hpar : parse s.data.toList with
  | none =>
    have HPN := Lib.hid hpar
    have HPA := Lib.hid (parse_any s b _ HSZ.out (HG.out.below HUP.out))
    rw [hpar] at HPA
    clear hpar
    refine HPA.out.mono ?_
    rintro e w3 ⟨rfl, hb3⟩
    have m0 := (hb3.block _ (by simp; omega)).trans HK0.out
    have m2 := (hb3.block _ (by simp)).trans HK2.out
    have r0 := (Lib.cell_of_heap m0 0).trans rfl
    have rf0 := Lib.frozen_of_heap m0 0
    have r1 := (Lib.cell_of_heap m0 1).trans rfl
    have rf1 := Lib.frozen_of_heap m0 1
    have r2 := (Lib.cell_of_heap m0 2).trans rfl
    have rf2 := Lib.frozen_of_heap m0 2
    have z0 := (Lib.cell_of_heap m2 0).trans rfl
    have zf0 := Lib.frozen_of_heap m2 0
    have z1 := (Lib.cell_of_heap m2 1).trans rfl
    have zf1 := Lib.frozen_of_heap m2 1
    have z2 := (Lib.cell_of_heap m2 2).trans rfl
    have zf2 := Lib.frozen_of_heap m2 2
    have hz3 : w.heap.size + 1 + 1 < w3.heap.size := by have := hb3.size; simp at this; omega
    have HB3 := Lib.hid (HUP.out.trans (hb3.mono (by simp; omega)))
    clear m0 m2 hb3
    go_wp2
    refine bodyPost_ret (v := .tuple #[.agg #[.string ⟨#[]⟩, .int .u64 0, .int .u64 0], .bool false]) (by simp [results, Tryz.results122, go_sem, r0, r1, r2]) rfl ⟨?_, ?_⟩
    · rw [show Ad.get s.data.toList = none from allOf_none HPN.out]
    · exact (((HB3.out.setCell (p := ⟨w.heap.size, 0, none⟩) (Nat.le_refl _) _).setCell (p := ⟨w.heap.size, 1, none⟩) (Nat.le_refl _) _).setCell (p := ⟨w.heap.size, 2, none⟩) (Nat.le_refl _) _)
  | some fs =>
    have HPS := Lib.hid hpar
    have HPA := Lib.hid (parse_any s b _ HSZ.out (HG.out.below HUP.out))
    rw [hpar] at HPA
    have HPF := Lib.hid (parse_facts _ (Nat.le_refl _) hpar)
    clear hpar
    refine HPA.out.mono ?_
    rintro e w3 ⟨⟨v, rfl, hrow⟩, hb3⟩
    obtain ⟨a, cl, rfl, hfa⟩ := fds_row hrow
    obtain ⟨L, hL⟩ : ∃ L, fs.length = L := ⟨_, rfl⟩
    rw [hL] at hfa ⊢
    have HL := Lib.hid hL
    have HFA := Lib.hid hfa
    have hLm : L ≤ 1099511627776 := by
      have h1 := parse_len _ (Nat.le_refl _) HPS.out
      have h2 := HSZ.out
      have h3 : s.data.toList.length = s.size := by simp
      omega
    have m0 := (hb3.block _ (by simp; omega)).trans HK0.out
    have m1 := (hb3.block _ (by simp)).trans HK1.out
    have m2 := (hb3.block _ (by simp)).trans HK2.out
    have hz3 : w.heap.size + 1 + 1 < w3.heap.size := by have := hb3.size; simp at this; omega
    have HB3 := Lib.hid (HUP.out.trans (hb3.mono (by simp; omega)))
    have HM0 := Lib.hid m0
    have HM1 := Lib.hid m1
    have HM2 := Lib.hid m2
    obtain ⟨xs, hxl, hpa, htp⟩ := addr_takes (base := w3.heap.size) (B := w.heap.size + 1) HX.out (by omega)
    have HXL := Lib.hid hxl
    have HXP := Lib.hid hpa
    have HTP := Lib.hid htp
    clear hrow hL hfa m0 m1 m2 hb3 hxl hpa htp
    go_wp2_with fail
    go_loopw [22] (fun i wr => ∃ (j : Nat) (r : Ad), j ≤ L ∧ i = .int .i64 j ∧ TRel Ad.one fs Ad.zero j r ∧ RAddr (w.heap.size + 1) wr r ∧ BelowBut w3.heap.size (w.heap.size + 1) w3 wr) (fun i _ => L - (intOf i).toNat)
    case atStart => exact ⟨0, Ad.zero, Nat.zero_le _, rfl, rfl, HM1.out, BelowBut.refl _ _ _⟩
    case round =>
      obtain ⟨j, r, hj, rfl, htr, hr, hbb⟩ := hrel
      have hsz := hbb.size
      have HW := Lib.hid (HB3.out.trans (hbb.below (by omega) (by omega)))
      by_cases hlt : j < L
      · obtain ⟨f, hf⟩ : ∃ f, fs[j]? = some f := ⟨_, List.getElem?_eq_getElem (by have := HL.out; omega)⟩
        obtain ⟨g2, rfl, hg2, hfd⟩ := HFA.out (by omega)
        rw [World.size_alloc, World.size_alloc, World.size_alloc] at hg2
        obtain ⟨c0, c1, c2, c3⟩ := (hbb.fds hfd hfd.1 (by omega)).2 j f hf
        have HF := Lib.hid hf
        have HPR := Lib.hid (HPF.out f (List.mem_of_getElem? hf))
        have HTR := Lib.hid htr
        have HR := Lib.hid hr
        have HBB := Lib.hid hbb
        clear hf hfd htr hr hbb
        have b0 : (0 : Int) ≤ (j : Int) := by omega
        have b1 : (j : Int) < (L : Int) := by omega
        go_wp2_with fail
        refine (takeOneAddr_any (RAddr (w.heap.size + 1)) w.heap.size w3.heap.size (w.heap.size + 1) g cap 3 adKind Ad.take [0, 1, 2] xs r f w _ (keeps_Addr _) (HXP.out.below (HW.out.trans ((below_f wr _).mono (by omega))) HXP.out.1) HXL.out (by omega) HTP.out (HW.out.trans ((below_f wr _).mono (by omega))) (by rw [World.size_alloc]; omega) (by rw [World.size_alloc]; omega) (keeps_Addr _ _ _ _ HR.out (below_f wr _)) HPR.out.1 (by have h1 := HPR.out.2; have h2 := HSZ.out; have h3 : s.data.toList.length = s.size := (by simp); omega)).mono ?_
        intro e w5 hpost
        have HBP := Lib.hid (HBB.out.trans ((BelowBut.of (below_f wr _) (by omega)).trans hpost.1))
        have hsz5 := hpost.1.size
        rw [World.size_alloc] at hsz5
        cases ho : Ad.one r f with
        | none =>
          have hp2 := hpost.2
          rw [show oneOf adKind Ad.take [0, 1, 2] r f = none from ho] at hp2
          obtain rfl := hp2
          have HBAD := Lib.hid (HTR.out.bad HF.out ho)
          have m0 := (HBP.out.block _ (by omega) (by omega)).trans HM0.out
          have m2 := (HBP.out.block _ (by omega) (by omega)).trans HM2.out
          have r0 := (Lib.cell_of_heap m0 0).trans rfl
          have rf0 := Lib.frozen_of_heap m0 0
          have r1 := (Lib.cell_of_heap m0 1).trans rfl
          have rf1 := Lib.frozen_of_heap m0 1
          have r2 := (Lib.cell_of_heap m0 2).trans rfl
          have rf2 := Lib.frozen_of_heap m0 2
          have z0 := (Lib.cell_of_heap m2 0).trans rfl
          have zf0 := Lib.frozen_of_heap m2 0
          have z1 := (Lib.cell_of_heap m2 1).trans rfl
          have zf1 := Lib.frozen_of_heap m2 1
          have z2 := (Lib.cell_of_heap m2 2).trans rfl
          have zf2 := Lib.frozen_of_heap m2 2
          have HB5 := Lib.hid (HB3.out.trans (HBP.out.below (by omega) (by omega)))
          have hz5 : w.heap.size + 1 + 1 < w5.heap.size := by have := HBP.out.size; omega
          clear m0 m2 hpost ho
          go_wp2
          refine bodyPost_ret (v := .tuple #[.agg #[.string ⟨#[]⟩, .int .u64 0, .int .u64 0], .bool false]) (by simp [results, Tryz.results122, go_sem, r0, r1, r2]) rfl ⟨?_, ?_⟩
          · rw [show Ad.get s.data.toList = none from (allOf_some HPS.out).trans HBAD.out]
          · exact (((HB5.out.setCell (p := ⟨w.heap.size, 0, none⟩) (Nat.le_refl _) _).setCell (p := ⟨w.heap.size, 1, none⟩) (Nat.le_refl _) _).setCell (p := ⟨w.heap.size, 2, none⟩) (Nat.le_refl _) _)
        | some r' =>
          have hp2 := hpost.2
          rw [show oneOf adKind Ad.take [0, 1, 2] r f = some r' from ho] at hp2
          obtain ⟨rfl, hr5⟩ := hp2
          have HT5 := Lib.hid (HTR.out.step HF.out ho)
          have HR5 := Lib.hid hr5
          clear hpost ho hr5
          go_wp2_with fail
          go_roundw
          case rel => exact ⟨j + 1, r', by omega, by go_num, HT5.out, HR5.out, HBP.out⟩
          case measure => simp [intOf]; omega
      · obtain rfl : j = L := by omega
        have HDN := Lib.hid (htr.done (by have := HL.out; omega))
        have m0 := (hbb.block _ (by omega) (by omega)).trans HM0.out
        have m1 := hr
        unfold RAddr Blk at m1
        have r0 := (Lib.cell_of_heap m0 0).trans rfl
        have rf0 := Lib.frozen_of_heap m0 0
        have r1 := (Lib.cell_of_heap m0 1).trans rfl
        have rf1 := Lib.frozen_of_heap m0 1
        have r2 := (Lib.cell_of_heap m0 2).trans rfl
        have rf2 := Lib.frozen_of_heap m0 2
        have z0 := (Lib.cell_of_heap m1 0).trans rfl
        have zf0 := Lib.frozen_of_heap m1 0
        have z1 := (Lib.cell_of_heap m1 1).trans rfl
        have zf1 := Lib.frozen_of_heap m1 1
        have z2 := (Lib.cell_of_heap m1 2).trans rfl
        have zf2 := Lib.frozen_of_heap m1 2
        clear m0 m1 htr hr hbb
        go_wp2
        refine bodyPost_ret (v := .tuple #[.agg #[.string r.host, .int .u64 (r.port : Int), .int .u64 (r.wt : Int)], .bool true]) (by simp [results, Tryz.results122, go_sem, r0, r1, r2]) rfl ⟨?_, ?_⟩
        · rw [show Ad.get s.data.toList = some r from (allOf_some HPS.out).trans HDN.out]
        · exact (((HW.out.setCell (p := ⟨w.heap.size, 0, none⟩) (Nat.le_refl _) _).setCell (p := ⟨w.heap.size, 1, none⟩) (Nat.le_refl _) _).setCell (p := ⟨w.heap.size, 2, none⟩) (Nat.le_refl _) _)
end Go.Proofs.YtngceccpebdgmaaGreatDoor
