/- payload: how an item of a list is taken: the walks. -/
import Derived.Test.YtngceccpebdgmaaGreatDoorPlTakeAll
import Derived.Deep.RegionLaw
import Derived.Deep.AppendLies
namespace Go.Proofs.YtngceccpebdgmaaGreatDoor
open Go.RowKit Go.Shelf

def rlCells (rs : List Rl) : List Value := rs.flatMap fun r => [.string r.pre, .string r.clu]
def adCells (rs : List Ad) : List Value := rs.flatMap fun r => [.string r.host, .int .u64 (r.port : Int), .int .u64 (r.wt : Int)]
theorem rlCells_snoc (rs : List Rl) (r : Rl) : rlCells (rs ++ [r]) = rlCells rs ++ [.string r.pre, .string r.clu] := by simp [rlCells]
theorem adCells_snoc (rs : List Ad) (r : Ad) : adCells (rs ++ [r]) = adCells rs ++ [.string r.host, .int .u64 (r.port : Int), .int .u64 (r.wt : Int)] := by simp [adCells]
theorem row_block {w : World} {base size n k : Nat} {e T : TypeId} {v : Value} {xs : List Value} {cs : Array Value} {fr : Nat × Nat} (h : w.ownsRow base e size v n xs) (hb : w.heap[k]? = some (.cells cs T fr)) (hne : T ≠ e) : v.ownBlock ≠ some k := by
  rcases h.2 with ⟨rfl, _⟩ | ⟨g, cap, cur, rfl, _, hg, _⟩
  · simp [Value.ownBlock]
  · intro he
    simp [Value.ownBlock] at he
    subst he
    rw [hg] at hb
    simp at hb
    exact hne hb.2.1.symm
theorem rows_apart {w : World} {b1 b2 s1 s2 n1 n2 : Nat} {e1 e2 : TypeId} {v1 v2 : Value} {x1 x2 : List Value} (h1 : w.ownsRow b1 e1 s1 v1 n1 x1) (h2 : w.ownsRow b2 e2 s2 v2 n2 x2) (hne : e1 ≠ e2) : ∀ g, v2.ownBlock = some g → v1.ownBlock ≠ some g := by
  intro g hg
  rcases h2.2 with ⟨rfl, _⟩ | ⟨g', cap, cur, rfl, _, hh, _⟩
  · simp [Value.ownBlock] at hg
  · simp [Value.ownBlock] at hg
    subst hg
    exact row_block h1 hh (fun e => hne e.symm)
theorem own_below {w w' : World} {base size n : Nat} {e : TypeId} {v : Value} {xs : List Value} (h : w.ownsRow base e size v n xs) (hb : Below w.heap.size w w') : w'.ownsRow base e size v n xs := by
  refine h.kept (grown_of_below hb) ?_
  cases hv : v.ownBlock with
  | none => exact Or.inl rfl
  | some k => exact Or.inr (by simp)
theorem own_other {w w' : World} {base size n : Nat} {e : TypeId} {v : Value} {xs : List Value} {row : Option Nat} (h : w.ownsRow base e size v n xs) (hg : w.grownBy w' row) (hne : ∀ g, v.ownBlock = some g → row ≠ some g) : w'.ownsRow base e size v n xs := by
  refine h.kept hg ?_
  cases hv : v.ownBlock with
  | none => exact Or.inl rfl
  | some k => exact Or.inr (fun he => hne k hv he.symm)

/-- A payload of the call's own in block B; its rows are owned from base on. -/
def RPay (base B : Nat) (w : World) (p : Pl) : Prop := ∃ a3 c3 a6 c6, Blk w B #[.string p.name, .int .u64 (p.port : Int), .string p.route, .slice a3 p.rules.length c3, .int .u64 (p.policy : Int), .string p.secret, .slice a6 p.addrs.length c6, .string p.key] 36 ∧
  w.ownsRow base 42 2 (.slice a3 p.rules.length c3) p.rules.length (rlCells p.rules) ∧ w.ownsRow base 44 3 (.slice a6 p.addrs.length c6) p.addrs.length (adCells p.addrs) ∧ p.rules.length ≤ 64 ∧ p.addrs.length ≤ 64
theorem keeps_Pay (base B : Nat) : Keeps (RPay base B) := by
  rintro w w' p ⟨a3, c3, a6, c6, hb, h3, h6, l3, l6⟩ hbel
  exact ⟨a3, c3, a6, c6, Blk.below hb hbel (Blk.lt hb), own_below h3 hbel, own_below h6 hbel, l3, l6⟩
theorem list_post {base B : Nat} {p p' : Pl} {i : Nat} {f : Fd} {w w' : World} (h : Pl.take i p f = some p') (hb : BelowBut base B w w') (hr : RPay base B w' p') : TakePost base B (RPay base B) (Pl.take i p f) w (.returned (.bool true)) w' := by
  rw [h]; exact ⟨hb, rfl, hr⟩
theorem bb_grown {base B : Nat} {w w' : World} {row : Option Nat} (h : w.grownBy w' row) (hr : ∀ k, row = some k → base ≤ k) (hb : base ≤ w.heap.size) : BelowBut base B w w' :=
  ⟨h.os, h.tape, h.output, h.size, fun k hk _ => h.block k (by omega) (fun e => by have := hr k e.symm; omega)⟩
theorem bb_set (base B i : Nat) (v : Value) (w : World) : BelowBut base B w (w.setCell ⟨B, i, none⟩ v) :=
  ⟨rfl, rfl, rfl, by simp [World.setCell], fun k _ hne => Below.heap_setCell _ _ _ _ hne⟩
theorem owns_two {w : World} {base size n : Nat} {e : TypeId} {v : Value} {xs : List Value} (h : w.ownsRow base e size v n xs) : ∃ a c, v = .slice a n c := owns_slice h
theorem Tryz.infoRl : (Tryz.prog.info? 42).map (fun i => (i.zero, i.size, i.bytes)) = some (some (.agg #[.string ⟨#[]⟩, .string ⟨#[]⟩]), 2, 32) := by kernel_rfl
theorem Tryz.infoAd : (Tryz.prog.info? 44).map (fun i => (i.zero, i.size, i.bytes)) = some (some (.agg #[.string ⟨#[]⟩, .int .u64 0, .int .u64 0]), 3, 32) := by kernel_rfl

set_option maxRecDepth 100000 in
set_option maxHeartbeats 4000000 in
theorem listRule_take (base B bo bp gp cap : Nat) (b : Addr) (p : Pl) (f : Fd) (w : World) (hR : RPay base B w p) (ho : Box w bo (.func (.func 85) #[] #[])) (hp : Box w bp (.slice (some ⟨gp, 0, none⟩) 2 cap)) (hr : RuleParts w gp) (hg : Gv b w) (hbase : base ≤ w.heap.size) (hBb : B < base) (hfs : f.s.length ≤ 1099511627776) :
    Calls Tryz.prog 114 #[.pointer (some ⟨B, 0, none⟩), .agg #[.int .i64 (f.num : Int), .int .i64 (f.kind : Int), .int .u64 (f.n : Int), .string ⟨f.s.toArray⟩], .pointer (some ⟨bo, 0, none⟩), .pointer (some ⟨bp, 0, none⟩)] w (TakePost base B (RPay base B) (Pl.take 3 p f) w) := by
  obtain ⟨i0, hi, hz0, hz1, hz2⟩ := info_parts Tryz.infoRl
  obtain ⟨a3, c3, a6, c6, hblk, h3, h6, l3, l6⟩ := hR
  obtain ⟨hol, hoc⟩ := ho
  obtain ⟨hpl, hpc⟩ := hp
  have hbl := hblk.lt
  have q := (hblk.cell 3).trans rfl
  have HBK := Lib.hid hblk
  have HR := Lib.hid hr
  have HG := Lib.hid hg
  have H3 := Lib.hid h3
  have H6 := Lib.hid h6
  have HP := Lib.hid hpc
  have HFS := Lib.hid (show (⟨f.s.toArray⟩ : ByteArray).size ≤ 1099511627776 from hfs)
  clear hblk hr hg hpc hfs h3 h6
  go_enter Tryz.func114, Tryz.ntmps114
  go_wp2_with fail
  refine (payloadParts_4 _ _).mono ?_
  rintro e w2 ⟨rfl, rfl⟩
  have HUP := Lib.hid (below_f w (.cells #[.int .i64 (f.num : Int), .int .i64 (f.kind : Int), .int .u64 (f.n : Int), .string ⟨f.s.toArray⟩] 178))
  by_cases h64 : p.rules.length = 64
  · have hq : ((p.rules.length : Int) == 64) = true := by simp; omega
    have H64 := Lib.hid h64
    clear h64
    go_wp2_with fail
    go_ret
    rw [show Pl.take 3 p f = none by simp [Pl.take, H64.out]]
    exact ⟨BelowBut.of HUP.out (by omega), rfl⟩
  · have hq : ((p.rules.length : Int) == 64) = false := by simp; omega
    have HN := Lib.hid h64
    clear h64
    have hpc := HP.out
    go_wp2_with fail
    refine (takeAllRule_any gp cap _ b _ (HG.out.below HUP.out) (HR.out.below HUP.out) HFS.out).mono ?_
    intro e w4 hpost
    obtain ⟨hpo, hb4⟩ := hpost
    have HB4 := Lib.hid (HUP.out.trans (hb4.mono (by simp)))
    have hsz4 := HB4.out.size
    clear hb4 hq
    cases hget : Rl.get f.s with
    | none =>
      rw [show Rl.get (⟨f.s.toArray⟩ : ByteArray).data.toList = none from hget] at hpo
      simp only at hpo
      subst hpo
      have HGN := Lib.hid hget
      clear hget
      go_wp2_with fail
      go_ret
      rw [show Pl.take 3 p f = none by simp [Pl.take, HN.out, HGN.out]]
      exact ⟨BelowBut.of (HB4.out.alloc hsz4 _) (by omega), rfl⟩
    | some r =>
      rw [show Rl.get (⟨f.s.toArray⟩ : ByteArray).data.toList = some r from hget] at hpo
      simp only at hpo
      subst hpo
      have HGN := Lib.hid hget
      clear hget
      have q4 := (HB4.out.cell (p := ⟨B, 3, none⟩) hbl).trans q
      have h34 := own_below H3.out HB4.out
      have h64 := own_below H6.out HB4.out
      have hB4 := HBK.out.below HB4.out hbl
      have HB5 := Lib.hid (below_up HB4.out (.cells #[.string r.pre, .string r.clu] 42))
      have h36 := (h34.alloc (.cells #[.string r.pre, .string r.clu] 42)).drew.alloc (.cells #[.string r.pre, .string r.clu] 42)
      have hsz5 : base ≤ w4.heap.size := by omega
      have HNE := Lib.hid (rows_apart h34 h64 (by decide))
      have HNB := Lib.hid (row_block h34 hB4 (by decide))
      have HBL4 := Lib.hid hB4
      have HO4 := Lib.hid h64
      have hbl4 := hB4.lt
      have HM6 := Lib.hid (((h34.alloc (.cells #[.string r.pre, .string r.clu] 42)).drew).alloc (.cells #[.string r.pre, .string r.clu] 42))
      have hX := ((below_f w4 (.cells #[.string r.pre, .string r.clu] 42)).drew).alloc (by rw [World.size_drew, World.size_alloc]; omega) (.cells #[.string r.pre, .string r.clu] 42)
      have HX := Lib.hid hX
      have HBX := Lib.hid (hB4.below hX hbl4)
      clear hB4 h34 h64 h36 hX
      have l := l3
      go_wp2_with fail
      go_region_law ((refine step_append_lies _ (by rfl) _ _ _ (by rfl) base 42 i0 _ 2 32 Tryz.underlying33 hi hz0 hz1 hz2 rfl (by omega) _ _ _ (by rfl) HM6.out ⟨w4.heap.size + 1, 0, none⟩ 1 1 [.string r.pre, .string r.clu] (by rfl) (by rfl) (World.news_of_block (cs := #[.string r.pre, .string r.clu]) (t := 42) (fr := (0, 0)) (by have := heap_alloc_new ((w4.alloc (.cells #[.string r.pre, .string r.clu] 42)).drew) (.cells #[.string r.pre, .string r.clu] 42); rw [World.size_drew, World.size_alloc] at this; exact this)) (by simp [Value.oneCell']) (by omega) (by unfold maxLen; omega) (by omega) (by simp; omega) (w4.heap.size + 2) (by simp) ?_; intro gg cc w5 hown5 hgrow hat hltg; have HB5k := Lib.hid (HBX.out.kept hgrow (fun e => HNB.out e.symm)); have hcB := (HB5k.out.cell 3).trans rfl; have hfB := Lib.frozen_of_heap HB5k.out 3; have HO5 := Lib.hid (own_other (((HO4.out.alloc (.cells #[.string r.pre, .string r.clu] 42)).drew).alloc (.cells #[.string r.pre, .string r.clu] 42)) hgrow HNE.out); have HM5 := Lib.hid hown5; have HG5 := Lib.hid hgrow; clear hown5 hgrow hat))
      all_goals
        go_wp2
        go_ret
        refine list_post (p' := { p with rules := p.rules ++ [r] }) (by simp [Pl.take, HN.out, HGN.out]) ?_ ?_
        · exact (((BelowBut.of HB4.out (by omega)).trans (BelowBut.of HX.out (by omega))).trans (bb_grown HG5.out (fun k e => (HM6.out.lt k e).1) (by simp; omega))).trans (bb_set _ _ _ _ _)
        · refine ⟨some ⟨gg, 0, none⟩, cc, a6, c6, ?_, ?_, ?_, by have := HN.out; simp; omega, l6⟩
          · have := blk_set HB5k.out 3 (.slice (some ⟨gg, 0, none⟩) (p.rules.length + 1) cc); simpa using this
          · have := ownsRow_setCell_below HM5.out (a := ⟨B, 3, none⟩) hBb (.slice (some ⟨gg, 0, none⟩) (p.rules.length + 1) cc); rw [← rlCells_snoc] at this; simpa using this
          · exact ownsRow_setCell_below HO5.out (a := ⟨B, 3, none⟩) hBb _

set_option maxRecDepth 100000 in
set_option maxHeartbeats 4000000 in
theorem listAddr_take (base B bo bp gp cap : Nat) (b : Addr) (p : Pl) (f : Fd) (w : World) (hR : RPay base B w p) (ho : Box w bo (.func (.func 90) #[] #[])) (hp : Box w bp (.slice (some ⟨gp, 0, none⟩) 3 cap)) (hr : AddrParts w gp) (hg : Gv b w) (hbase : base ≤ w.heap.size) (hBb : B < base) (hfs : f.s.length ≤ 1099511627776) :
    Calls Tryz.prog 121 #[.pointer (some ⟨B, 0, none⟩), .agg #[.int .i64 (f.num : Int), .int .i64 (f.kind : Int), .int .u64 (f.n : Int), .string ⟨f.s.toArray⟩], .pointer (some ⟨bo, 0, none⟩), .pointer (some ⟨bp, 0, none⟩)] w (TakePost base B (RPay base B) (Pl.take 6 p f) w) := by
  obtain ⟨i0, hi, hz0, hz1, hz2⟩ := info_parts Tryz.infoAd
  obtain ⟨a3, c3, a6, c6, hblk, h3, h6, l3, l6⟩ := hR
  obtain ⟨hol, hoc⟩ := ho
  obtain ⟨hpl, hpc⟩ := hp
  have hbl := hblk.lt
  have q := (hblk.cell 6).trans rfl
  have HBK := Lib.hid hblk
  have HR := Lib.hid hr
  have HG := Lib.hid hg
  have H3 := Lib.hid h3
  have H6 := Lib.hid h6
  have HP := Lib.hid hpc
  have HFS := Lib.hid (show (⟨f.s.toArray⟩ : ByteArray).size ≤ 1099511627776 from hfs)
  clear hblk hr hg hpc hfs h3 h6
  go_enter Tryz.func121, Tryz.ntmps121
  go_wp2_with fail
  refine (payloadParts_7 _ _).mono ?_
  rintro e w2 ⟨rfl, rfl⟩
  have HUP := Lib.hid (below_f w (.cells #[.int .i64 (f.num : Int), .int .i64 (f.kind : Int), .int .u64 (f.n : Int), .string ⟨f.s.toArray⟩] 178))
  by_cases h64 : p.addrs.length = 64
  · have hq : ((p.addrs.length : Int) == 64) = true := by simp; omega
    have H64 := Lib.hid h64
    clear h64
    go_wp2_with fail
    go_ret
    rw [show Pl.take 6 p f = none by simp [Pl.take, H64.out]]
    exact ⟨BelowBut.of HUP.out (by omega), rfl⟩
  · have hq : ((p.addrs.length : Int) == 64) = false := by simp; omega
    have HN := Lib.hid h64
    clear h64
    have hpc := HP.out
    go_wp2_with fail
    refine (takeAllAddr_any gp cap _ b _ (HG.out.below HUP.out) (HR.out.below HUP.out) HFS.out).mono ?_
    intro e w4 hpost
    obtain ⟨hpo, hb4⟩ := hpost
    have HB4 := Lib.hid (HUP.out.trans (hb4.mono (by simp)))
    have hsz4 := HB4.out.size
    clear hb4 hq
    cases hget : Ad.get f.s with
    | none =>
      rw [show Ad.get (⟨f.s.toArray⟩ : ByteArray).data.toList = none from hget] at hpo
      simp only at hpo
      subst hpo
      have HGN := Lib.hid hget
      clear hget
      go_wp2_with fail
      go_ret
      rw [show Pl.take 6 p f = none by simp [Pl.take, HN.out, HGN.out]]
      exact ⟨BelowBut.of (HB4.out.alloc hsz4 _) (by omega), rfl⟩
    | some r =>
      rw [show Ad.get (⟨f.s.toArray⟩ : ByteArray).data.toList = some r from hget] at hpo
      simp only at hpo
      subst hpo
      have HGN := Lib.hid hget
      clear hget
      have q4 := (HB4.out.cell (p := ⟨B, 6, none⟩) hbl).trans q
      have h34 := own_below H3.out HB4.out
      have h64 := own_below H6.out HB4.out
      have hB4 := HBK.out.below HB4.out hbl
      have HB5 := Lib.hid (below_up HB4.out (.cells #[.string r.host, .int .u64 (r.port : Int), .int .u64 (r.wt : Int)] 44))
      have h36 := (h34.alloc (.cells #[.string r.host, .int .u64 (r.port : Int), .int .u64 (r.wt : Int)] 44)).drew.alloc (.cells #[.string r.host, .int .u64 (r.port : Int), .int .u64 (r.wt : Int)] 44)
      have hsz5 : base ≤ w4.heap.size := by omega
      have HNE := Lib.hid (rows_apart h64 h34 (by decide))
      have HNB := Lib.hid (row_block h64 hB4 (by decide))
      have HBL4 := Lib.hid hB4
      have HO4 := Lib.hid h34
      have hbl4 := hB4.lt
      have HM6 := Lib.hid (((h64.alloc (.cells #[.string r.host, .int .u64 (r.port : Int), .int .u64 (r.wt : Int)] 44)).drew).alloc (.cells #[.string r.host, .int .u64 (r.port : Int), .int .u64 (r.wt : Int)] 44))
      have hX := ((below_f w4 (.cells #[.string r.host, .int .u64 (r.port : Int), .int .u64 (r.wt : Int)] 44)).drew).alloc (by rw [World.size_drew, World.size_alloc]; omega) (.cells #[.string r.host, .int .u64 (r.port : Int), .int .u64 (r.wt : Int)] 44)
      have HX := Lib.hid hX
      have HBX := Lib.hid (hB4.below hX hbl4)
      clear hB4 h34 h64 h36 hX
      have l := l6
      go_wp2_with fail
      go_region_law ((refine step_append_lies _ (by rfl) _ _ _ (by rfl) base 44 i0 _ 3 32 Tryz.underlying34 hi hz0 hz1 hz2 rfl (by omega) _ _ _ (by rfl) HM6.out ⟨w4.heap.size + 1, 0, none⟩ 1 1 [.string r.host, .int .u64 (r.port : Int), .int .u64 (r.wt : Int)] (by rfl) (by rfl) (World.news_of_block (cs := #[.string r.host, .int .u64 (r.port : Int), .int .u64 (r.wt : Int)]) (t := 44) (fr := (0, 0)) (by have := heap_alloc_new ((w4.alloc (.cells #[.string r.host, .int .u64 (r.port : Int), .int .u64 (r.wt : Int)] 44)).drew) (.cells #[.string r.host, .int .u64 (r.port : Int), .int .u64 (r.wt : Int)] 44); rw [World.size_drew, World.size_alloc] at this; exact this)) (by simp [Value.oneCell']) (by omega) (by unfold maxLen; omega) (by omega) (by simp; omega) (w4.heap.size + 2) (by simp) ?_; intro gg cc w5 hown5 hgrow hat hltg; have HB5k := Lib.hid (HBX.out.kept hgrow (fun e => HNB.out e.symm)); have hcB := (HB5k.out.cell 6).trans rfl; have hfB := Lib.frozen_of_heap HB5k.out 6; have HO5 := Lib.hid (own_other (((HO4.out.alloc (.cells #[.string r.host, .int .u64 (r.port : Int), .int .u64 (r.wt : Int)] 44)).drew).alloc (.cells #[.string r.host, .int .u64 (r.port : Int), .int .u64 (r.wt : Int)] 44)) hgrow HNE.out); have HM5 := Lib.hid hown5; have HG5 := Lib.hid hgrow; clear hown5 hgrow hat))
      all_goals
        go_wp2
        go_ret
        refine list_post (p' := { p with addrs := p.addrs ++ [r] }) (by simp [Pl.take, HN.out, HGN.out]) ?_ ?_
        · exact (((BelowBut.of HB4.out (by omega)).trans (BelowBut.of HX.out (by omega))).trans (bb_grown HG5.out (fun k e => (HM6.out.lt k e).1) (by simp; omega))).trans (bb_set _ _ _ _ _)
        · refine ⟨a3, c3, some ⟨gg, 0, none⟩, cc, ?_, ?_, ?_, l3, by have := HN.out; simp; omega⟩
          · have := blk_set HB5k.out 6 (.slice (some ⟨gg, 0, none⟩) (p.addrs.length + 1) cc); simpa using this
          · exact ownsRow_setCell_below HO5.out (a := ⟨B, 6, none⟩) hBb _
          · have := ownsRow_setCell_below HM5.out (a := ⟨B, 6, none⟩) hBb (.slice (some ⟨gg, 0, none⟩) (p.addrs.length + 1) cc); rw [← adCells_snoc] at this; simpa using this
end Go.Proofs.YtngceccpebdgmaaGreatDoor
