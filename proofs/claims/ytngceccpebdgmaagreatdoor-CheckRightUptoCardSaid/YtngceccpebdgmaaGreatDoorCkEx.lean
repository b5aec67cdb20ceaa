/- check: Body over what is wrong first; the chapter's examples. -/
import Derived.Test.YtngceccpebdgmaaGreatDoorCkBody
import Derived.Test.YtngceccpebdgmaaGreatDoorCkOrdP
import Derived.Test.YtngceccpebdgmaaGreatDoorPlPutC
namespace Go.Proofs.YtngceccpebdgmaaGreatDoor
open Go.RowKit Go.Shelf

set_option maxRecDepth 100000 in
theorem body_no (k : Int) (n s : ByteArray) (b : Addr) (w : World) (hg : Gv b w) (hfw : ∀ w, Gv b w → Calls Tryz.prog 36 #[kyV k n, .string s] w fun e w' => e = .returned Wr.no.v ∧ Below w.heap.size w w') :
    Calls Tryz.prog 22 #[kyV k n, .string s] w fun e w' => e = .returned (.string ⟨#[]⟩) ∧ Below w.heap.size w w' := by
  have HG := Lib.hid hg
  have HF := Lib.hid hfw
  have HB0 := Lib.hid (below_alloc w (.cells #[.int .i64 k, .string n] 23))
  clear hg hfw
  go_enter Tryz.func22, Tryz.ntmps22
  go_wp2_with fail
  refine (HF.out _ (HG.out.below HB0.out)).mono ?_
  rintro e w1 ⟨rfl, hb⟩
  have HB1 := Lib.hid (HB0.out.trans (hb.mono HB0.out.size))
  clear hb
  rw [show Wr.no.v = .nilIface from rfl]
  go_wp2_with fail
  refine (inWords_no _).mono ?_
  rintro e w2 ⟨rfl, hb⟩
  have HB2 := Lib.hid (HB1.out.trans (hb.mono HB1.out.size))
  clear hb
  go_wp2_with fail
  go_ret
  exact ⟨rfl, HB2.out⟩
set_option maxRecDepth 100000 in
theorem body_word (k : Int) (n s x : ByteArray) (b : Addr) (w : World) (hg : Gv b w) (hge : Ge w) (hfw : ∀ w, Gv b w → Calls Tryz.prog 36 #[kyV k n, .string s] w fun e w' => e = .returned (Wr.word x).v ∧ Below w.heap.size w w') :
    Calls Tryz.prog 22 #[kyV k n, .string s] w fun e w' => e = .returned (.string x) ∧ Below w.heap.size w w' := by
  have HG := Lib.hid hg
  have HE := Lib.hid hge
  have HF := Lib.hid hfw
  have HB0 := Lib.hid (below_alloc w (.cells #[.int .i64 k, .string n] 23))
  clear hg hfw hge
  go_enter Tryz.func22, Tryz.ntmps22
  go_wp2_with fail
  refine (HF.out _ (HG.out.below HB0.out)).mono ?_
  rintro e w1 ⟨rfl, hb⟩
  have HB1 := Lib.hid (HB0.out.trans (hb.mono HB0.out.size))
  clear hb
  rw [show (Wr.word x).v = .iface 93 (.string x) from rfl]
  go_wp2_with fail
  refine (inWords_word x _ (HE.out.below HB1.out)).mono ?_
  rintro e w2 ⟨rfl, hb⟩
  have HB2 := Lib.hid (HB1.out.trans (hb.mono HB1.out.size))
  clear hb
  go_wp2_with fail
  go_ret
  exact ⟨rfl, HB2.out⟩

def ckP : Pl := ⟨⟨#[97]⟩, 80, ⟨#[114]⟩, [], 0, ⟨#[]⟩, [], ⟨#[]⟩⟩
def ckS : ByteArray := ⟨#[10, 1, 97, 16, 80, 26, 1, 114]⟩
theorem ckPut : ckP.putOf 1 = (ckS, true) := by kernel_rfl
theorem ckGet : Pl.getOf 1 ckS.data.toList = some ckP := by kernel_rfl
theorem ckGetX : Pl.getOf 1 (⟨#[120]⟩ : ByteArray).data.toList = none := by kernel_rfl
theorem ck_put (b : Addr) (w : World) (hg : Gv b w) :
    Calls Tryz.prog 24 #[.int .i64 1, .agg #[.string ⟨#[97]⟩, .int .u64 80, .string ⟨#[114]⟩, .slice none 0 0, .int .u64 0, .string ⟨#[]⟩, .slice none 0 0, .string ⟨#[]⟩]] w fun e w' => e = .returned (.tuple #[.string ckS, .bool true]) ∧ Below w.heap.size w w' := by
  have h := put_any' 1 ckP none none 0 0 b w hg (fun i r h => by simp [ckP] at h) (fun i r h => by simp [ckP] at h) ⟨by decide, by decide, by decide, by decide, fun r h => by simp [ckP] at h⟩ (of_decide_eq_true (by kernel_rfl)) (fun _ _ => of_decide_eq_true (by kernel_rfl))
  rw [ckPut] at h
  exact h
theorem ck_body1 (b : Addr) (w : World) (hg : Gv b w) : Calls Tryz.prog 22 #[kyV 1 ⟨#[97]⟩, .string ckS] w fun e w' => e = .returned (.string ⟨#[]⟩) ∧ Below w.heap.size w w' :=
  body_no 1 _ _ b w hg fun w hg => firstWrong_1 _ _ ckP b w hg (by decide) ckGet (by kernel_rfl) (by kernel_rfl) (by kernel_rfl)
theorem ck_body2 (b : Addr) (w : World) (hg : Gv b w) (hge : Ge w) : Calls Tryz.prog 22 #[kyV 1 ⟨#[98]⟩, .string ckS] w fun e w' => e = .returned (.string ⟨#[110, 97, 109, 101]⟩) ∧ Below w.heap.size w w' :=
  body_word 1 _ _ _ b w hg hge fun w hg => firstWrong_name 1 _ _ ckP b w hg (by decide) ckGet (by kernel_rfl)
theorem ck_body3 (b : Addr) (w : World) (hg : Gv b w) (hge : Ge w) : Calls Tryz.prog 22 #[kyV 1 ⟨#[98]⟩, .string ⟨#[120]⟩] w fun e w' => e = .returned (.string ⟨#[102, 111, 114, 109]⟩) ∧ Below w.heap.size w w' :=
  body_word 1 _ _ _ b w hg hge fun w hg => firstWrong_form 1 _ _ b w hg (by decide) ckGetX
theorem ck_n1 : nmOk ⟨#[97, 47, 98]⟩ = true := by kernel_rfl
theorem ck_n2 : nmOk ⟨#[65]⟩ = false := by kernel_rfl
theorem ck_k1 : kyOk 1 ⟨#[42]⟩ = true := by kernel_rfl
theorem ck_k2 : kyOk 6 ⟨#[97]⟩ = false := by kernel_rfl
theorem ck_o1 : ordK 1 ⟨#[98]⟩ 2 ⟨#[97]⟩ = -1 := by kernel_rfl

set_option maxRecDepth 100000 in
set_option maxHeartbeats 2000000 in
theorem ck_examples (b : Addr) (w : World) (hg : Gv b w) (hge : Ge w) :
    Calls Tryz.prog 10 #[] w fun e w' => e = .returned (.bool true) ∧ Below w.heap.size w w' := by
  have HG := Lib.hid hg
  have HE := Lib.hid hge
  clear hg hge
  go_enter Tryz.func10, Tryz.ntmps10
  go_wp2_with fail
  refine (ck_put b _ HG.out).mono ?_
  rintro e w1 ⟨rfl, hb⟩
  have HB1 := Lib.hid hb
  clear hb
  go_wp2_with fail
  refine (name_any ⟨#[97, 47, 98]⟩ _).mono ?_
  rintro e w' ⟨rfl, rfl⟩
  rw [ck_n1]
  go_wp2_with fail
  refine (name_any ⟨#[65]⟩ _).mono ?_
  rintro e w' ⟨rfl, rfl⟩
  rw [ck_n2]
  go_wp2_with fail
  refine (key_any 1 ⟨#[42]⟩ _).mono ?_
  rintro e w2 ⟨rfl, hb⟩
  rw [ck_k1]
  have HB2 := Lib.hid (HB1.out.trans (hb.mono HB1.out.size))
  clear hb
  go_wp2_with fail
  refine (key_any 6 ⟨#[97]⟩ _).mono ?_
  rintro e w3 ⟨rfl, hb⟩
  rw [ck_k2]
  have HB3 := Lib.hid (HB2.out.trans (hb.mono HB2.out.size))
  clear hb
  go_wp2_with fail
  refine (order_any 1 2 ⟨#[98]⟩ ⟨#[97]⟩ _).mono ?_
  rintro e w4 ⟨rfl, hb⟩
  rw [ck_o1]
  have HB4 := Lib.hid (HB3.out.trans (hb.mono HB3.out.size))
  clear hb
  go_wp2_with fail
  refine (ck_body1 b _ (HG.out.below HB4.out)).mono ?_
  rintro e w5 ⟨rfl, hb⟩
  have HB5 := Lib.hid (HB4.out.trans (hb.mono HB4.out.size))
  clear hb
  go_wp2_with fail
  refine (ck_body2 b _ (HG.out.below HB5.out) (HE.out.below HB5.out)).mono ?_
  rintro e w6 ⟨rfl, hb⟩
  have HB6 := Lib.hid (HB5.out.trans (hb.mono HB5.out.size))
  clear hb
  go_wp2_with fail
  refine (ck_body3 b _ (HG.out.below HB6.out) (HE.out.below HB6.out)).mono ?_
  rintro e w7 ⟨rfl, hb⟩
  have HB7 := Lib.hid (HB6.out.trans (hb.mono HB6.out.size))
  clear hb
  go_wp2_with fail
  go_ret
  exact ⟨rfl, HB7.out⟩
end Go.Proofs.YtngceccpebdgmaaGreatDoor
