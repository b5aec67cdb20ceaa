/-
  WireKinds: of the eight kinds that a byte may tell four are; eight and four bytes are taken whole; what they lack is told. For every kind, number and text. No condition.
-/
import Derived.Test.YtjgelcneamijdaaDoorCards
import Derived.Test.YtjgelcneamijdaaDoorTie
import Derived.Test.YtjgelcneamijdaaDoorLaid
import Derived.Test.YtjgelcneamijdaaDoorEx
import Derived.Test.YtjgelcneamijdaaDoorKinds
namespace Go.Proofs.YtjgelcneamijdaaDoor.lawKinds
open Go.ChangeShapes Go.WideShapes Go.ChangeAt Go.RowKit
open Go.WideMaps Go.WideElems
open Go.ChangeMaps (open_string shut_string)

theorem conv_one (W : World) (x : Nat) (X : Int) (hX : X = x) (hx : x < 256) :
    (convert 42 9 (.slice (some ⟨W.heap.size, 0, none⟩) 1 1)).run Tryd.prog (W.alloc (.cells #[.int .u8 X] 5)) = .ok (.string ⟨#[UInt8.ofNat x]⟩) (W.alloc (.cells #[.int .u8 X] 5)) := by
  subst hX
  have h := run_convert_bytes_back (P := Tryd.prog) (W.alloc (.cells #[.int .u8 (x : Int)] 5)) 42 9 5 ⟨W.heap.size, 0, none⟩ 1 [UInt8.ofNat x] Tryd.underlying42 Tryd.underlying5 Tryd.underlying9 (fun j hj => by
    have : j = 0 := by simp at hj; omega
    subst this
    have hn : (UInt8.ofNat x).toNat = x := by simp; omega
    simp [Addr.add, hn])
  exact h

theorem parse_head (t : ByteArray) (b : Addr) (w : World) (hs : t.size ≤ 13) (hg : Gv b w) (f : Fd) (rest : List Fd) (hp : parse t.data.toList = some (f :: rest)) :
    Calls Tryd.prog 24 #[.string t] w fun e w' => (∃ (g cap len : Nat), e = .returned (.tuple #[.slice (some ⟨g, 0, none⟩) len cap, .bool true]) ∧ 1 ≤ len ∧ g < w'.heap.size ∧ w'.cell? ⟨g, 0, none⟩ = some (.int .i64 f.num) ∧ w'.cell? ⟨g, 1, none⟩ = some (.int .i64 f.kind) ∧ w'.cell? ⟨g, 3, none⟩ = some (.string ⟨f.s.toArray⟩)) ∧ Below w.heap.size w w' := by
  refine (parse_any t b w (by omega) hg).mono ?_
  rw [hp]
  rintro e w' ⟨⟨v, rfl, hrow⟩, hb⟩
  obtain ⟨g, cap, rfl⟩ := ownsRow_succ hrow
  have c0 := hrow.cellAt 0 (by omega)
  have c1 := hrow.cellAt 1 (by omega)
  have c3 := hrow.cellAt 3 (by omega)
  exact ⟨⟨g, cap, rest.length + 1, rfl, by omega, World.block_lt_of_cell? w' _ c0, c0, c1, c3⟩, hb⟩
theorem parse_no (t : ByteArray) (b : Addr) (w : World) (hs : t.size ≤ 13) (hg : Gv b w) (hp : parse t.data.toList = none) :
    Calls Tryd.prog 24 #[.string t] w fun e w' => e = .returned (.tuple #[.slice none 0 0, .bool false]) ∧ Below w.heap.size w w' := by
  refine (parse_any t b w (by omega) hg).mono ?_
  rw [hp]
  rintro e w' ⟨rfl, hb⟩
  exact ⟨rfl, hb⟩
theorem cat_list (x : UInt8) (B : ByteArray) : ((⟨#[x]⟩ : ByteArray) ++ B).data.toList = x :: B.data.toList := by simp
theorem take_str (B : ByteArray) (σ : Nat) : (⟨(B.data.toList.take σ).toArray⟩ : ByteArray) = B.extract 0 σ := by
  apply ByteArray.ext; apply Array.toList_inj.1
  rw [extract_list]; simp
theorem cat_size (x : UInt8) (B : ByteArray) : ((⟨#[x]⟩ : ByteArray) ++ B).size = 1 + B.size := by
  rw [ByteArray.size_append]; rfl

/-- The byte that stands ahead. -/
theorem byte_x (ν : Int) (κ : Nat) (h1 : 0 ≤ ν) (h2 : ν < 15) (hκ : κ < 8) : ∃ x : UInt8, x.toNat = 8 * (1 + ν.toNat) + κ ∧ x.toNat < 128 ∧ 8 ≤ x.toNat ∧ x.toNat % 8 = κ ∧ ((x.toNat / 8 : Nat) : Int) = 1 + ν ∧ (8 * (1 + ν) + κ : Int) = x.toNat := by
  refine ⟨UInt8.ofNat (8 * (1 + ν.toNat) + κ), ?_⟩
  have : (UInt8.ofNat (8 * (1 + ν.toNat) + κ)).toNat = 8 * (1 + ν.toNat) + κ := by simp; omega
  rw [this]
  omega

set_option maxRecDepth 100000 in
set_option maxHeartbeats 2000000 in
theorem some1 (kd nm : Nat) (s B : ByteArray) (b : Addr) (w : World) (hg : Gv b w) (hB : s.extract 0 (min (s.size : Int) 12).toNat = B) (hBs : B.size ≤ 12) (ν : Int) (hν : (nm : Int) % 15 = ν) (_hν1 : 0 ≤ ν) (_hν2 : ν < 15) (hk : (kd : Int) % 8 = 1)
    (x : UInt8) (hx : x.toNat < 128) (hxv : (8 * (1 + ν) + 1 : Int) = x.toNat) (rest : List Fd) (hp : parse (x :: B.data.toList) = some (⟨x.toNat / 8, 1, 0, B.data.toList.take 8⟩ :: rest)) (h8 : 8 ≤ B.size) (hxd : ((x.toNat / 8 : Nat) : Int) = 1 + ν) :
    Calls Tryd.prog 10 #[.int .u8 kd, .int .u8 nm, .string s] w fun e w' => e = .returned (.bool true) ∧ Below w.heap.size w w' := by
  have HX := Lib.hid hxv; clear hxv
  have HP := Lib.hid (show parse ((⟨#[x]⟩ : ByteArray) ++ B).data.toList = some (⟨x.toNat / 8, 1, 0, B.data.toList.take 8⟩ :: rest) by rw [cat_list]; exact hp); clear hp
  have HV := Lib.hid hxd; clear hxd
  obtain ⟨T, hT⟩ : ∃ T : ByteArray, (⟨#[x]⟩ : ByteArray) = T := ⟨_, rfl⟩
  have hT1 : T.size = 1 := by rw [← hT]; rfl
  have hT1' : T.size ≤ 1 := by omega
  have hTB : (T ++ B).size ≤ 13 := by rw [ByteArray.size_append]; omega
  clear hT1
  rw [hT] at HP
  have HE := Lib.hid (examples_any b w hg)
  have HTB := Lib.hid hTB; clear hTB
  go_enter Tryd.func10, Tryd.ntmps10
  go_wp2_with fail
  refine HE.out.mono ?_
  rintro e w1 ⟨rfl, hb1⟩
  have hg1 := hg.below hb1
  have hcv := conv_one w1 x.toNat (8 * (1 + ν) + 1) HX.out (by omega)
  rw [show UInt8.ofNat x.toNat = x by simp, hT] at hcv
  go_wp2_with fail
  refine (parse_head (T ++ B) b _ HTB.out (hg1.alloc _) _ rest HP.out).mono ?_
  rintro e w2 ⟨⟨g, cap, len, rfl, hl1, hgl, c0, c1, c3⟩, hb2⟩
  have hl0 : (0 : Int) < (len : Int) := by omega
  rw [take_str] at c3
  simp only [HV.out] at c0
  clear hcv hT
  have hd1 : decide ((1 : Int) ≤ (len : Int)) = true := by simp; omega
  have hd8 : decide ((8 : Int) ≤ (B.size : Int)) = true := by simp; omega
  have hBel := Lib.hid (hb1.trans ((((Below.refl _ _).alloc (Nat.le_refl _) _).trans (hb2.mono (by simp))).mono hb1.size))
  clear hb1 hb2
  by_cases he : B.size = 8
  · have hq : ((B.size : Int) != 8) = false := by simp [he]
    have HEq := Lib.hid he; clear he
    go_wp2
    go_quiet (fail)
    go_wp2
    go_ret
    exact ⟨rfl, below_drewN hBel.out _⟩
  · have hq : ((B.size : Int) != 8) = true := by simp; omega
    go_wp2
    go_quiet (fail)
    go_wp2
    go_ret
    exact ⟨rfl, below_drewN hBel.out _⟩

set_option maxRecDepth 100000 in
set_option maxHeartbeats 2000000 in
theorem none1 (kd nm : Nat) (s B : ByteArray) (b : Addr) (w : World) (hg : Gv b w) (hB : s.extract 0 (min (s.size : Int) 12).toNat = B) (hBs : B.size ≤ 12) (ν : Int) (hν : (nm : Int) % 15 = ν) (_hν1 : 0 ≤ ν) (_hν2 : ν < 15) (hk : (kd : Int) % 8 = 1)
    (x : UInt8) (hx : x.toNat < 128) (hxv : (8 * (1 + ν) + 1 : Int) = x.toNat) (hp : parse (x :: B.data.toList) = none) (hsz : B.size ≠ 8) :
    Calls Tryd.prog 10 #[.int .u8 kd, .int .u8 nm, .string s] w fun e w' => e = .returned (.bool true) ∧ Below w.heap.size w w' := by
  have HX := Lib.hid hxv; clear hxv
  have HP := Lib.hid (show parse ((⟨#[x]⟩ : ByteArray) ++ B).data.toList = none by rw [cat_list]; exact hp); clear hp
  obtain ⟨T, hT⟩ : ∃ T : ByteArray, (⟨#[x]⟩ : ByteArray) = T := ⟨_, rfl⟩
  have hT1 : T.size = 1 := by rw [← hT]; rfl
  have hT1' : T.size ≤ 1 := by omega
  have hTB : (T ++ B).size ≤ 13 := by rw [ByteArray.size_append]; omega
  clear hT1
  rw [hT] at HP
  have HE := Lib.hid (examples_any b w hg)
  have HTB := Lib.hid hTB; clear hTB
  go_enter Tryd.func10, Tryd.ntmps10
  go_wp2_with fail
  refine HE.out.mono ?_
  rintro e w1 ⟨rfl, hb1⟩
  have hg1 := hg.below hb1
  have hcv := conv_one w1 x.toNat (8 * (1 + ν) + 1) HX.out (by omega)
  rw [show UInt8.ofNat x.toNat = x by simp, hT] at hcv
  go_wp2_with fail
  refine (parse_no (T ++ B) b _ HTB.out (hg1.alloc _) HP.out).mono ?_
  rintro e w2 ⟨rfl, hb2⟩
  clear hcv hT
  have hBel := Lib.hid (hb1.trans ((((Below.refl _ _).alloc (Nat.le_refl _) _).trans (hb2.mono (by simp))).mono hb1.size))
  clear hb1 hb2
  have hq : ((B.size : Int) != 8) = true := by simp; omega
  by_cases he : 8 ≤ B.size
  · have hd8 : decide ((8 : Int) ≤ (B.size : Int)) = true := by simp; omega
    clear hsz
    go_wp2
    go_quiet (fail)
    go_wp2
    go_ret
    exact ⟨rfl, below_drewN hBel.out _⟩
  · have hd8 : decide ((8 : Int) ≤ (B.size : Int)) = false := by simp; omega
    clear hsz
    go_wp2
    go_quiet (fail)
    go_wp2
    go_ret
    exact ⟨rfl, below_drewN hBel.out _⟩

set_option maxRecDepth 100000 in
set_option maxHeartbeats 2000000 in
theorem some5 (kd nm : Nat) (s B : ByteArray) (b : Addr) (w : World) (hg : Gv b w) (hB : s.extract 0 (min (s.size : Int) 12).toNat = B) (hBs : B.size ≤ 12) (ν : Int) (hν : (nm : Int) % 15 = ν) (_hν1 : 0 ≤ ν) (_hν2 : ν < 15) (hk : (kd : Int) % 8 = 5)
    (x : UInt8) (hx : x.toNat < 128) (hxv : (8 * (1 + ν) + 5 : Int) = x.toNat) (rest : List Fd) (hp : parse (x :: B.data.toList) = some (⟨x.toNat / 8, 5, 0, B.data.toList.take 4⟩ :: rest)) (h8 : 4 ≤ B.size) (hxd : ((x.toNat / 8 : Nat) : Int) = 1 + ν) :
    Calls Tryd.prog 10 #[.int .u8 kd, .int .u8 nm, .string s] w fun e w' => e = .returned (.bool true) ∧ Below w.heap.size w w' := by
  have HX := Lib.hid hxv; clear hxv
  have HP := Lib.hid (show parse ((⟨#[x]⟩ : ByteArray) ++ B).data.toList = some (⟨x.toNat / 8, 5, 0, B.data.toList.take 4⟩ :: rest) by rw [cat_list]; exact hp); clear hp
  have HV := Lib.hid hxd; clear hxd
  obtain ⟨T, hT⟩ : ∃ T : ByteArray, (⟨#[x]⟩ : ByteArray) = T := ⟨_, rfl⟩
  have hT1 : T.size = 1 := by rw [← hT]; rfl
  have hT1' : T.size ≤ 1 := by omega
  have hTB : (T ++ B).size ≤ 13 := by rw [ByteArray.size_append]; omega
  clear hT1
  rw [hT] at HP
  have HE := Lib.hid (examples_any b w hg)
  have HTB := Lib.hid hTB; clear hTB
  go_enter Tryd.func10, Tryd.ntmps10
  go_wp2_with fail
  refine HE.out.mono ?_
  rintro e w1 ⟨rfl, hb1⟩
  have hg1 := hg.below hb1
  have hcv := conv_one w1 x.toNat (8 * (1 + ν) + 5) HX.out (by omega)
  rw [show UInt8.ofNat x.toNat = x by simp, hT] at hcv
  go_wp2_with fail
  refine (parse_head (T ++ B) b _ HTB.out (hg1.alloc _) _ rest HP.out).mono ?_
  rintro e w2 ⟨⟨g, cap, len, rfl, hl1, hgl, c0, c1, c3⟩, hb2⟩
  have hl0 : (0 : Int) < (len : Int) := by omega
  rw [take_str] at c3
  simp only [HV.out] at c0
  clear hcv hT
  have hd1 : decide ((1 : Int) ≤ (len : Int)) = true := by simp; omega
  have hd8 : decide ((4 : Int) ≤ (B.size : Int)) = true := by simp; omega
  have hBel := Lib.hid (hb1.trans ((((Below.refl _ _).alloc (Nat.le_refl _) _).trans (hb2.mono (by simp))).mono hb1.size))
  clear hb1 hb2
  by_cases he : B.size = 4
  · have hq : ((B.size : Int) != 4) = false := by simp [he]
    have HEq := Lib.hid he; clear he
    go_wp2
    go_quiet (fail)
    go_wp2
    go_ret
    exact ⟨rfl, below_drewN hBel.out _⟩
  · have hq : ((B.size : Int) != 4) = true := by simp; omega
    go_wp2
    go_quiet (fail)
    go_wp2
    go_ret
    exact ⟨rfl, below_drewN hBel.out _⟩

set_option maxRecDepth 100000 in
set_option maxHeartbeats 2000000 in
theorem none5 (kd nm : Nat) (s B : ByteArray) (b : Addr) (w : World) (hg : Gv b w) (hB : s.extract 0 (min (s.size : Int) 12).toNat = B) (hBs : B.size ≤ 12) (ν : Int) (hν : (nm : Int) % 15 = ν) (_hν1 : 0 ≤ ν) (_hν2 : ν < 15) (hk : (kd : Int) % 8 = 5)
    (x : UInt8) (hx : x.toNat < 128) (hxv : (8 * (1 + ν) + 5 : Int) = x.toNat) (hp : parse (x :: B.data.toList) = none) (hsz : B.size ≠ 4) :
    Calls Tryd.prog 10 #[.int .u8 kd, .int .u8 nm, .string s] w fun e w' => e = .returned (.bool true) ∧ Below w.heap.size w w' := by
  have HX := Lib.hid hxv; clear hxv
  have HP := Lib.hid (show parse ((⟨#[x]⟩ : ByteArray) ++ B).data.toList = none by rw [cat_list]; exact hp); clear hp
  obtain ⟨T, hT⟩ : ∃ T : ByteArray, (⟨#[x]⟩ : ByteArray) = T := ⟨_, rfl⟩
  have hT1 : T.size = 1 := by rw [← hT]; rfl
  have hT1' : T.size ≤ 1 := by omega
  have hTB : (T ++ B).size ≤ 13 := by rw [ByteArray.size_append]; omega
  clear hT1
  rw [hT] at HP
  have HE := Lib.hid (examples_any b w hg)
  have HTB := Lib.hid hTB; clear hTB
  go_enter Tryd.func10, Tryd.ntmps10
  go_wp2_with fail
  refine HE.out.mono ?_
  rintro e w1 ⟨rfl, hb1⟩
  have hg1 := hg.below hb1
  have hcv := conv_one w1 x.toNat (8 * (1 + ν) + 5) HX.out (by omega)
  rw [show UInt8.ofNat x.toNat = x by simp, hT] at hcv
  go_wp2_with fail
  refine (parse_no (T ++ B) b _ HTB.out (hg1.alloc _) HP.out).mono ?_
  rintro e w2 ⟨rfl, hb2⟩
  clear hcv hT
  have hBel := Lib.hid (hb1.trans ((((Below.refl _ _).alloc (Nat.le_refl _) _).trans (hb2.mono (by simp))).mono hb1.size))
  clear hb1 hb2
  have hq : ((B.size : Int) != 4) = true := by simp; omega
  by_cases he : 4 ≤ B.size
  · have hd8 : decide ((4 : Int) ≤ (B.size : Int)) = true := by simp; omega
    clear hsz
    go_wp2
    go_quiet (fail)
    go_wp2
    go_ret
    exact ⟨rfl, below_drewN hBel.out _⟩
  · have hd8 : decide ((4 : Int) ≤ (B.size : Int)) = false := by simp; omega
    clear hsz
    go_wp2
    go_quiet (fail)
    go_wp2
    go_ret
    exact ⟨rfl, below_drewN hBel.out _⟩

set_option maxRecDepth 100000 in
set_option maxHeartbeats 2000000 in
theorem none0 (kd nm : Nat) (s B : ByteArray) (b : Addr) (w : World) (hg : Gv b w) (hB : s.extract 0 (min (s.size : Int) 12).toNat = B) (hBs : B.size ≤ 12) (ν : Int) (hν : (nm : Int) % 15 = ν) (_hν1 : 0 ≤ ν) (_hν2 : ν < 15) (hk : (kd : Int) % 8 = 0)
    (x : UInt8) (hx : x.toNat < 128) (hxv : (8 * (1 + ν) : Int) = x.toNat) (hp : parse (x :: B.data.toList) = none) :
    Calls Tryd.prog 10 #[.int .u8 kd, .int .u8 nm, .string s] w fun e w' => e = .returned (.bool true) ∧ Below w.heap.size w w' := by
  have HX := Lib.hid hxv; clear hxv
  have HP := Lib.hid (show parse ((⟨#[x]⟩ : ByteArray) ++ B).data.toList = none by rw [cat_list]; exact hp); clear hp
  obtain ⟨T, hT⟩ : ∃ T : ByteArray, (⟨#[x]⟩ : ByteArray) = T := ⟨_, rfl⟩
  have hT1 : T.size = 1 := by rw [← hT]; rfl
  have hT1' : T.size ≤ 1 := by omega
  have hTB : (T ++ B).size ≤ 13 := by rw [ByteArray.size_append]; omega
  clear hT1
  rw [hT] at HP
  have HE := Lib.hid (examples_any b w hg)
  have HTB := Lib.hid hTB; clear hTB
  go_enter Tryd.func10, Tryd.ntmps10
  go_wp2_with fail
  refine HE.out.mono ?_
  rintro e w1 ⟨rfl, hb1⟩
  have hg1 := hg.below hb1
  have hcv := conv_one w1 x.toNat (8 * (1 + ν)) HX.out (by omega)
  rw [show UInt8.ofNat x.toNat = x by simp, hT] at hcv
  go_wp2_with fail
  refine (parse_no (T ++ B) b _ HTB.out (hg1.alloc _) HP.out).mono ?_
  rintro e w2 ⟨rfl, hb2⟩
  clear hcv hT
  have hBel := Lib.hid (hb1.trans ((((Below.refl _ _).alloc (Nat.le_refl _) _).trans (hb2.mono (by simp))).mono hb1.size))
  clear hb1 hb2
  by_cases he : B.toList.isEmpty = true
  · have hd := he; clear he
    go_wp2
    go_ret
    exact ⟨rfl, hBel.out⟩
  · have hd : B.toList.isEmpty = false := by simpa using he
    clear he
    go_wp2
    go_ret
    exact ⟨rfl, hBel.out⟩

set_option maxRecDepth 100000 in
set_option maxHeartbeats 2000000 in
theorem none2 (kd nm : Nat) (s B : ByteArray) (b : Addr) (w : World) (hg : Gv b w) (hB : s.extract 0 (min (s.size : Int) 12).toNat = B) (hBs : B.size ≤ 12) (ν : Int) (hν : (nm : Int) % 15 = ν) (_hν1 : 0 ≤ ν) (_hν2 : ν < 15) (hk : (kd : Int) % 8 = 2)
    (x : UInt8) (hx : x.toNat < 128) (hxv : (8 * (1 + ν) + 2 : Int) = x.toNat) (hp : parse (x :: B.data.toList) = none) :
    Calls Tryd.prog 10 #[.int .u8 kd, .int .u8 nm, .string s] w fun e w' => e = .returned (.bool true) ∧ Below w.heap.size w w' := by
  have HX := Lib.hid hxv; clear hxv
  have HP := Lib.hid (show parse ((⟨#[x]⟩ : ByteArray) ++ B).data.toList = none by rw [cat_list]; exact hp); clear hp
  obtain ⟨T, hT⟩ : ∃ T : ByteArray, (⟨#[x]⟩ : ByteArray) = T := ⟨_, rfl⟩
  have hT1 : T.size = 1 := by rw [← hT]; rfl
  have hT1' : T.size ≤ 1 := by omega
  have hTB : (T ++ B).size ≤ 13 := by rw [ByteArray.size_append]; omega
  clear hT1
  rw [hT] at HP
  have HE := Lib.hid (examples_any b w hg)
  have HTB := Lib.hid hTB; clear hTB
  go_enter Tryd.func10, Tryd.ntmps10
  go_wp2_with fail
  refine HE.out.mono ?_
  rintro e w1 ⟨rfl, hb1⟩
  have hg1 := hg.below hb1
  have hcv := conv_one w1 x.toNat (8 * (1 + ν) + 2) HX.out (by omega)
  rw [show UInt8.ofNat x.toNat = x by simp, hT] at hcv
  go_wp2_with fail
  refine (parse_no (T ++ B) b _ HTB.out (hg1.alloc _) HP.out).mono ?_
  rintro e w2 ⟨rfl, hb2⟩
  clear hcv hT
  have hBel := Lib.hid (hb1.trans ((((Below.refl _ _).alloc (Nat.le_refl _) _).trans (hb2.mono (by simp))).mono hb1.size))
  clear hb1 hb2
  by_cases he : B.toList.isEmpty = true
  · have hd := he; clear he
    go_wp2
    go_ret
    exact ⟨rfl, hBel.out⟩
  · have hd : B.toList.isEmpty = false := by simpa using he
    clear he
    go_wp2
    go_ret
    exact ⟨rfl, hBel.out⟩

set_option maxRecDepth 100000 in
set_option maxHeartbeats 2000000 in
theorem none3 (kd nm : Nat) (s B : ByteArray) (b : Addr) (w : World) (hg : Gv b w) (hB : s.extract 0 (min (s.size : Int) 12).toNat = B) (hBs : B.size ≤ 12) (ν : Int) (hν : (nm : Int) % 15 = ν) (_hν1 : 0 ≤ ν) (_hν2 : ν < 15) (hk : (kd : Int) % 8 = 3)
    (x : UInt8) (hx : x.toNat < 128) (hxv : (8 * (1 + ν) + 3 : Int) = x.toNat) (hp : parse (x :: B.data.toList) = none) :
    Calls Tryd.prog 10 #[.int .u8 kd, .int .u8 nm, .string s] w fun e w' => e = .returned (.bool true) ∧ Below w.heap.size w w' := by
  have HX := Lib.hid hxv; clear hxv
  have HP := Lib.hid (show parse ((⟨#[x]⟩ : ByteArray) ++ B).data.toList = none by rw [cat_list]; exact hp); clear hp
  obtain ⟨T, hT⟩ : ∃ T : ByteArray, (⟨#[x]⟩ : ByteArray) = T := ⟨_, rfl⟩
  have hT1 : T.size = 1 := by rw [← hT]; rfl
  have hT1' : T.size ≤ 1 := by omega
  have hTB : (T ++ B).size ≤ 13 := by rw [ByteArray.size_append]; omega
  clear hT1
  rw [hT] at HP
  have HE := Lib.hid (examples_any b w hg)
  have HTB := Lib.hid hTB; clear hTB
  go_enter Tryd.func10, Tryd.ntmps10
  go_wp2_with fail
  refine HE.out.mono ?_
  rintro e w1 ⟨rfl, hb1⟩
  have hg1 := hg.below hb1
  have hcv := conv_one w1 x.toNat (8 * (1 + ν) + 3) HX.out (by omega)
  rw [show UInt8.ofNat x.toNat = x by simp, hT] at hcv
  go_wp2_with fail
  refine (parse_no (T ++ B) b _ HTB.out (hg1.alloc _) HP.out).mono ?_
  rintro e w2 ⟨rfl, hb2⟩
  clear hcv hT
  have hBel := Lib.hid (hb1.trans ((((Below.refl _ _).alloc (Nat.le_refl _) _).trans (hb2.mono (by simp))).mono hb1.size))
  clear hb1 hb2
  go_wp2
  go_ret
  exact ⟨rfl, hBel.out⟩

set_option maxRecDepth 100000 in
set_option maxHeartbeats 2000000 in
theorem none4 (kd nm : Nat) (s B : ByteArray) (b : Addr) (w : World) (hg : Gv b w) (hB : s.extract 0 (min (s.size : Int) 12).toNat = B) (hBs : B.size ≤ 12) (ν : Int) (hν : (nm : Int) % 15 = ν) (_hν1 : 0 ≤ ν) (_hν2 : ν < 15) (hk : (kd : Int) % 8 = 4)
    (x : UInt8) (hx : x.toNat < 128) (hxv : (8 * (1 + ν) + 4 : Int) = x.toNat) (hp : parse (x :: B.data.toList) = none) :
    Calls Tryd.prog 10 #[.int .u8 kd, .int .u8 nm, .string s] w fun e w' => e = .returned (.bool true) ∧ Below w.heap.size w w' := by
  have HX := Lib.hid hxv; clear hxv
  have HP := Lib.hid (show parse ((⟨#[x]⟩ : ByteArray) ++ B).data.toList = none by rw [cat_list]; exact hp); clear hp
  obtain ⟨T, hT⟩ : ∃ T : ByteArray, (⟨#[x]⟩ : ByteArray) = T := ⟨_, rfl⟩
  have hT1 : T.size = 1 := by rw [← hT]; rfl
  have hT1' : T.size ≤ 1 := by omega
  have hTB : (T ++ B).size ≤ 13 := by rw [ByteArray.size_append]; omega
  clear hT1
  rw [hT] at HP
  have HE := Lib.hid (examples_any b w hg)
  have HTB := Lib.hid hTB; clear hTB
  go_enter Tryd.func10, Tryd.ntmps10
  go_wp2_with fail
  refine HE.out.mono ?_
  rintro e w1 ⟨rfl, hb1⟩
  have hg1 := hg.below hb1
  have hcv := conv_one w1 x.toNat (8 * (1 + ν) + 4) HX.out (by omega)
  rw [show UInt8.ofNat x.toNat = x by simp, hT] at hcv
  go_wp2_with fail
  refine (parse_no (T ++ B) b _ HTB.out (hg1.alloc _) HP.out).mono ?_
  rintro e w2 ⟨rfl, hb2⟩
  clear hcv hT
  have hBel := Lib.hid (hb1.trans ((((Below.refl _ _).alloc (Nat.le_refl _) _).trans (hb2.mono (by simp))).mono hb1.size))
  clear hb1 hb2
  go_wp2
  go_ret
  exact ⟨rfl, hBel.out⟩

set_option maxRecDepth 100000 in
set_option maxHeartbeats 2000000 in
theorem none6 (kd nm : Nat) (s B : ByteArray) (b : Addr) (w : World) (hg : Gv b w) (hB : s.extract 0 (min (s.size : Int) 12).toNat = B) (hBs : B.size ≤ 12) (ν : Int) (hν : (nm : Int) % 15 = ν) (_hν1 : 0 ≤ ν) (_hν2 : ν < 15) (hk : (kd : Int) % 8 = 6)
    (x : UInt8) (hx : x.toNat < 128) (hxv : (8 * (1 + ν) + 6 : Int) = x.toNat) (hp : parse (x :: B.data.toList) = none) :
    Calls Tryd.prog 10 #[.int .u8 kd, .int .u8 nm, .string s] w fun e w' => e = .returned (.bool true) ∧ Below w.heap.size w w' := by
  have HX := Lib.hid hxv; clear hxv
  have HP := Lib.hid (show parse ((⟨#[x]⟩ : ByteArray) ++ B).data.toList = none by rw [cat_list]; exact hp); clear hp
  obtain ⟨T, hT⟩ : ∃ T : ByteArray, (⟨#[x]⟩ : ByteArray) = T := ⟨_, rfl⟩
  have hT1 : T.size = 1 := by rw [← hT]; rfl
  have hT1' : T.size ≤ 1 := by omega
  have hTB : (T ++ B).size ≤ 13 := by rw [ByteArray.size_append]; omega
  clear hT1
  rw [hT] at HP
  have HE := Lib.hid (examples_any b w hg)
  have HTB := Lib.hid hTB; clear hTB
  go_enter Tryd.func10, Tryd.ntmps10
  go_wp2_with fail
  refine HE.out.mono ?_
  rintro e w1 ⟨rfl, hb1⟩
  have hg1 := hg.below hb1
  have hcv := conv_one w1 x.toNat (8 * (1 + ν) + 6) HX.out (by omega)
  rw [show UInt8.ofNat x.toNat = x by simp, hT] at hcv
  go_wp2_with fail
  refine (parse_no (T ++ B) b _ HTB.out (hg1.alloc _) HP.out).mono ?_
  rintro e w2 ⟨rfl, hb2⟩
  clear hcv hT
  have hBel := Lib.hid (hb1.trans ((((Below.refl _ _).alloc (Nat.le_refl _) _).trans (hb2.mono (by simp))).mono hb1.size))
  clear hb1 hb2
  go_wp2
  go_ret
  exact ⟨rfl, hBel.out⟩

set_option maxRecDepth 100000 in
set_option maxHeartbeats 2000000 in
theorem none7 (kd nm : Nat) (s B : ByteArray) (b : Addr) (w : World) (hg : Gv b w) (hB : s.extract 0 (min (s.size : Int) 12).toNat = B) (hBs : B.size ≤ 12) (ν : Int) (hν : (nm : Int) % 15 = ν) (_hν1 : 0 ≤ ν) (_hν2 : ν < 15) (hk : (kd : Int) % 8 = 7)
    (x : UInt8) (hx : x.toNat < 128) (hxv : (8 * (1 + ν) + 7 : Int) = x.toNat) (hp : parse (x :: B.data.toList) = none) :
    Calls Tryd.prog 10 #[.int .u8 kd, .int .u8 nm, .string s] w fun e w' => e = .returned (.bool true) ∧ Below w.heap.size w w' := by
  have HX := Lib.hid hxv; clear hxv
  have HP := Lib.hid (show parse ((⟨#[x]⟩ : ByteArray) ++ B).data.toList = none by rw [cat_list]; exact hp); clear hp
  obtain ⟨T, hT⟩ : ∃ T : ByteArray, (⟨#[x]⟩ : ByteArray) = T := ⟨_, rfl⟩
  have hT1 : T.size = 1 := by rw [← hT]; rfl
  have hT1' : T.size ≤ 1 := by omega
  have hTB : (T ++ B).size ≤ 13 := by rw [ByteArray.size_append]; omega
  clear hT1
  rw [hT] at HP
  have HE := Lib.hid (examples_any b w hg)
  have HTB := Lib.hid hTB; clear hTB
  go_enter Tryd.func10, Tryd.ntmps10
  go_wp2_with fail
  refine HE.out.mono ?_
  rintro e w1 ⟨rfl, hb1⟩
  have hg1 := hg.below hb1
  have hcv := conv_one w1 x.toNat (8 * (1 + ν) + 7) HX.out (by omega)
  rw [show UInt8.ofNat x.toNat = x by simp, hT] at hcv
  go_wp2_with fail
  refine (parse_no (T ++ B) b _ HTB.out (hg1.alloc _) HP.out).mono ?_
  rintro e w2 ⟨rfl, hb2⟩
  clear hcv hT
  have hBel := Lib.hid (hb1.trans ((((Below.refl _ _).alloc (Nat.le_refl _) _).trans (hb2.mono (by simp))).mono hb1.size))
  clear hb1 hb2
  go_wp2
  go_ret
  exact ⟨rfl, hBel.out⟩

set_option maxRecDepth 100000 in
set_option maxHeartbeats 2000000 in
theorem num0 (kd nm : Nat) (s B : ByteArray) (b : Addr) (w : World) (hg : Gv b w) (hB : s.extract 0 (min (s.size : Int) 12).toNat = B) (hBs : B.size ≤ 12) (ν : Int) (hν : (nm : Int) % 15 = ν) (_hν1 : 0 ≤ ν) (_hν2 : ν < 15) (hk : (kd : Int) % 8 = 0)
    (x : UInt8) (hx : x.toNat < 128) (hxv : (8 * (1 + ν) : Int) = x.toNat) (n : Nat) (sl : List UInt8) (rest : List Fd) (hp : parse (x :: B.data.toList) = some (⟨x.toNat / 8, 0, n, sl⟩ :: rest)) (hne : B.toList.isEmpty = false) (hxd : ((x.toNat / 8 : Nat) : Int) = 1 + ν) :
    Calls Tryd.prog 10 #[.int .u8 kd, .int .u8 nm, .string s] w fun e w' => e = .returned (.bool true) ∧ Below w.heap.size w w' := by
  have HX := Lib.hid hxv; clear hxv
  have HP := Lib.hid (show parse ((⟨#[x]⟩ : ByteArray) ++ B).data.toList = some (⟨x.toNat / 8, 0, n, sl⟩ :: rest) by rw [cat_list]; exact hp); clear hp
  have HV := Lib.hid hxd; clear hxd
  obtain ⟨T, hT⟩ : ∃ T : ByteArray, (⟨#[x]⟩ : ByteArray) = T := ⟨_, rfl⟩
  have hT1 : T.size = 1 := by rw [← hT]; rfl
  have hT1' : T.size ≤ 1 := by omega
  have hTB : (T ++ B).size ≤ 13 := by rw [ByteArray.size_append]; omega
  clear hT1
  rw [hT] at HP
  have HE := Lib.hid (examples_any b w hg)
  have HTB := Lib.hid hTB; clear hTB
  go_enter Tryd.func10, Tryd.ntmps10
  go_wp2_with fail
  refine HE.out.mono ?_
  rintro e w1 ⟨rfl, hb1⟩
  have hg1 := hg.below hb1
  have hcv := conv_one w1 x.toNat (8 * (1 + ν)) HX.out (by omega)
  rw [show UInt8.ofNat x.toNat = x by simp, hT] at hcv
  go_wp2_with fail
  refine (parse_head (T ++ B) b _ HTB.out (hg1.alloc _) _ rest HP.out).mono ?_
  rintro e w2 ⟨⟨g, cap, len, rfl, hl1, hgl, c0, c1, c3⟩, hb2⟩
  have hl0 : (0 : Int) < (len : Int) := by omega
  simp only [HV.out] at c0
  clear hcv hT
  have hd1 : decide ((1 : Int) ≤ (len : Int)) = true := by simp; omega
  have hBel := Lib.hid (hb1.trans ((((Below.refl _ _).alloc (Nat.le_refl _) _).trans (hb2.mono (by simp))).mono hb1.size))
  clear hb1 hb2
  go_wp2
  go_ret
  exact ⟨rfl, hBel.out⟩

set_option maxRecDepth 100000 in
set_option maxHeartbeats 2000000 in
theorem num2 (kd nm : Nat) (s B : ByteArray) (b : Addr) (w : World) (hg : Gv b w) (hB : s.extract 0 (min (s.size : Int) 12).toNat = B) (hBs : B.size ≤ 12) (ν : Int) (hν : (nm : Int) % 15 = ν) (_hν1 : 0 ≤ ν) (_hν2 : ν < 15) (hk : (kd : Int) % 8 = 2)
    (x : UInt8) (hx : x.toNat < 128) (hxv : (8 * (1 + ν) + 2 : Int) = x.toNat) (n : Nat) (sl : List UInt8) (rest : List Fd) (hp : parse (x :: B.data.toList) = some (⟨x.toNat / 8, 2, n, sl⟩ :: rest)) (hne : B.toList.isEmpty = false) (hxd : ((x.toNat / 8 : Nat) : Int) = 1 + ν) :
    Calls Tryd.prog 10 #[.int .u8 kd, .int .u8 nm, .string s] w fun e w' => e = .returned (.bool true) ∧ Below w.heap.size w w' := by
  have HX := Lib.hid hxv; clear hxv
  have HP := Lib.hid (show parse ((⟨#[x]⟩ : ByteArray) ++ B).data.toList = some (⟨x.toNat / 8, 2, n, sl⟩ :: rest) by rw [cat_list]; exact hp); clear hp
  have HV := Lib.hid hxd; clear hxd
  obtain ⟨T, hT⟩ : ∃ T : ByteArray, (⟨#[x]⟩ : ByteArray) = T := ⟨_, rfl⟩
  have hT1 : T.size = 1 := by rw [← hT]; rfl
  have hT1' : T.size ≤ 1 := by omega
  have hTB : (T ++ B).size ≤ 13 := by rw [ByteArray.size_append]; omega
  clear hT1
  rw [hT] at HP
  have HE := Lib.hid (examples_any b w hg)
  have HTB := Lib.hid hTB; clear hTB
  go_enter Tryd.func10, Tryd.ntmps10
  go_wp2_with fail
  refine HE.out.mono ?_
  rintro e w1 ⟨rfl, hb1⟩
  have hg1 := hg.below hb1
  have hcv := conv_one w1 x.toNat (8 * (1 + ν) + 2) HX.out (by omega)
  rw [show UInt8.ofNat x.toNat = x by simp, hT] at hcv
  go_wp2_with fail
  refine (parse_head (T ++ B) b _ HTB.out (hg1.alloc _) _ rest HP.out).mono ?_
  rintro e w2 ⟨⟨g, cap, len, rfl, hl1, hgl, c0, c1, c3⟩, hb2⟩
  have hl0 : (0 : Int) < (len : Int) := by omega
  simp only [HV.out] at c0
  clear hcv hT
  have hd1 : decide ((1 : Int) ≤ (len : Int)) = true := by simp; omega
  have hBel := Lib.hid (hb1.trans ((((Below.refl _ _).alloc (Nat.le_refl _) _).trans (hb2.mono (by simp))).mono hb1.size))
  clear hb1 hb2
  go_wp2
  go_ret
  exact ⟨rfl, hBel.out⟩

/-- All the kinds together. -/
theorem walk (kd nm : Nat) (s : ByteArray) (b : Addr) (w : World) (hg : Gv b w) :
    Calls Tryd.prog 10 #[.int .u8 kd, .int .u8 nm, .string s] w fun e w' => e = .returned (.bool true) ∧ Below w.heap.size w w' := by
  obtain ⟨B, hB⟩ : ∃ B, s.extract 0 (min (s.size : Int) 12).toNat = B := ⟨_, rfl⟩
  have hBs : B.size ≤ 12 := by rw [← hB]; simp; omega
  obtain ⟨ν, hν⟩ : ∃ ν : Int, (nm : Int) % 15 = ν := ⟨_, rfl⟩
  have hν1 : 0 ≤ ν := by omega
  have hν2 : ν < 15 := by omega
  have hlen : B.data.toList.length = B.size := by simp
  have hκ : kd % 8 < 8 := by omega
  obtain ⟨x, hx0, hx1, hx2, hx3, hx4, hx5⟩ := byte_x ν (kd % 8) hν1 hν2 hκ
  have hem : 0 < B.data.toList.length → B.toList.isEmpty = false := by
    intro h
    have h2 : B.toList.length = B.size := by rw [Lib.toList_data]; simp
    cases hb : B.toList with
    | nil => rw [hb] at h2; simp at h2; omega
    | cons a t => rfl
  have hcases : kd % 8 = 0 ∨ kd % 8 = 1 ∨ kd % 8 = 2 ∨ kd % 8 = 3 ∨ kd % 8 = 4 ∨ kd % 8 = 5 ∨ kd % 8 = 6 ∨ kd % 8 = 7 := by omega
  rcases hcases with h | h | h | h | h | h | h | h
  · rw [h] at hx3 hx5
    have h1 := kinds_num (bl := B.data.toList) hx1 hx2 hx3 (by omega)
    cases hp : parse (x :: B.data.toList) with
    | none => exact none0 kd nm s B b w hg hB hBs ν hν hν1 hν2 (by omega) x hx1 (by simpa using hx5) hp
    | some fs =>
      obtain ⟨h3, n, sl, rest, rfl⟩ := h1 fs hp
      exact num0 kd nm s B b w hg hB hBs ν hν hν1 hν2 (by omega) x hx1 (by simpa using hx5) n sl rest hp (hem h3) hx4
  · rw [h] at hx3 hx5
    obtain ⟨h1, h2⟩ := kinds_fixed (bl := B.data.toList) hx1 hx2 hx3 (σ := 8) (by omega)
    cases hp : parse (x :: B.data.toList) with
    | none => exact none1 kd nm s B b w hg hB hBs ν hν hν1 hν2 (by omega) x hx1 (by simpa using hx5) hp (by have := h2 hp; rw [hlen] at this; exact this)
    | some fs =>
      obtain ⟨h3, rest, rfl⟩ := h1 fs hp
      exact some1 kd nm s B b w hg hB hBs ν hν hν1 hν2 (by omega) x hx1 (by simpa using hx5) rest hp (by rw [hlen] at h3; exact h3) hx4
  · rw [h] at hx3 hx5
    have h1 := kinds_num (bl := B.data.toList) hx1 hx2 hx3 (by omega)
    cases hp : parse (x :: B.data.toList) with
    | none => exact none2 kd nm s B b w hg hB hBs ν hν hν1 hν2 (by omega) x hx1 (by simpa using hx5) hp
    | some fs =>
      obtain ⟨h3, n, sl, rest, rfl⟩ := h1 fs hp
      exact num2 kd nm s B b w hg hB hBs ν hν hν1 hν2 (by omega) x hx1 (by simpa using hx5) n sl rest hp (hem h3) hx4
  · rw [h] at hx3 hx5
    exact none3 kd nm s B b w hg hB hBs ν hν hν1 hν2 (by omega) x hx1 (by simpa using hx5) (kinds_bad hx1 (by rw [hx3]; rfl))
  · rw [h] at hx3 hx5
    exact none4 kd nm s B b w hg hB hBs ν hν hν1 hν2 (by omega) x hx1 (by simpa using hx5) (kinds_bad hx1 (by rw [hx3]; rfl))
  · rw [h] at hx3 hx5
    obtain ⟨h1, h2⟩ := kinds_fixed (bl := B.data.toList) hx1 hx2 hx3 (σ := 4) (by omega)
    cases hp : parse (x :: B.data.toList) with
    | none => exact none5 kd nm s B b w hg hB hBs ν hν hν1 hν2 (by omega) x hx1 (by simpa using hx5) hp (by have := h2 hp; rw [hlen] at this; exact this)
    | some fs =>
      obtain ⟨h3, rest, rfl⟩ := h1 fs hp
      exact some5 kd nm s B b w hg hB hBs ν hν hν1 hν2 (by omega) x hx1 (by simpa using hx5) rest hp (by rw [hlen] at h3; exact h3) hx4
  · rw [h] at hx3 hx5
    exact none6 kd nm s B b w hg hB hBs ν hν hν1 hν2 (by omega) x hx1 (by simpa using hx5) (kinds_bad hx1 (by rw [hx3]; rfl))
  · rw [h] at hx3 hx5
    exact none7 kd nm s B b w hg hB hBs ν hν hν1 hν2 (by omega) x hx1 (by simpa using hx5) (kinds_bad hx1 (by rw [hx3]; rfl))

set_option maxRecDepth 100000 in
theorem contract (H : Type) (enc : TypeId × Value → H) (W : World) (base : Nat) (args : Array Value) (ds gs : List (DataW H)) (before : List MemPlace)
    (hval : ∀ (j : Nat) t v, Tryd.f10.params[j]? = some t → args[j]? = some v → Value.okWide Tryd.prog W .any base t v)
    (hW : DataW.Whole enc Tryd.prog Tryd.f10.params.toList Rows.wireKindsSpec.vars false W args.toList ds gs before) (hL : laidMetH Tryd.prog Rows.wireKindsRow.laid W) :
    Calls Tryd.prog 10 args W fun e W' => ∃ v, e = .returned v ∧ Rows.wireKindsSpec.post enc Tryd.prog Tryd.f10 false true false false W args v W' := by
  have hW' := hW
  obtain ⟨p, q, hA0, hV, rfl, hfz, hnd⟩ := hW
  have hA : DataW.TrodAll enc Tryd.prog W 0 (fun _ => true) true Tryd.f10.params.toList args.toList ds p := hA0
  rw [Tryd.params10] at hA hval
  obtain ⟨v0, vs0, d0, ds0, p0, q0, hargs, rfl, rfl, h0, r0⟩ := trodAll_cons hA
  obtain ⟨v1, vs1, d1, ds1, p1, q1, rfl, rfl, rfl, h1, r1⟩ := trodAll_cons r0
  obtain ⟨v2, vs2, d2, ds2, p2, q2, rfl, rfl, rfl, h2, r2⟩ := trodAll_cons r1
  obtain ⟨rfl, rfl, rfl⟩ := trodAll_nil r2
  obtain rfl : args = #[v0, v1, v2] := by cases args; simp_all
  obtain ⟨rfl, rfl⟩ := trodVars_none hV
  obtain ⟨x0, rfl, rfl, rfl, wx0⟩ := open_int Tryd.underlying5 (hval 0 5 v0 rfl rfl) h0
  obtain ⟨x1, rfl, rfl, rfl, wx1⟩ := open_int Tryd.underlying5 (hval 1 5 v1 rfl rfl) h1
  obtain ⟨x2, rfl, rfl, rfl, wx2⟩ := open_string Tryd.underlying9 (hval 2 9 v2 rfl rfl) h2
  clear hA0
  simp only [List.append_nil] at hW'
  obtain ⟨b, hg⟩ := gv_of_laid hL
  have bx0 := bounds_u8 wx0
  obtain ⟨n0, rfl⟩ := Int.eq_ofNat_of_zero_le bx0.1
  have bx1 := bounds_u8 wx1
  obtain ⟨n1, rfl⟩ := Int.eq_ofNat_of_zero_le bx1.1
  refine (walk n0 n1 x2 b W hg).mono fun e W' ⟨he, hb⟩ => ?_
  subst he
  exact ⟨_, rfl, post_of_below (pa := []) (pv := []) hW' (fun _ _ _ => trodAll_cons_mk (shut_bool Tryd.underlying4 _) trodAll_mk0) (fun _ _ => trodAll_cons_mk (shut_int Tryd.underlying5 wx0) (trodAll_cons_mk (shut_int Tryd.underlying5 wx1) (trodAll_cons_mk (shut_string Tryd.underlying9 wx2) (trodAll_mk0)))) (fun _ _ => rfl) rfl
    hb (ok_one (by kernel_rfl) rfl (okWide_bool_mk Tryd.underlying4 _))⟩

theorem reads (os : Os) {H : Type} (enc : TypeId × Value → H) : ∃ places, DataW.whole enc Tryd.prog ((laidWorld os).forCall (fun _ _ => 0) ⟨#[], #[.int .u8 0, .int .u8 0, .string ⟨#[]⟩], []⟩).memory Tryd.f10.params.toList Rows.wireKindsSpec.vars false (#[.int .u8 0, .int .u8 0, .string ⟨#[]⟩] : Array Value).toList 8 = some ([.lit (.int .u8 0), .lit (.int .u8 0), .lit (.string [])], [], places) :=
  ⟨[], by kernel_rfl⟩

set_option maxRecDepth 100000 in
theorem lifted (os : Os) (started : os.Started) (H : Type) (enc : TypeId × Value → H) (F : Stop.Interp) :
    ReturnsInHanded {} Tryd.checked os 10 .any ((OpenSpec.ofChange Rows.wireKindsSpec).preRow enc Tryd.prog Tryd.f10 Rows.wireKindsRow.domain false Rows.wireKindsRow.laid) (((OpenSpec.ofChange Rows.wireKindsSpec).at F).post enc Tryd.prog Tryd.f10 false true false false) := by
  obtain ⟨places, hx⟩ := reads os enc
  refine returnsInHanded_of_row (C := Tryd.checked) (s := (OpenSpec.ofChange Rows.wireKindsSpec)) Tryd.own started (by kernel_rfl) Tryd.func10
    (witness_row_at (enc := enc) (C := Tryd.checked) false (laidWorld os) #[.int .u8 0, .int .u8 0, .string ⟨#[]⟩] rfl (by kernel_rfl) (by kernel_rfl) (by kernel_rfl)
      (OpenSpec.preRow_of_cond 8 hx (by kernel_rfl) (fun k hk => by cases hk) (by kernel_rfl) (laid_met os _))) ?_
  intro W base args ds gs before hval hW _ _ _ hL _ _
  exact contract H enc W base args ds gs before hval hW hL

theorem said : Rows.WireKindsSaid :=
  OpenClaim.holds_of_cond 10 Tryd.f10 rfl rfl rfl rfl rfl rfl rfl ⟨rfl, rfl, rfl, rfl, rfl⟩ rfl rfl rfl rfl rfl (by kernel_rfl) Tryd.func10 (by kernel_rfl)
    (of_decide_eq_true (by kernel_rfl)) (by unfold Func.isWrapper; first | (rw [if_pos (by decide +kernel)]; kernel_rfl) | (rw [if_neg (by decide +kernel)]; exact ⟨rfl, rfl⟩))
    (fun os started H enc _ F => by rw [OpenClaim.pre_eq_preRow]; exact lifted os started H enc F)

theorem plain (f : FuncId) (fn : Func) (hf : Tryd.pinned.checked.prog.funcNamed "noria/norialaw01.WireKinds" = some f) (hfn : Tryd.pinned.checked.prog.funcs[f]? = some fn) :
    true = Tryd.pinned.checked.prog.looks [] ∧ ∀ (j : Nat) t, fn.params[j]? = some t → Tryd.pinned.checked.prog.wantsStandIn t = false := by
  obtain rfl : f = 10 := Option.some.inj ((show Tryd.prog.funcNamed "noria/norialaw01.WireKinds" = some 10 by kernel_rfl).symm.trans hf) |>.symm
  obtain rfl : fn = Tryd.f10 := (Option.some.inj (Tryd.func10.symm.trans hfn)).symm
  refine ⟨by kernel_rfl, fun j t ht => ?_⟩
  rw [Tryd.params10] at ht
  have hm := Array.mem_of_getElem? ht
  simp only [List.mem_toArray, List.mem_cons, List.not_mem_nil, or_false] at hm
  rcases hm with rfl | rfl | rfl
  · exact (show Tryd.prog.wantsStandIn 5 = false by kernel_rfl)
  · exact (show Tryd.prog.wantsStandIn 5 = false by kernel_rfl)
  · exact (show Tryd.prog.wantsStandIn 9 = false by kernel_rfl)

theorem card : Rows.WireKindsCardSaid :=
  Claim7.holds_tied_plain_at .later [] _ _ _ _ said (fun _ h => by cases h) (by kernel_rfl) (fun _ h => by cases h) wireKinds_row_tie rfl ⟨rfl, rfl⟩ (by kernel_rfl) rfl plain (by kernel_rfl)
end Go.Proofs.YtjgelcneamijdaaDoor.lawKinds
