import Derived.Test.YtpgpoeljbppggaaDoorPinJ
import Derived.Test.YtpgpoeljbppggaaDoorOpOf
import Derived.Test.YtpgpoeljbppggaaDoorCsI
import Derived.WalkKit
import Derived.ProofKit
import Derived.OpenShut
import Derived.ShutString
import Derived.ChangeOld
import Derived.Below
import Derived.WalkSpells
import Derived.Deep.QuietTactic
import Derived.BigQuiet
import Derived.Deep.RegionWith
import Derived.Deep.WholeRow
import Derived.Deep.DeepCutAuto
import Derived.Deep.RegionHeld2
import Derived.Deep.AppendLies
import Derived.Deep.RegionLaw
namespace Go.Proofs.YtpgpoeljbppggaaDoor
open Go.ChangeShapes Go.WideShapes Go.ChangeAt Go.RowKit

/-- what opOfWord says of a word. -/
def OpAns (x : Nat → ByteArray) (wd : ByteArray) (o : Int) : Prop := (o = -1 ∧ ∀ j, j < 16 → x j ≠ wd) ∨ ∃ j : Nat, j < 16 ∧ o = j ∧ x j = wd

def noI : Value := .tuple #[.agg #[.int .i64 0, .int .i64 0, .int .i64 0, .int .i64 0], .bool false]

def rdV (o : Int) : Option (Int × Int × Int) → Value
  | none => noI
  | some v => if o < 0 then noI else .tuple #[.agg #[.int .i64 o, .int .i64 v.1, .int .i64 v.2.1, .int .i64 v.2.2], .bool true]

theorem rdV_no {o : Int} {r : Option (Int × Int × Int)} (h : o < 0 ∨ r = none) : rdV o r = noI := by
  cases r with
  | none => rfl
  | some v =>
    rcases h with h | h
    · exact if_pos h
    · contradiction

theorem rdV_yes {o : Int} {p q t : Int} (h : 0 ≤ o) : rdV o (some (p, q, t)) = .tuple #[.agg #[.int .i64 o, .int .i64 p, .int .i64 q, .int .i64 t], .bool true] := if_neg (by omega)

def fits (v : Int) : Prop := 0 ≤ v ∧ v ≤ 63

abbrev RJ0 (s : ByteArray) (w : World) (a2 : Act) (w2 : World) : Prop := ∃ (k : Nat) (p q t : Int), a2 = { tmps := #[.string s, a2.tmps.getD 1 undef, .pointer (some ⟨w.heap.size, 0, none⟩), .bool false, a2.tmps.getD 4 undef, a2.tmps.getD 5 undef, .pointer (some ⟨w.heap.size + 1, 0, none⟩), .int .i64 (k : Int), .int .i64 0, a2.tmps.getD 9 undef, a2.tmps.getD 10 undef, a2.tmps.getD 11 undef, a2.tmps.getD 12 undef, a2.tmps.getD 13 undef, a2.tmps.getD 14 undef, a2.tmps.getD 15 undef, a2.tmps.getD 16 undef, a2.tmps.getD 17 undef, a2.tmps.getD 18 undef, a2.tmps.getD 19 undef, a2.tmps.getD 20 undef, a2.tmps.getD 21 undef, a2.tmps.getD 22 undef, a2.tmps.getD 23 undef, a2.tmps.getD 24 undef, a2.tmps.getD 25 undef, a2.tmps.getD 26 undef, a2.tmps.getD 27 undef, a2.tmps.getD 28 undef, a2.tmps.getD 29 undef, a2.tmps.getD 30 undef, a2.tmps.getD 31 undef, a2.tmps.getD 32 undef, a2.tmps.getD 33 undef, a2.tmps.getD 34 undef, a2.tmps.getD 35 undef, a2.tmps.getD 36 undef, a2.tmps.getD 37 undef, a2.tmps.getD 38 undef, a2.tmps.getD 39 undef, a2.tmps.getD 40 undef, a2.tmps.getD 41 undef, a2.tmps.getD 42 undef, a2.tmps.getD 43 undef, a2.tmps.getD 44 undef, a2.tmps.getD 45 undef, a2.tmps.getD 46 undef, a2.tmps.getD 47 undef, a2.tmps.getD 48 undef, a2.tmps.getD 49 undef, a2.tmps.getD 50 undef, a2.tmps.getD 51 undef, a2.tmps.getD 52 undef, a2.tmps.getD 53 undef, a2.tmps.getD 54 undef, a2.tmps.getD 55 undef, a2.tmps.getD 56 undef, a2.tmps.getD 57 undef, a2.tmps.getD 58 undef, a2.tmps.getD 59 undef, a2.tmps.getD 60 undef, a2.tmps.getD 61 undef, a2.tmps.getD 62 undef, a2.tmps.getD 63 undef, a2.tmps.getD 64 undef, a2.tmps.getD 65 undef, a2.tmps.getD 66 undef, a2.tmps.getD 67 undef, a2.tmps.getD 68 undef, a2.tmps.getD 69 undef, a2.tmps.getD 70 undef, a2.tmps.getD 71 undef, a2.tmps.getD 72 undef, a2.tmps.getD 73 undef, a2.tmps.getD 74 undef, a2.tmps.getD 75 undef, a2.tmps.getD 76 undef, a2.tmps.getD 77 undef, a2.tmps.getD 78 undef, a2.tmps.getD 79 undef, a2.tmps.getD 80 undef, a2.tmps.getD 81 undef, a2.tmps.getD 82 undef, a2.tmps.getD 83 undef, a2.tmps.getD 84 undef, a2.tmps.getD 85 undef], defers := [] } ∧ k ≤ s.size ∧ (∀ j, j < k → byt s j ≠ 32) ∧ (p = 0 ∧ q = 0 ∧ t = 0) ∧ Mm w w2 [] [(w.heap.size + 1, w.heap.size + 1 + 1, Cs (w.heap.size + 1) [.int .i64 p, .int .i64 q, .int .i64 t]), (w.heap.size, w.heap.size + 1, Cs w.heap.size [.int .i64 0, .int .i64 0, .int .i64 0, .int .i64 0])]
abbrev RJ1 (s : ByteArray) (x : Nat → ByteArray) (wd : ByteArray) (R : Option (Int × Int × Int)) (w : World) (a2 : Act) (w2 : World) : Prop := ∃ (o p q t : Int), a2 = { tmps := #[.string s, a2.tmps.getD 1 undef, .pointer (some ⟨w.heap.size, 0, none⟩), .bool false, a2.tmps.getD 4 undef, a2.tmps.getD 5 undef, .pointer (some ⟨w.heap.size + 1, 0, none⟩), a2.tmps.getD 7 undef, a2.tmps.getD 8 undef, a2.tmps.getD 9 undef, a2.tmps.getD 10 undef, a2.tmps.getD 11 undef, a2.tmps.getD 12 undef, a2.tmps.getD 13 undef, a2.tmps.getD 14 undef, a2.tmps.getD 15 undef, a2.tmps.getD 16 undef, a2.tmps.getD 17 undef, a2.tmps.getD 18 undef, a2.tmps.getD 19 undef, a2.tmps.getD 20 undef, a2.tmps.getD 21 undef, a2.tmps.getD 22 undef, a2.tmps.getD 23 undef, a2.tmps.getD 24 undef, a2.tmps.getD 25 undef, a2.tmps.getD 26 undef, a2.tmps.getD 27 undef, a2.tmps.getD 28 undef, a2.tmps.getD 29 undef, a2.tmps.getD 30 undef, a2.tmps.getD 31 undef, a2.tmps.getD 32 undef, a2.tmps.getD 33 undef, a2.tmps.getD 34 undef, a2.tmps.getD 35 undef, a2.tmps.getD 36 undef, a2.tmps.getD 37 undef, a2.tmps.getD 38 undef, a2.tmps.getD 39 undef, a2.tmps.getD 40 undef, a2.tmps.getD 41 undef, a2.tmps.getD 42 undef, a2.tmps.getD 43 undef, a2.tmps.getD 44 undef, a2.tmps.getD 45 undef, a2.tmps.getD 46 undef, a2.tmps.getD 47 undef, a2.tmps.getD 48 undef, a2.tmps.getD 49 undef, a2.tmps.getD 50 undef, a2.tmps.getD 51 undef, a2.tmps.getD 52 undef, a2.tmps.getD 53 undef, a2.tmps.getD 54 undef, a2.tmps.getD 55 undef, a2.tmps.getD 56 undef, a2.tmps.getD 57 undef, a2.tmps.getD 58 undef, a2.tmps.getD 59 undef, a2.tmps.getD 60 undef, a2.tmps.getD 61 undef, a2.tmps.getD 62 undef, a2.tmps.getD 63 undef, a2.tmps.getD 64 undef, a2.tmps.getD 65 undef, a2.tmps.getD 66 undef, a2.tmps.getD 67 undef, a2.tmps.getD 68 undef, a2.tmps.getD 69 undef, a2.tmps.getD 70 undef, a2.tmps.getD 71 undef, a2.tmps.getD 72 undef, a2.tmps.getD 73 undef, a2.tmps.getD 74 undef, a2.tmps.getD 75 undef, a2.tmps.getD 76 undef, a2.tmps.getD 77 undef, a2.tmps.getD 78 undef, a2.tmps.getD 79 undef, a2.tmps.getD 80 undef, a2.tmps.getD 81 undef, a2.tmps.getD 82 undef, a2.tmps.getD 83 undef, a2.tmps.getD 84 undef, a2.tmps.getD 85 undef], defers := [] } ∧ OpAns x wd o ∧ (o < 0 ∨ R = none) ∧ Mm w w2 [] [(w.heap.size + 1, w.heap.size + 1 + 1, Cs (w.heap.size + 1) [.int .i64 p, .int .i64 q, .int .i64 t]), (w.heap.size, w.heap.size + 1, Cs w.heap.size [.int .i64 0, .int .i64 0, .int .i64 0, .int .i64 0])]
abbrev RJ2 (s : ByteArray) (x : Nat → ByteArray) (wd : ByteArray) (R : Option (Int × Int × Int)) (w : World) (a2 : Act) (w2 : World) : Prop := ∃ (k j m : Nat) (o p q t : Int), a2 = { tmps := #[.string s, a2.tmps.getD 1 undef, .pointer (some ⟨w.heap.size, 0, none⟩), .bool false, .int .i64 o, a2.tmps.getD 5 undef, .pointer (some ⟨w.heap.size + 1, 0, none⟩), .int .i64 (k : Int), .int .i64 (j : Int), a2.tmps.getD 9 undef, a2.tmps.getD 10 undef, a2.tmps.getD 11 undef, a2.tmps.getD 12 undef, a2.tmps.getD 13 undef, a2.tmps.getD 14 undef, a2.tmps.getD 15 undef, a2.tmps.getD 16 undef, a2.tmps.getD 17 undef, a2.tmps.getD 18 undef, a2.tmps.getD 19 undef, a2.tmps.getD 20 undef, a2.tmps.getD 21 undef, a2.tmps.getD 22 undef, a2.tmps.getD 23 undef, a2.tmps.getD 24 undef, a2.tmps.getD 25 undef, a2.tmps.getD 26 undef, a2.tmps.getD 27 undef, a2.tmps.getD 28 undef, a2.tmps.getD 29 undef, a2.tmps.getD 30 undef, a2.tmps.getD 31 undef, a2.tmps.getD 32 undef, a2.tmps.getD 33 undef, a2.tmps.getD 34 undef, a2.tmps.getD 35 undef, a2.tmps.getD 36 undef, a2.tmps.getD 37 undef, a2.tmps.getD 38 undef, a2.tmps.getD 39 undef, a2.tmps.getD 40 undef, a2.tmps.getD 41 undef, a2.tmps.getD 42 undef, a2.tmps.getD 43 undef, a2.tmps.getD 44 undef, a2.tmps.getD 45 undef, a2.tmps.getD 46 undef, a2.tmps.getD 47 undef, a2.tmps.getD 48 undef, a2.tmps.getD 49 undef, a2.tmps.getD 50 undef, a2.tmps.getD 51 undef, a2.tmps.getD 52 undef, a2.tmps.getD 53 undef, a2.tmps.getD 54 undef, a2.tmps.getD 55 undef, a2.tmps.getD 56 undef, a2.tmps.getD 57 undef, a2.tmps.getD 58 undef, a2.tmps.getD 59 undef, a2.tmps.getD 60 undef, a2.tmps.getD 61 undef, a2.tmps.getD 62 undef, a2.tmps.getD 63 undef, a2.tmps.getD 64 undef, a2.tmps.getD 65 undef, a2.tmps.getD 66 undef, a2.tmps.getD 67 undef, a2.tmps.getD 68 undef, a2.tmps.getD 69 undef, a2.tmps.getD 70 undef, a2.tmps.getD 71 undef, a2.tmps.getD 72 undef, a2.tmps.getD 73 undef, a2.tmps.getD 74 undef, a2.tmps.getD 75 undef, a2.tmps.getD 76 undef, a2.tmps.getD 77 undef, a2.tmps.getD 78 undef, a2.tmps.getD 79 undef, a2.tmps.getD 80 undef, a2.tmps.getD 81 undef, a2.tmps.getD 82 undef, a2.tmps.getD 83 undef, a2.tmps.getD 84 undef, a2.tmps.getD 85 undef], defers := [] } ∧ k ≤ s.size ∧ j ≤ 2 ∧ 2 * (s.size - k) + 1 ≤ m ∧ OpAns x wd o ∧ 0 ≤ o ∧ mach s m false j k p q t = R ∧ (fits p ∧ fits q ∧ fits t) ∧ Mm w w2 [] [(w.heap.size + 1, w.heap.size + 1 + 1, Cs (w.heap.size + 1) [.int .i64 p, .int .i64 q, .int .i64 t]), (w.heap.size, w.heap.size + 1, Cs w.heap.size [.int .i64 0, .int .i64 0, .int .i64 0, .int .i64 0])]
abbrev RJ3 (s : ByteArray) (x : Nat → ByteArray) (wd : ByteArray) (R : Option (Int × Int × Int)) (w : World) (a2 : Act) (w2 : World) : Prop := ∃ (k j m : Nat) (o p q t : Int), a2 = { tmps := #[.string s, a2.tmps.getD 1 undef, .pointer (some ⟨w.heap.size, 0, none⟩), .bool false, .int .i64 o, .int .i64 (dgt s k), .pointer (some ⟨w.heap.size + 1, 0, none⟩), .int .i64 (k : Int), .int .i64 (j : Int), a2.tmps.getD 9 undef, a2.tmps.getD 10 undef, a2.tmps.getD 11 undef, a2.tmps.getD 12 undef, a2.tmps.getD 13 undef, a2.tmps.getD 14 undef, a2.tmps.getD 15 undef, a2.tmps.getD 16 undef, a2.tmps.getD 17 undef, a2.tmps.getD 18 undef, a2.tmps.getD 19 undef, a2.tmps.getD 20 undef, a2.tmps.getD 21 undef, a2.tmps.getD 22 undef, a2.tmps.getD 23 undef, a2.tmps.getD 24 undef, a2.tmps.getD 25 undef, a2.tmps.getD 26 undef, a2.tmps.getD 27 undef, a2.tmps.getD 28 undef, a2.tmps.getD 29 undef, a2.tmps.getD 30 undef, a2.tmps.getD 31 undef, a2.tmps.getD 32 undef, a2.tmps.getD 33 undef, a2.tmps.getD 34 undef, a2.tmps.getD 35 undef, a2.tmps.getD 36 undef, a2.tmps.getD 37 undef, a2.tmps.getD 38 undef, a2.tmps.getD 39 undef, a2.tmps.getD 40 undef, a2.tmps.getD 41 undef, a2.tmps.getD 42 undef, a2.tmps.getD 43 undef, a2.tmps.getD 44 undef, a2.tmps.getD 45 undef, a2.tmps.getD 46 undef, a2.tmps.getD 47 undef, a2.tmps.getD 48 undef, a2.tmps.getD 49 undef, a2.tmps.getD 50 undef, a2.tmps.getD 51 undef, a2.tmps.getD 52 undef, a2.tmps.getD 53 undef, a2.tmps.getD 54 undef, a2.tmps.getD 55 undef, a2.tmps.getD 56 undef, a2.tmps.getD 57 undef, a2.tmps.getD 58 undef, a2.tmps.getD 59 undef, a2.tmps.getD 60 undef, a2.tmps.getD 61 undef, a2.tmps.getD 62 undef, a2.tmps.getD 63 undef, a2.tmps.getD 64 undef, a2.tmps.getD 65 undef, a2.tmps.getD 66 undef, a2.tmps.getD 67 undef, a2.tmps.getD 68 undef, a2.tmps.getD 69 undef, a2.tmps.getD 70 undef, a2.tmps.getD 71 undef, a2.tmps.getD 72 undef, a2.tmps.getD 73 undef, a2.tmps.getD 74 undef, a2.tmps.getD 75 undef, a2.tmps.getD 76 undef, a2.tmps.getD 77 undef, a2.tmps.getD 78 undef, a2.tmps.getD 79 undef, a2.tmps.getD 80 undef, a2.tmps.getD 81 undef, a2.tmps.getD 82 undef, a2.tmps.getD 83 undef, a2.tmps.getD 84 undef, a2.tmps.getD 85 undef], defers := [] } ∧ k < s.size ∧ 0 ≤ dgt s k ∧ j ≤ 2 ∧ 2 * (s.size - k) ≤ m ∧ OpAns x wd o ∧ 0 ≤ o ∧ mach s m true j k p q t = R ∧ (fits p ∧ fits q ∧ fits t) ∧ Mm w w2 [] [(w.heap.size + 1, w.heap.size + 1 + 1, Cs (w.heap.size + 1) [.int .i64 p, .int .i64 q, .int .i64 t]), (w.heap.size, w.heap.size + 1, Cs w.heap.size [.int .i64 0, .int .i64 0, .int .i64 0, .int .i64 0])]

def atOf (a : Act) : Nat := (intOf (a.tmps.getD 7 undef)).toNat

theorem digitAt_suc (s : ByteArray) (k : Nat) (w : World) : Calls Tryd.prog 53 #[.string s, .int .i64 ((k : Int) + 1)] w fun e w' => e = .returned (.int .i64 (dgt s (k + 1))) ∧ w' = w := by
  have h := digitAt_calls s (k + 1) w
  rwa [show ((k + 1 : Nat) : Int) = (k : Int) + 1 from by omega] at h

theorem dgt_in {s : ByteArray} {k : Nat} (h : 0 ≤ dgt s k) : k < s.size ∧ dgt s k ≤ 9 := by
  unfold dgt at h ⊢
  split
  · omega
  · rename_i e; rw [if_neg e] at h; omega

theorem nb_at {s : ByteArray} {k : Nat} (hk : k ≤ s.size) (h : ∀ j, j < k → byt s j ≠ 32) (he : k = s.size ∨ byt s k = 32) : nb s 0 = k := by
  obtain ⟨_, h2, h3, h4⟩ := nb_spec (s := s) (a := 0) (Nat.zero_le _)
  rcases Nat.lt_trichotomy (nb s 0) k with hl | hl | hl
  · rcases h4 with h4 | h4
    · omega
    · exact absurd h4 (h _ hl)
  · exact hl
  · rcases he with he | he
    · omega
    · exact absurd he (h3 k (Nat.zero_le _) hl)

set_option maxRecDepth 100000 in
set_option maxHeartbeats 4000000 in
theorem readInst_calls (x : Nat → ByteArray) (s : ByteArray) (w : World) (hsz : s.size ≤ 4611686018427387903) (hc : ∀ j, j < 16 → w.cell? ⟨0, j, none⟩ = some (.string (x j))) :
    Calls Tryd.prog 31 #[.string s] w fun e w' => (∃ o, OpAns x (s.extract 0 (nb s 0)) o ∧ e = .returned (rdV o (mach s (2 * s.size + 9) false 0 (nb s 0) 0 0 0))) ∧ Below w.heap.size w w' := by
  have hw0 : 0 < w.heap.size := World.block_lt_of_cell? _ _ (hc 0 (by omega))
  obtain ⟨wd, hwd⟩ : ∃ wd, wd = s.extract 0 (nb s 0) := ⟨_, rfl⟩
  obtain ⟨R, hR⟩ : ∃ R, R = mach s (2 * s.size + 9) false 0 (nb s 0) 0 0 0 := ⟨_, rfl⟩
  rw [← hwd, ← hR]
  have HWD := hide hwd
  have HR := hide hR
  have HC := hide hc
  have HSZ := hide hsz
  have M0 := (Mm.start w).allocC [.int .i64 0, .int .i64 0, .int .i64 0, .int .i64 0] 26
  have M00 := M0.allocC [.int .i64 0, .int .i64 0, .int .i64 0] 62
  simp only [World.size_alloc] at M00
  have HM0 := hide M00
  clear hwd hR hc M0 M00
  go_enter Tryd.func31, Tryd.ntmps31
  go_wp2
  refine wp_scope_four (RJ0 s w) (RJ1 s x wd R w) (RJ2 s x wd R w) (RJ3 s x wd R w) (fun a => (s.size - atOf a) + (2 * s.size + 3)) (fun _ => 0) (fun a => 2 * (s.size - atOf a) + 1) (fun a => 2 * (s.size - atOf a)) (3 * s.size + 4) rfl rfl rfl rfl ?p1 ?p3 ?p2 ?p0 ?first
  case p1 =>
    clear HM0 HWD HR HC
    rintro M a2 w2 ⟨o, p, q, t, hfr, ho, hn, MM⟩ hm
    obtain ⟨U, hU⟩ : ∃ U : Nat → Value, U = fun i => a2.tmps.getD i undef := ⟨_, rfl⟩
    replace hfr : a2 = { tmps := #[.string s, U 1, .pointer (some ⟨w.heap.size, 0, none⟩), .bool false, U 4, U 5, .pointer (some ⟨w.heap.size + 1, 0, none⟩), U 7, U 8, U 9, U 10, U 11, U 12, U 13, U 14, U 15, U 16, U 17, U 18, U 19, U 20, U 21, U 22, U 23, U 24, U 25, U 26, U 27, U 28, U 29, U 30, U 31, U 32, U 33, U 34, U 35, U 36, U 37, U 38, U 39, U 40, U 41, U 42, U 43, U 44, U 45, U 46, U 47, U 48, U 49, U 50, U 51, U 52, U 53, U 54, U 55, U 56, U 57, U 58, U 59, U 60, U 61, U 62, U 63, U 64, U 65, U 66, U 67, U 68, U 69, U 70, U 71, U 72, U 73, U 74, U 75, U 76, U 77, U 78, U 79, U 80, U 81, U 82, U 83, U 84, U 85], defers := [] } := by rw [hU]; exact hfr
    clear hU
    subst hfr
    have r0 := (MM.get 1 rfl).cell 0 rfl
    have r1 := (MM.get 1 rfl).cell 1 rfl
    have r2 := (MM.get 1 rfl).cell 2 rfl
    have r3 := (MM.get 1 rfl).cell 3 rfl
    have f0 := (MM.get 1 rfl).fz 0 (by simp)
    have f1 := (MM.get 1 rfl).fz 1 (by simp)
    have f2 := (MM.get 1 rfl).fz 2 (by simp)
    have f3 := (MM.get 1 rfl).fz 3 (by simp)
    have HB := hide MM.bel
    have HN := hide (rdV_no hn)
    have HO := hide ho
    clear MM hn ho hm
    go_wp2
    simp only [jump4]
    refine bodyPost_ret (v := noI) (by simp [results, Tryd.results31, go_sem, noI, r0, r1, r2, r3]) rfl ⟨⟨o, HO.out, by rw [HN.out]⟩, (((HB.out.setCell (by simp) _).setCell (by simp) _).setCell (by simp) _).setCell (by simp) _⟩
  case p3 =>
    clear HM0 HWD HR HC
    rintro hW1 M a2 w2 ⟨k, j, m, o, p, q, t, hfr, hk, hd, hj, hmm, ho, ho0, hma, ⟨hp, hq, ht⟩, MM⟩ hm
    obtain ⟨U, hU⟩ : ∃ U : Nat → Value, U = fun i => a2.tmps.getD i undef := ⟨_, rfl⟩
    replace hfr : a2 = { tmps := #[.string s, U 1, .pointer (some ⟨w.heap.size, 0, none⟩), .bool false, .int .i64 o, .int .i64 (dgt s k), .pointer (some ⟨w.heap.size + 1, 0, none⟩), .int .i64 (k : Int), .int .i64 (j : Int), U 9, U 10, U 11, U 12, U 13, U 14, U 15, U 16, U 17, U 18, U 19, U 20, U 21, U 22, U 23, U 24, U 25, U 26, U 27, U 28, U 29, U 30, U 31, U 32, U 33, U 34, U 35, U 36, U 37, U 38, U 39, U 40, U 41, U 42, U 43, U 44, U 45, U 46, U 47, U 48, U 49, U 50, U 51, U 52, U 53, U 54, U 55, U 56, U 57, U 58, U 59, U 60, U 61, U 62, U 63, U 64, U 65, U 66, U 67, U 68, U 69, U 70, U 71, U 72, U 73, U 74, U 75, U 76, U 77, U 78, U 79, U 80, U 81, U 82, U 83, U 84, U 85], defers := [] } := by rw [hU]; exact hfr
    clear hU
    subst hfr
    have hd9 := (dgt_in hd).2
    have hM : 2 * (s.size - k) ≤ M := by simpa [atOf, intOf] using hm
    obtain ⟨m, rfl⟩ : ∃ m', m = m' + 1 := ⟨m - 1, by omega⟩
    have HO := hide ho
    have hpp := hp
    have hqq := hq
    have htt := ht
    unfold fits at hpp hqq htt
    have ek : (k : Int) + 1 = ((k + 1 : Nat) : Int) := by omega
    have wk : IntKind.i64.wrap ((k : Int) + 1) = (k : Int) + 1 := by rw [IntKind.wrap_i64]; omega
    have HEK := hide ek
    clear ho hm ek
    obtain rfl | rfl | rfl : j = 0 ∨ j = 1 ∨ j = 2 := by omega
    · obtain ⟨n, hn⟩ : ∃ n, 10 * p + dgt s k = n := ⟨_, rfl⟩
      have hmt := mach_true (s := s) (m := m) (j := 0) (a := k) (p := p) (q := q) (r := t) (n := n) (by simpa using hn) (by omega)
      rw [hma] at hmt
      simp at hmt
      have cj := (MM.get 0 rfl).cell 0 rfl
      have fj := (MM.get 0 rfl).fz 0 (by simp)
      have w1 : IntKind.i64.wrap (10 * p) = 10 * p := by rw [IntKind.wrap_i64]; omega
      have w2_ : IntKind.i64.wrap (10 * p + dgt s k) = n := by rw [IntKind.wrap_i64]; omega
      have hn0 : 0 ≤ n := by omega
      have MP := MM.put 0 rfl 0 (by simp) (.int .i64 n) (by omega) (by simp) (by simp <;> omega)
      simp only [List.set] at MP
      have HMP := hide MP
      have HMT := hide hmt
      clear MM hma hmt hn MP
      by_cases h63 : 63 < n
      · have g0 : n > 63 := h63
        have HR1 : Hid (R = none) := HMT.out.trans (if_pos h63)
        clear h63
        go_wp2
        go_step3
        exact ⟨⟨o, n, q, t, rfl, HO.out, .inr HR1.out, HMP.out⟩, by show 0 < M; omega⟩
      · have g0 : ¬ n > 63 := h63
        have hfn : fits n := ⟨hn0, by omega⟩
        have HR1 := hide (HMT.out.trans (if_neg h63))
        clear h63
        go_wp2_with fail
        refine (digitAt_suc s k _).mono ?_
        rintro e w3 ⟨rfl, rfl⟩
        by_cases hc : 0 ≤ dgt s (k + 1) ∧ 0 < n
        · have g1 : dgt s (k + 1) ≥ 0 := hc.1
          have g2 : n > 0 := hc.2
          have hk1 := (dgt_in hc.1).1
          have HR2 := hide (HR1.out.trans (if_pos hc))
          clear hc
          go_wp2
          go_step3
          rw [HEK.out]
          exact ⟨⟨k + 1, 0, m, o, n, q, t, rfl, hk1, g1, by omega, by omega, HO.out, ho0, HR2.out.symm, ⟨hfn, hq, ht⟩, HMP.out⟩, by simp [atOf, intOf]; omega⟩
        · have HR2 := hide (HR1.out.trans (if_neg hc))
          have hcc : dgt s (k + 1) < 0 ∨ (dgt s (k + 1) ≥ 0 ∧ ¬ n > 0) := by omega
          clear hc
          rcases hcc with g1 | ⟨g1, g2⟩
          all_goals (
            go_wp2
            go_step3
            rw [HEK.out]
            exact ⟨⟨k + 1, 1, m, o, n, q, t, rfl, by omega, by omega, by omega, HO.out, ho0, (HR2.out.trans (if_pos (by omega))).symm, ⟨hfn, hq, ht⟩, HMP.out⟩, by simp [atOf, intOf]; omega⟩)
    · obtain ⟨n, hn⟩ : ∃ n, 10 * q + dgt s k = n := ⟨_, rfl⟩
      have hmt := mach_true (s := s) (m := m) (j := 1) (a := k) (p := p) (q := q) (r := t) (n := n) (by simpa using hn) (by omega)
      rw [hma] at hmt
      simp at hmt
      have cj := (MM.get 0 rfl).cell 1 rfl
      have fj := (MM.get 0 rfl).fz 1 (by simp)
      have w1 : IntKind.i64.wrap (10 * q) = 10 * q := by rw [IntKind.wrap_i64]; omega
      have w2_ : IntKind.i64.wrap (10 * q + dgt s k) = n := by rw [IntKind.wrap_i64]; omega
      have hn0 : 0 ≤ n := by omega
      have MP := MM.put 0 rfl 1 (by simp) (.int .i64 n) (by omega) (by simp) (by simp <;> omega)
      simp only [List.set] at MP
      have HMP := hide MP
      have HMT := hide hmt
      clear MM hma hmt hn MP
      by_cases h63 : 63 < n
      · have g0 : n > 63 := h63
        have HR1 : Hid (R = none) := HMT.out.trans (if_pos h63)
        clear h63
        go_wp2
        go_step3
        exact ⟨⟨o, p, n, t, rfl, HO.out, .inr HR1.out, HMP.out⟩, by show 0 < M; omega⟩
      · have g0 : ¬ n > 63 := h63
        have hfn : fits n := ⟨hn0, by omega⟩
        have HR1 := hide (HMT.out.trans (if_neg h63))
        clear h63
        go_wp2_with fail
        refine (digitAt_suc s k _).mono ?_
        rintro e w3 ⟨rfl, rfl⟩
        by_cases hc : 0 ≤ dgt s (k + 1) ∧ 0 < n
        · have g1 : dgt s (k + 1) ≥ 0 := hc.1
          have g2 : n > 0 := hc.2
          have hk1 := (dgt_in hc.1).1
          have HR2 := hide (HR1.out.trans (if_pos hc))
          clear hc
          go_wp2
          go_step3
          rw [HEK.out]
          exact ⟨⟨k + 1, 1, m, o, p, n, t, rfl, hk1, g1, by omega, by omega, HO.out, ho0, HR2.out.symm, ⟨hp, hfn, ht⟩, HMP.out⟩, by simp [atOf, intOf]; omega⟩
        · have HR2 := hide (HR1.out.trans (if_neg hc))
          have hcc : dgt s (k + 1) < 0 ∨ (dgt s (k + 1) ≥ 0 ∧ ¬ n > 0) := by omega
          clear hc
          rcases hcc with g1 | ⟨g1, g2⟩
          all_goals (
            go_wp2
            go_step3
            rw [HEK.out]
            exact ⟨⟨k + 1, 2, m, o, p, n, t, rfl, by omega, by omega, by omega, HO.out, ho0, (HR2.out.trans (if_pos (by omega))).symm, ⟨hp, hfn, ht⟩, HMP.out⟩, by simp [atOf, intOf]; omega⟩)
    · obtain ⟨n, hn⟩ : ∃ n, 10 * t + dgt s k = n := ⟨_, rfl⟩
      have hmt := mach_true (s := s) (m := m) (j := 2) (a := k) (p := p) (q := q) (r := t) (n := n) (by simpa using hn) (by omega)
      rw [hma] at hmt
      simp at hmt
      have cj := (MM.get 0 rfl).cell 2 rfl
      have fj := (MM.get 0 rfl).fz 2 (by simp)
      have w1 : IntKind.i64.wrap (10 * t) = 10 * t := by rw [IntKind.wrap_i64]; omega
      have w2_ : IntKind.i64.wrap (10 * t + dgt s k) = n := by rw [IntKind.wrap_i64]; omega
      have hn0 : 0 ≤ n := by omega
      have MP := MM.put 0 rfl 2 (by simp) (.int .i64 n) (by omega) (by simp) (by simp <;> omega)
      simp only [List.set] at MP
      have HMP := hide MP
      have HMT := hide hmt
      clear MM hma hmt hn MP
      by_cases h63 : 63 < n
      · have g0 : n > 63 := h63
        have HR1 : Hid (R = none) := HMT.out.trans (if_pos h63)
        clear h63
        go_wp2
        go_step3
        exact ⟨⟨o, p, q, n, rfl, HO.out, .inr HR1.out, HMP.out⟩, by show 0 < M; omega⟩
      · have g0 : ¬ n > 63 := h63
        have hfn : fits n := ⟨hn0, by omega⟩
        have HR1 := hide (HMT.out.trans (if_neg h63))
        clear h63
        go_wp2_with fail
        refine (digitAt_suc s k _).mono ?_
        rintro e w3 ⟨rfl, rfl⟩
        by_cases hc : 0 ≤ dgt s (k + 1) ∧ 0 < n
        · have g1 : dgt s (k + 1) ≥ 0 := hc.1
          have g2 : n > 0 := hc.2
          have hk1 := (dgt_in hc.1).1
          have HR2 := hide (HR1.out.trans (if_pos hc))
          clear hc
          go_wp2
          go_step3
          rw [HEK.out]
          exact ⟨⟨k + 1, 2, m, o, p, q, n, rfl, hk1, g1, by omega, by omega, HO.out, ho0, HR2.out.symm, ⟨hp, hq, hfn⟩, HMP.out⟩, by simp [atOf, intOf]; omega⟩
        · have HR2 := hide (HR1.out.trans (if_neg hc))
          have hcc : dgt s (k + 1) < 0 ∨ (dgt s (k + 1) ≥ 0 ∧ ¬ n > 0) := by omega
          clear hc
          rcases hcc with g1 | ⟨g1, g2⟩
          all_goals (
            by_cases hz : k + 1 = s.size
            · have hze : ((k : Int) + 1 == (s.size : Int)) = true := by simp; omega
              have HR3 : Hid (R = some (p, q, n)) := (HR2.out.trans (if_neg (by omega))).trans (if_pos hz)
              have MX := HMP.out
              have r0 := (MX.get 1 rfl).cell 0 rfl
              have r1 := (MX.get 1 rfl).cell 1 rfl
              have r2 := (MX.get 1 rfl).cell 2 rfl
              have r3 := (MX.get 1 rfl).cell 3 rfl
              have f0 := (MX.get 1 rfl).fz 0 (by simp)
              have f1 := (MX.get 1 rfl).fz 1 (by simp)
              have f2 := (MX.get 1 rfl).fz 2 (by simp)
              have f3 := (MX.get 1 rfl).fz 3 (by simp)
              have d0 := (MX.get 0 rfl).cell 0 rfl
              have d1 := (MX.get 0 rfl).cell 1 rfl
              have d2 := (MX.get 0 rfl).cell 2 rfl
              have HB := hide MX.bel
              have HN := hide (rdV_yes (p := p) (q := q) (t := n) ho0)
              clear MX hz
              go_wp2
              simp only [jump4]
              refine bodyPost_ret (v := .tuple #[.agg #[.int .i64 o, .int .i64 p, .int .i64 q, .int .i64 n], .bool true]) (by simp [results, Tryd.results31, go_sem, r0, r1, r2, r3]) rfl ⟨⟨o, HO.out, by rw [HR3.out, HN.out]⟩, (((HB.out.setCell (by simp) _).setCell (by simp) _).setCell (by simp) _).setCell (by simp) _⟩
            · have hze : ((k : Int) + 1 == (s.size : Int)) = false := by simp; omega
              have HR3 : Hid (R = none) := (HR2.out.trans (if_neg (by omega))).trans (if_neg hz)
              clear hz
              go_wp2
              go_step3
              refine (‹∀ (a : Act) (w : World), Code.wp Tryd.prog _ _ a w → (_ : Act → World → Prop) a w› : _) _ _ ?_
              refine hW1 M _ _ ?_ (Nat.zero_le _)
              exact ⟨o, p, q, n, rfl, HO.out, .inr HR3.out, HMP.out⟩)
  case p2 =>
    clear HM0 HWD HR HC
    rintro hW3 M a2 w2 ⟨k, j, m, o, p, q, t, hfr, hk, hj, hmm, ho, ho0, hma, hfit, MM⟩ hm
    obtain ⟨U, hU⟩ : ∃ U : Nat → Value, U = fun i => a2.tmps.getD i undef := ⟨_, rfl⟩
    replace hfr : a2 = { tmps := #[.string s, U 1, .pointer (some ⟨w.heap.size, 0, none⟩), .bool false, .int .i64 o, U 5, .pointer (some ⟨w.heap.size + 1, 0, none⟩), .int .i64 (k : Int), .int .i64 (j : Int), U 9, U 10, U 11, U 12, U 13, U 14, U 15, U 16, U 17, U 18, U 19, U 20, U 21, U 22, U 23, U 24, U 25, U 26, U 27, U 28, U 29, U 30, U 31, U 32, U 33, U 34, U 35, U 36, U 37, U 38, U 39, U 40, U 41, U 42, U 43, U 44, U 45, U 46, U 47, U 48, U 49, U 50, U 51, U 52, U 53, U 54, U 55, U 56, U 57, U 58, U 59, U 60, U 61, U 62, U 63, U 64, U 65, U 66, U 67, U 68, U 69, U 70, U 71, U 72, U 73, U 74, U 75, U 76, U 77, U 78, U 79, U 80, U 81, U 82, U 83, U 84, U 85], defers := [] } := by rw [hU]; exact hfr
    clear hU
    subst hfr
    have hM : 2 * (s.size - k) + 1 ≤ M := by simpa [atOf, intOf] using hm
    obtain ⟨m, rfl⟩ : ∃ m', m = m' + 1 := ⟨m - 1, by omega⟩
    have HO := hide ho
    have ek : (k : Int) + 1 = ((k + 1 : Nat) : Int) := by omega
    have wk : IntKind.i64.wrap ((k : Int) + 1) = (k : Int) + 1 := by rw [IntKind.wrap_i64]; omega
    have HEK := hide ek
    have HMM := hide MM
    have HMA := hide hma
    have HFI := hide hfit
    clear ho hm ek MM hma hfit
    by_cases he : k = s.size
    · have g0 : ((k : Int) == (s.size : Int)) = true := by simp [he]
      have HR1 : Hid (R = none) := HMA.out.symm.trans (mach_stop (.inl (by omega)))
      clear he
      go_wp2
      go_step3
      exact ⟨⟨o, p, q, t, rfl, HO.out, .inr HR1.out, HMM.out⟩, by show 0 < M; omega⟩
    have g0 : ((k : Int) == (s.size : Int)) = false := by simp; omega
    have hlt : k < s.size := by omega
    have ix := idx_byt hlt
    by_cases hb : byt s k = 32
    rotate_left
    · have g1 : (byt s k != 32) = true := by simpa using hb
      have HR1 : Hid (R = none) := HMA.out.symm.trans (mach_stop (.inr hb))
      clear he hb
      go_wp2
      go_step3
      exact ⟨⟨o, p, q, t, rfl, HO.out, .inr HR1.out, HMM.out⟩, by show 0 < M; omega⟩
    have g1 : (byt s k != 32) = false := by simp [hb]
    have HR0 : Hid (R = if dgt s (k + 1) < 0 then none else mach s m true j (k + 1) p q t) := by
      show _ = _
      rw [← HMA.out]
      simp only [mach]
      rw [if_neg (by omega)]
    clear hb he
    go_wp2_with fail
    refine (digitAt_suc s k _).mono ?_
    rintro e w3 ⟨rfl, rfl⟩
    by_cases hd : dgt s (k + 1) < 0
    · have HR1 : Hid (R = none) := HR0.out.trans (if_pos hd)
      go_wp2
      go_step3
      exact ⟨⟨o, p, q, t, rfl, HO.out, .inr HR1.out, HMM.out⟩, by show 0 < M; omega⟩
    · have HR1 := hide (HR0.out.trans (if_neg hd))
      have hk1 := (dgt_in (by omega : 0 ≤ dgt s (k + 1))).1
      go_wp2
      go_step3
      rw [HEK.out]
      refine (‹∀ (a : Act) (w : World), Code.wp Tryd.prog _ _ a w → (_ : Act → World → Prop) a w› : _) _ _ ?_
      refine hW3 M _ _ ?_ ?_
      rotate_left
      · simp [atOf, intOf]; omega
      exact ⟨k + 1, j, m, o, p, q, t, rfl, hk1, by omega, hj, by omega, HO.out, ho0, HR1.out.symm, HFI.out, HMM.out⟩
  case p0 =>
    rintro hW2 M a2 w2 ⟨k, p, q, t, hfr, hk, hno, ⟨rfl, rfl, rfl⟩, MM⟩ hm
    obtain ⟨U, hU⟩ : ∃ U : Nat → Value, U = fun i => a2.tmps.getD i undef := ⟨_, rfl⟩
    replace hfr : a2 = { tmps := #[.string s, U 1, .pointer (some ⟨w.heap.size, 0, none⟩), .bool false, U 4, U 5, .pointer (some ⟨w.heap.size + 1, 0, none⟩), .int .i64 (k : Int), .int .i64 0, U 9, U 10, U 11, U 12, U 13, U 14, U 15, U 16, U 17, U 18, U 19, U 20, U 21, U 22, U 23, U 24, U 25, U 26, U 27, U 28, U 29, U 30, U 31, U 32, U 33, U 34, U 35, U 36, U 37, U 38, U 39, U 40, U 41, U 42, U 43, U 44, U 45, U 46, U 47, U 48, U 49, U 50, U 51, U 52, U 53, U 54, U 55, U 56, U 57, U 58, U 59, U 60, U 61, U 62, U 63, U 64, U 65, U 66, U 67, U 68, U 69, U 70, U 71, U 72, U 73, U 74, U 75, U 76, U 77, U 78, U 79, U 80, U 81, U 82, U 83, U 84, U 85], defers := [] } := by rw [hU]; exact hfr
    clear hU
    subst hfr
    have hM : (s.size - k) + (2 * s.size + 3) ≤ M := by simpa [atOf, intOf] using hm
    have ek : (k : Int) + 1 = ((k + 1 : Nat) : Int) := by omega
    have wk : IntKind.i64.wrap ((k : Int) + 1) = (k : Int) + 1 := by rw [IntKind.wrap_i64]; omega
    have HEK := hide ek
    have HMM := hide MM
    have HNO := hide hno
    clear hm ek MM hno HM0
    by_cases hgo : k < s.size ∧ byt s k ≠ 32
    · have hlt := hgo.1
      have ix := idx_byt hlt
      have g0 : (k : Int) < (s.size : Int) := by omega
      have g1 : (byt s k != 32) = true := by simpa using hgo.2
      have hno2 : ∀ j, j < k + 1 → byt s j ≠ 32 := fun j hj => by
        by_cases e : j = k
        · subst e; exact hgo.2
        · exact HNO.out j (by omega)
      have HN2 := hide hno2
      clear hgo hno2
      go_wp2
      go_step3
      rw [HEK.out]
      exact ⟨⟨k + 1, 0, 0, 0, rfl, by omega, HN2.out, ⟨rfl, rfl, rfl⟩, HMM.out⟩, by simp [atOf, intOf]; omega⟩
    have hend : k = s.size ∨ byt s k = 32 := by
      by_cases e : k = s.size
      · exact .inl e
      · refine .inr ?_
        by_cases e2 : byt s k = 32
        · exact e2
        · exact absurd ⟨by omega, e2⟩ hgo
    have hnb := nb_at hk HNO.out hend
    have HWK : Hid (wd = s.extract 0 k) := by show _ = _; rw [HWD.out, hnb]
    have HRK : Hid (R = mach s (2 * s.size + 9) false 0 k 0 0 0) := by show _ = _; rw [HR.out, hnb]
    have hcw : ∀ j, j < 16 → w2.cell? ⟨0, j, none⟩ = some (.string (x j)) := fun j hj => (HMM.out.bel.cell (p := ⟨0, j, none⟩) hw0).trans (HC.out j hj)
    have HCW := hide hcw
    clear hgo hnb hcw HR HWD
    rcases (by
      by_cases e : k = s.size
      · exact .inl e
      · exact .inr ⟨by omega, hend.resolve_left e⟩ : k = s.size ∨ (k < s.size ∧ byt s k = 32)) with he | ⟨hlt, hb⟩
    · subst he
      have g0 : ¬ ((s.size : Int) < (s.size : Int)) := by omega
      have HWS : Hid (wd = s) := by show _ = _; rw [HWK.out]; exact ByteArray.extract_zero_size
      clear hend HWK
      go_wp2_with fail
      refine (opOfWord_calls x s _ HCW.out).mono ?_
      rintro e w3 ⟨r, rfl, hans, rfl⟩
      have hans : OpAns x wd r := by rw [HWS.out]; exact hans
      have HA := hide hans
      clear hans
      by_cases hr : r < 0
      · go_wp2
        go_step3
        exact ⟨⟨r, 0, 0, 0, rfl, HA.out, .inl hr, HMM.out⟩, by show 0 < M; omega⟩
      · go_wp2
        go_step3
        refine (‹∀ (a : Act) (w : World), Code.wp Tryd.prog _ _ a w → (_ : Act → World → Prop) a w› : _) _ _ ?_
        refine hW2 M _ _ ?_ ?_
        rotate_left
        · simp [atOf, intOf]; omega
        exact ⟨s.size, 0, 2 * s.size + 9, r, 0, 0, 0, rfl, hk, by omega, by omega, HA.out, by omega, HRK.out.symm, ⟨⟨by omega, by omega⟩, ⟨by omega, by omega⟩, ⟨by omega, by omega⟩⟩, HMM.out⟩
    · have ix := idx_byt hlt
      have g0 : (k : Int) < (s.size : Int) := by omega
      have g1 : (byt s k != 32) = false := by simp [hb]
      have k0 : (0 : Int) ≤ (k : Int) := by omega
      have k1 : (k : Int) ≤ (s.size : Int) := by omega
      clear hend
      go_wp2_with fail
      refine (opOfWord_calls x (s.extract 0 k) _ HCW.out).mono ?_
      rintro e w3 ⟨r, rfl, hans, rfl⟩
      have hans : OpAns x wd r := by rw [HWK.out]; exact hans
      have HA := hide hans
      clear hans
      by_cases hr : r < 0
      · go_wp2
        go_step3
        exact ⟨⟨r, 0, 0, 0, rfl, HA.out, .inl hr, HMM.out⟩, by show 0 < M; omega⟩
      · go_wp2
        go_step3
        refine (‹∀ (a : Act) (w : World), Code.wp Tryd.prog _ _ a w → (_ : Act → World → Prop) a w› : _) _ _ ?_
        refine hW2 M _ _ ?_ ?_
        rotate_left
        · simp [atOf, intOf]; omega
        exact ⟨k, 0, 2 * s.size + 9, r, 0, 0, 0, rfl, hk, by omega, by omega, HA.out, by omega, HRK.out.symm, ⟨⟨by omega, by omega⟩, ⟨by omega, by omega⟩, ⟨by omega, by omega⟩⟩, HMM.out⟩
  case first =>
    intro hW0
    go_wp2
    go_step3
    refine (‹∀ (a : Act) (w : World), Code.wp Tryd.prog _ _ a w → (_ : Act → World → Prop) a w› : _) _ _ ?_
    refine hW0 (3 * s.size + 4) _ _ ?_ ?_
    rotate_left
    · simp [atOf, intOf]; omega
    exact ⟨0, 0, 0, 0, rfl, Nat.zero_le _, fun j hj => by omega, ⟨rfl, rfl, rfl⟩, HM0.out⟩

end Go.Proofs.YtpgpoeljbppggaaDoor
