import Derived.Test.YtpgpoeljbppggaaDoorPinP
import Derived.Deep.AppendLies
import Derived.WalkKit
import Derived.ProofKit
import Derived.OpenShut
import Derived.ShutString
import Derived.ChangeOld
import Derived.Below
import Derived.WalkSpells
import Derived.Deep.QuietTactic
import Derived.BigQuiet
import Derived.Deep.RegionWith
import Derived.Deep.WholeRow
import Derived.Deep.DeepCutAuto
import Derived.Deep.RegionHeld2
import Derived.Deep.AppendLies
import Derived.Deep.RegionLaw
namespace Go.Proofs.YtpgpoeljbppggaaDoor
open Go.ChangeShapes Go.WideShapes Go.ChangeAt Go.RowKit

/-- a text's pieces from a place on, cut at its blanks. -/
def cuts (s : ByteArray) (a : Nat) : List ByteArray := if h : s.size < a then [] else s.extract a (nb s a) :: cuts s (nb s a + 1)
termination_by s.size + 1 - a
decreasing_by
  have := (nb_spec (s := s) (a := a) (by omega)).1
  omega

theorem cuts_end {s : ByteArray} {a : Nat} (h : s.size < a) : cuts s a = [] := by rw [cuts]; exact dif_pos h

theorem cuts_at {s : ByteArray} {a : Nat} (h : a ≤ s.size) : cuts s a = s.extract a (nb s a) :: cuts s (nb s a + 1) := by rw [cuts]; exact dif_neg (by omega)

theorem nb_of {s : ByteArray} {a k : Nat} (ha : a ≤ k) (hk : k ≤ s.size) (h : ∀ j, a ≤ j → j < k → byt s j ≠ 32) (he : k = s.size ∨ byt s k = 32) : nb s a = k := by
  obtain ⟨h1, h2, h3, h4⟩ := nb_spec (s := s) (a := a) (by omega)
  rcases Nat.lt_trichotomy (nb s a) k with hl | hl | hl
  · rcases h4 with h4 | h4
    · omega
    · exact absurd h4 (h _ h1 hl)
  · exact hl
  · rcases he with he | he
    · omega
    · exact absurd he (h3 k ha hl)

theorem infoS : (Tryd.prog.info? 9).map (fun i => (i.zero, i.size, i.bytes)) = some (some (.string ⟨#[]⟩), 1, 16) := by kernel_rfl

theorem one_newS {W : World} {B : Nat} {v : Value} (h : W.cell? ⟨B, 0, none⟩ = some v) : ∀ j u, [v][j]? = some u → W.cell? ((Addr.mk B 0 none).add j) = some u := by
  intro j u hj
  match j, hj with
  | 0, hj => simp at hj; subst hj; simpa [Addr.add] using h

theorem ownS_below {wr w2 : World} {B0 : Nat} {e : TypeId} {s : Nat} {v : Value} {k : Nat} {L : List Value} (h : wr.ownsRow B0 e s v k L) (hc : Below wr.heap.size wr w2) : w2.ownsRow B0 e s v k L := by
  obtain ⟨h1, h2⟩ := h
  refine ⟨h1, ?_⟩
  rcases h2 with h2 | ⟨g, cap, cur, hv, hg, hh, r⟩
  · exact .inl h2
  · exact .inr ⟨g, cap, cur, hv, hg, by rw [hc.block g (Array.getElem?_eq_some_iff.1 hh).1]; exact hh, r⟩

/-- a row of texts that is read. -/
def Sts (w : World) (a : Option Addr) (n : Nat) (ps : List ByteArray) : Prop := ps.length = n ∧ (0 < n → ∃ b, a = some ⟨b, 0, none⟩ ∧ b < w.heap.size ∧ ∀ i, i < n → w.cell? ⟨b, i, none⟩ = some (.string (ps.getD i ⟨#[]⟩)))

theorem owns_sts {w : World} {base : Nat} {e : TypeId} {v : Value} {n : Nat} {ps : List ByteArray} (h : w.ownsRow base e 1 v n (ps.map Value.string)) : ∃ a c, v = .slice a n c ∧ Sts w a n ps := by
  have hlen : ps.length = n := by simpa using h.1
  rcases h.2 with ⟨hv, h0⟩ | ⟨g, cap, cur, rfl, hb, hg, hc, _, hs, ht⟩
  · subst h0
    exact ⟨none, 0, hv, hlen, fun h => by omega⟩
  · refine ⟨_, _, rfl, hlen, fun _ => ⟨g, rfl, (Array.getElem?_eq_some_iff.1 hg).1, fun i hi => ?_⟩⟩
    have hcell := h.cells (g := g) rfl i (.string (ps.getD i ⟨#[]⟩)) (by
      have hi2 : i < ps.length := by omega
      simp [hi2])
    have hadd : (Addr.mk g 0 none).add i = ⟨g, i, none⟩ := by cases i <;> simp [Addr.add]
    rwa [hadd] at hcell

set_option maxRecDepth 100000 in
set_option maxHeartbeats 4000000 in
theorem l5Cut_calls (s : ByteArray) (w : World) (hsz : s.size ≤ 1048576) :
    Calls Tryd.prog 33 #[.string s, .int .u8 32] w fun e w' => ∃ ra rn rc, e = .returned (.slice ra rn rc) ∧ Sts w' ra rn (cuts s 0) ∧ Below w.heap.size w w' := by
  obtain ⟨i0, hi, hz0, hz1, hz2⟩ := info_parts infoS
  have HOW0 := hide (World.ownsRow_lit (base := w.heap.size) (e := 9) (size := 1) w #[] 0 (Nat.le_refl _) (Nat.zero_le _) (by simp))
  have HB0 : Hid (Below w.heap.size w (w.alloc (.cells #[] 9))) := (Below.refl _ _).alloc (Nat.le_refl _) _
  go_enter Tryd.func33, Tryd.ntmps33
  go_wp2
  go_loopw [7, 6, 5] (fun q f v wr => ∃ (k a : Nat) (L : List ByteArray), k ≤ s.size + 1 ∧ a ≤ k ∧ q = .int .i64 (k : Int) ∧ f = .int .i64 (a : Int) ∧ (∀ j, a ≤ j → j < k → byt s j ≠ 32) ∧ (k = s.size + 1 → a = k) ∧ L ++ cuts s a = cuts s 0 ∧ L.length ≤ a ∧ wr.ownsRow w.heap.size 9 1 v L.length (L.map Value.string) ∧ Below w.heap.size w wr) (fun q _ _ _ => s.size + 1 - (intOf q).toNat)
  case atStart => exact ⟨0, 0, [], by omega, Nat.le_refl _, rfl, rfl, fun j h1 h2 => by omega, fun h => by omega, rfl, Nat.le_refl _, by simpa using HOW0.out, HB0.out⟩
  case round =>
    clear HOW0 HB0
    obtain ⟨k, a, L, hk, ha, rfl, rfl, hno, hfin, hL, hln, own, gb⟩ := hrel
    have HB := hide gb
    have HOW := hide own
    have HL := hide hL
    have hzb := gb.size
    have ek : (k : Int) + 1 = ((k + 1 : Nat) : Int) := by omega
    have wk : IntKind.i64.wrap ((k : Int) + 1) = (k : Int) + 1 := by rw [IntKind.wrap_i64]; omega
    have HEK := hide ek
    clear gb own hL ek
    by_cases hlt : k ≤ s.size
    · have g0 : (k : Int) ≤ (s.size : Int) := by omega
      by_cases hc : k = s.size ∨ byt s k = 32
      · have hnb := nb_of ha hlt hno hc
        have hcut : L ++ [s.extract a k] ++ cuts s (k + 1) = cuts s 0 := by
          rw [← HL.out, cuts_at (s := s) (a := a) (by omega), hnb, List.append_assoc, List.singleton_append]
        have HCT := hide hcut
        have HC1 : Hid (Below wr.heap.size wr (wr.alloc (.cells #[.string (s.extract a k)] 9))) := (Below.refl wr.heap.size wr).alloc (Nat.le_refl _) _
        have a0 : (0 : Int) ≤ (a : Int) := by omega
        have a1 : (a : Int) ≤ (k : Int) := by omega
        clear hcut hnb
        rcases (by
          by_cases e : k = s.size
          · exact .inl e
          · exact .inr ⟨by omega, hc.resolve_left e⟩ : k = s.size ∨ (k < s.size ∧ byt s k = 32)) with he | ⟨hl2, hb⟩
        · subst he
          have g1 : ((s.size : Int) == (s.size : Int)) = true := by simp
          clear hc
          go_wp2_with (first
            | (at_builtin; go_loud (refine wpList_append_lies _ rfl _ _ 38 rfl w.heap.size 9 i0 (.string ⟨#[]⟩) 1 16 Tryd.underlying38 hi hz0 hz1 hz2 rfl (by decide) _ L.length _ rfl (ownS_below HOW.out HC1.out) ⟨wr.heap.size, 0, none⟩ 1 1 [.string (s.extract a s.size)] rfl rfl (one_newS (by go_simp)) (by simp [Value.oneCell']) (by omega) (by unfold maxLen; omega) (by omega) (by simp; omega) (wr.heap.size + 1) (by simp) ?_))
            | go_in)
          intro g cp w5 hown5 hg5 hat5 hlt5
          have HG5 : Hid (Below w.heap.size w w5) := (HB.out.trans (HC1.out.mono HB.out.size)).grown hg5 (by simp; omega) (fun q e => (HOW.out.lt q e).1)
          have HOW5 := hide hown5
          clear hown5 hg5 hat5 hlt5
          go_wp2
          go_roundw
          case rel => exact ⟨s.size + 1, s.size + 1, L ++ [s.extract a s.size], by omega, Nat.le_refl _, by go_num, by go_num, fun j h1 h2 => by omega, fun _ => rfl, HCT.out, by simp; omega, by simpa using HOW5.out, HG5.out⟩
          case measure => simp [intOf] <;> omega
        · have ix := idx_byt hl2
          have g1 : ((k : Int) == (s.size : Int)) = false := by simp; omega
          have g2 : (byt s k == 32) = true := by simp [hb]
          have k1 : (k : Int) ≤ (s.size : Int) := by omega
          clear hc
          go_wp2_with (first
            | (at_builtin; go_loud (refine wpList_append_lies _ rfl _ _ 38 rfl w.heap.size 9 i0 (.string ⟨#[]⟩) 1 16 Tryd.underlying38 hi hz0 hz1 hz2 rfl (by decide) _ L.length _ rfl (ownS_below HOW.out HC1.out) ⟨wr.heap.size, 0, none⟩ 1 1 [.string (s.extract a k)] rfl rfl (one_newS (by go_simp)) (by simp [Value.oneCell']) (by omega) (by unfold maxLen; omega) (by omega) (by simp; omega) (wr.heap.size + 1) (by simp) ?_))
            | go_in)
          intro g cp w5 hown5 hg5 hat5 hlt5
          have HG5 : Hid (Below w.heap.size w w5) := (HB.out.trans (HC1.out.mono HB.out.size)).grown hg5 (by simp; omega) (fun q e => (HOW.out.lt q e).1)
          have HOW5 := hide hown5
          clear hown5 hg5 hat5 hlt5
          go_wp2
          go_roundw
          case rel => exact ⟨k + 1, k + 1, L ++ [s.extract a k], by omega, Nat.le_refl _, by go_num, by go_num, fun j h1 h2 => by omega, fun _ => rfl, HCT.out, by simp; omega, by simpa using HOW5.out, HG5.out⟩
          case measure => simp [intOf] <;> omega
      · have hl2 : k < s.size := by omega
        have ix := idx_byt hl2
        have g1 : ((k : Int) == (s.size : Int)) = false := by simp; omega
        have g2 : (byt s k == 32) = false := by simp; omega
        have hno2 : ∀ j, a ≤ j → j < k + 1 → byt s j ≠ 32 := fun j h1 h2 => by
          by_cases e : j = k
          · subst e; omega
          · exact hno j h1 (by omega)
        have HN2 := hide hno2
        clear hc hno2
        go_wp2
        go_roundw
        case rel => exact ⟨k + 1, a, L, by omega, by omega, by go_num, rfl, HN2.out, fun h => by omega, HL.out, hln, HOW.out, HB.out⟩
        case measure => simp [intOf] <;> omega
    · obtain rfl : k = s.size + 1 := by omega
      obtain rfl := hfin rfl
      have hLL : L = cuts s 0 := by rw [← HL.out, cuts_end (by omega), List.append_nil]
      have g0 : ¬ (((s.size + 1 : Nat) : Int) ≤ (s.size : Int)) := by omega
      have hst := HOW.out
      rw [hLL] at hst
      obtain ⟨ra, rc, rfl, hst2⟩ := owns_sts hst
      have HST := hide hst2
      clear hst hst2 hLL hfin hno hln HOW
      go_wp2
      go_ret
      exact ⟨_, _, ⟨_, rfl⟩, HST.out, HB.out⟩

end Go.Proofs.YtpgpoeljbppggaaDoor
