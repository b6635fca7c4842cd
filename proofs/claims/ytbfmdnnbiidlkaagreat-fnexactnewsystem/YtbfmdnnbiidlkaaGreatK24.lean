import Derived.Test.YtbfmdnnbiidlkaaGreatK12
import Derived.Test.YtbfmdnnbiidlkaaGreatK14
import Derived.Laws.IdiomCopy
import Derived.Laws.OwnMore
import Derived.Lib.SliceRun
import Derived.Deep.Onto
import Derived.Laws.CopyRow
import Derived.WalkKit
import Derived.ProofKit
import Derived.OpenShut
import Derived.ShutString
import Derived.ChangeOld
import Derived.Below
import Derived.WalkSpells
import Derived.Deep.QuietTactic
import Derived.BigQuiet
import Derived.Deep.RegionWith
import Derived.Deep.WholeRow
import Derived.Deep.DeepCutAuto
import Derived.Deep.RegionHeld2
import Derived.Deep.AppendLies
import Derived.Deep.RegionLaw
namespace Go.Proofs.YtbfmdnnbiidlkaaGreat
open Go.ChangeShapes Go.WideShapes Go.ChangeAt Go.RowKit

/-- numbers as values. -/
abbrev vs3 (ls : List (Int × Int × Int)) : List Value := (fl3 ls).map (Value.int .i64)

theorem length_vs3 (ls : List (Int × Int × Int)) : (vs3 ls).length = ls.length * 3 := by rw [List.length_map, length_fl3]

theorem own_ol {w : World} {B0 : Nat} {e : TypeId} {v : Value} {n : Nat} {ls : List (Int × Int × Int)} (hn : n ≤ 1048576) (hl : ls.length = n) (h : w.ownsRow B0 e 3 v n (vs3 ls)) : ∃ a c, v = .slice a n c ∧ OL (InR B0 w.heap.size) a n ls w := by
  rcases h.2 with ⟨rfl, h0⟩ | ⟨g, cap, cur, rfl, hb, hg, hc, _, hs, ht⟩
  · exact ⟨none, 0, by rw [h0], hl, hn, .inl h0⟩
  · have hlt : g < w.heap.size := (Array.getElem?_eq_some_iff.1 hg).1
    refine ⟨_, cap, rfl, hl, hn, .inr ⟨g, rfl, ⟨hb, hlt⟩, hlt, fun i hi => ?_, fun i => by simp [World.frozen?, hg]⟩⟩
    have hcell := h.cells (g := g) rfl i (.int .i64 (gt (fl3 ls) i)) (by simp [gt, hi])
    have hadd : (Addr.mk g 0 none).add i = ⟨g, i, none⟩ := by cases i <;> simp [Addr.add]
    rwa [hadd] at hcell

theorem own_room {w : World} {B g n cap : Nat} {e : TypeId} {xs : List Value} (h : w.ownsRow B e 3 (.slice (some ⟨g, 0, none⟩) n cap) n xs) : n ≤ cap ∧ cap ≤ maxLen ∧ B ≤ g ∧ g < w.heap.size := by
  rcases h.2 with ⟨h', _⟩ | ⟨g', cap', cur, h', hb, hg, hnc, hcm, hcs, ht⟩
  · simp at h'
  · simp only [Value.slice.injEq, Option.some.injEq, Addr.mk.injEq, and_true, true_and] at h'
    obtain ⟨rfl, rfl⟩ := h'
    exact ⟨hnc, hcm, hb, (Array.getElem?_eq_some_iff.1 hg).1⟩

theorem news_sln {w : World} {b off n : Nat} {ls : List (Int × Int × Int)} (hl : ls.length = n) (hc : ∀ i, i < n * 3 → w.cell? ⟨b, off + i, none⟩ = some (.int .i64 (gt (fl3 ls) i))) :
    ∀ j u, (vs3 ls)[j]? = some u → w.cell? ((Addr.mk b off none).add j) = some u :=
  ints_at_sl (zs := fl3 ls) (fun i hi => hc i (by rw [length_fl3] at hi; omega))

set_option maxRecDepth 100000 in
set_option maxHeartbeats 1000000 in
theorem cloneL_calls (a : Option Addr) (n cap : Nat) (ls : List (Int × Int × Int)) (w : World) (hn : n ≤ 1048576) (hs : Sln w a n ls) :
    Calls Tryz.prog 116 #[.slice a n cap] w fun e w' => ∃ v, e = .returned v ∧ w'.ownsRow w.heap.size 188 3 v n (vs3 ls) ∧ Below w.heap.size w w' := by
  obtain ⟨hlen, hs⟩ := hs
  obtain ⟨i0, hi, hz0, hz1, hz2⟩ := info_parts infoLine
  have hnil := fun (u : World) (x : Option Addr) (m c : Nat) => Lib.run_eql_slice_nil (P := Tryz.prog) u 42 188 x m c 0 0 Tryz.underlying42
  have hb0 := fun o1 => (Below.refl w.heap.size w).alloc (Nat.le_refl _) o1
  by_cases hp : 0 < n
  · obtain ⟨b, off, rfl, hb, hc⟩ := hs hp
    have hown := World.ownsRow_lit (base := w.heap.size) (e := 188) (size := 3) w #[] 0 (Nat.le_refl _) (Nat.zero_le _) rfl
    have hnews := news_sln (w := w.alloc (.cells #[] 188)) (b := b) (off := off) hlen (fun i hi => ((hb0 _).cell (p := ⟨b, off + i, none⟩) hb).trans (hc i (by omega)))
    have HO := hide hown
    have HN := hide hnews
    have HL : Hid ((vs3 ls).length = n * 3) := by show _ = _; rw [length_vs3, hlen]
    have HM1 : Hid (0 + n ≤ maxLen) := by show _ ≤ _; unfold maxLen; omega
    have HM2 : Hid ((0 + n) * 24 ≤ 140737488355328) := by show _ ≤ _; omega
    have HBS : Hid (w.heap.size ≤ (w.alloc (.cells #[] 188)).heap.size) := by show _ ≤ _; simp
    clear hown hnews hs hc
    go_enter Tryz.func116, Tryz.ntmps116
    go_wp2_with (first
      | (at_builtin; refine wpList_append_own _ rfl _ _ 42 rfl w.heap.size 188 i0 (.agg #[.int .i64 0, .int .i64 0, .int .i64 0]) 3 24 Tryz.underlying42 hi hz0 hz1 hz2 rfl (by decide) _ 0 [] rfl HO.out ⟨b, off, none⟩ n cap (vs3 ls) rfl HL.out HN.out ints_one HM1.out HM2.out HBS.out ?_)
      | go_in)
    intro v' w1 hown' hgrow _
    have hown2 : w1.ownsRow w.heap.size 188 3 v' n (vs3 ls) := by simpa using hown'
    have h1 : Below w.heap.size w w1 := (hb0 _).grown hgrow (by simp) (fun k hk => by simp [Value.ownBlock] at hk; omega)
    have HFR := hide hown2
    have HB1 := hide h1
    clear HO HN hown' hown2 hgrow hb0 h1
    go_wp2
    go_ret
    exact ⟨_, rfl, HFR.out, HB1.out⟩
  · have h0 : n = 0 := by omega
    subst h0
    have hl0 : ls = [] := List.length_eq_zero_iff.1 hlen
    subst hl0
    cases a
    · go_enter Tryz.func116, Tryz.ntmps116
      go_wp2
      go_ret
      exact ⟨_, rfl, World.ownsRow_nil _ _ _ _, Below.refl _ _⟩
    · have HO := hide (World.ownsRow_lit (base := w.heap.size) (e := 188) (size := 3) w #[] 0 (Nat.le_refl _) (Nat.zero_le _) rfl)
      go_enter Tryz.func116, Tryz.ntmps116
      go_wp2
      go_ret
      exact ⟨_, rfl, HO.out, hb0 _⟩

abbrev vsw (ls : List (Int × Int)) : List Value := (flw ls).map (Value.int .i64)

theorem length_vsw (ls : List (Int × Int)) : (vsw ls).length = ls.length * 2 := by rw [List.length_map, length_flw]

theorem ints_onew {ls : List (Int × Int)} : ∀ v ∈ vsw ls, v.oneCell' = true := by
  intro v hv
  obtain ⟨z, _, rfl⟩ := List.mem_map.1 hv
  rfl

theorem own_owd {w : World} {B0 : Nat} {e : TypeId} {v : Value} {n : Nat} {ls : List (Int × Int)} (hn : n ≤ 1048576) (hl : ls.length = n) (h : w.ownsRow B0 e 2 v n (vsw ls)) : ∃ a c, v = .slice a n c ∧ OWd (InR B0 w.heap.size) a n ls w := by
  rcases h.2 with ⟨rfl, h0⟩ | ⟨g, cap, cur, rfl, hb, hg, hc, _, hs, ht⟩
  · exact ⟨none, 0, by rw [h0], hl, hn, .inl h0⟩
  · have hlt : g < w.heap.size := (Array.getElem?_eq_some_iff.1 hg).1
    refine ⟨_, cap, rfl, hl, hn, .inr ⟨g, rfl, ⟨hb, hlt⟩, hlt, fun i hi => ?_, fun i => by simp [World.frozen?, hg]⟩⟩
    have hcell := h.cells (g := g) rfl i (.int .i64 (gt (flw ls) i)) (by simp [gt, hi])
    have hadd : (Addr.mk g 0 none).add i = ⟨g, i, none⟩ := by cases i <;> simp [Addr.add]
    rwa [hadd] at hcell

theorem news_swd {w : World} {b off n : Nat} {ls : List (Int × Int)} (hlen : ls.length = n) (hc : ∀ i, i < n * 2 → w.cell? ⟨b, off + i, none⟩ = some (.int .i64 (gt (flw ls) i))) : ∀ j u, (vsw ls)[j]? = some u → w.cell? ((Addr.mk b off none).add j) = some u := by
  intro j u hj
  have hj2 : j < (vsw ls).length := (List.getElem?_eq_some_iff.1 hj).1
  rw [length_vsw] at hj2
  have hadd : (Addr.mk b off none).add j = ⟨b, off + j, none⟩ := by cases j <;> simp [Addr.add]
  rw [hadd, hc j (by omega), ← hj]
  have hf : j < (flw ls).length := by rw [length_flw]; omega
  simp [gt, hf]

theorem infoWord2 : (Tryz.prog.info? 107).map (·.size) = some 2 := by kernel_rfl

theorem copy_w {P : Program} (U : World) (dT sT ty elem t : TypeId) (b off n ca : Nat) (ls : List (Int × Int)) (cur : Array Value) (hu : P.underlying dT = some (.slice elem)) (hs : (P.info? elem).map (·.size) = some 2) (hcur : cur.size = n * 2) (hlen : ls.length = n)
    (hb : b < U.heap.size) (hc : ∀ i, i < n * 2 → U.cell? ⟨b, off + i, none⟩ = some (.int .i64 (gt (flw ls) i))) :
    Sem.run P (Builtin.copy_ #[dT, sT] ty #[.slice (some ⟨U.heap.size, 0, none⟩) n n, .slice (some ⟨b, off, none⟩) n ca]) (U.alloc (.cells cur t)) = .ok (.int .i64 n) (U.alloc (.cells (vsw ls).toArray t)) := by
  have hsrc : ∀ j v, (vsw ls)[j]? = some v → (U.alloc (.cells cur t)).cell? ((Addr.mk b off none).add j) = some v := fun j v hj => by
    have h := news_swd hlen hc j v hj
    have hadd : (Addr.mk b off none).add j = ⟨b, off + j, none⟩ := by cases j <;> simp [Addr.add]
    rw [hadd] at h ⊢
    rw [World.cell?_alloc_past _ _ _ hb]
    exact h
  have hl := run_loadCells_list (P := P) (U.alloc (.cells cur t)) ⟨b, off, none⟩ (vsw ls) hsrc
  have hst := run_storeCells_at P U.heap.size 0 t (vsw ls) 0 cur (U.alloc (.cells cur t)) (heap_alloc_new U _) (by rw [length_vsw]; omega) ints_onew
  have hL : (vsw ls).length = n * 2 := by rw [length_vsw, hlen]
  have e : (cur.toList.take (0 + 0) ++ vsw ls ++ cur.toList.drop (0 + 0 + (vsw ls).length)).toArray = (vsw ls).toArray := by
    have : cur.toList.drop (0 + 0 + (vsw ls).length) = [] := by apply List.drop_eq_nil_of_le; rw [hL]; simp [hcur]
    rw [this]; simp
  rw [e, World.setRow_alloc_new] at hst
  rw [hL] at hl
  cases hq : P.info? elem with
  | none => simp [hq] at hs
  | some i =>
    have hi : i.size = 2 := by simpa [hq] using hs
    have hmin : Nat.min n n = n := Nat.min_self n
    simp [Builtin.copy_, run_underlying hu, Builtin.lenOf, Builtin.firstCells, sizeOf, typeInfo, hq, hi, hmin, hl, hst, goInt]

theorem copy_w0 {P : Program} (U : World) (dT sT ty elem : TypeId) (d a : Option Addr) (ca cb : Nat) (hu : P.underlying dT = some (.slice elem)) (hs : (P.info? elem).map (·.size) = some 2) :
    Sem.run P (Builtin.copy_ #[dT, sT] ty #[.slice d 0 cb, .slice a 0 ca]) U = .ok (.int .i64 0) U := by
  cases hq : P.info? elem with
  | none => simp [hq] at hs
  | some i =>
    have hl : ∀ (x : Addr), (loadCells x 0).run P U = .ok #[] U := fun x => by simpa using run_loadCells_list (P := P) U x [] (by simp)
    cases d <;> cases a <;> simp [Builtin.copy_, run_underlying hu, Builtin.lenOf, Builtin.firstCells, sizeOf, typeInfo, hq, storeCells, hl, goInt]

theorem blk_vsw (U : World) (ls : List (Int × Int)) (t : TypeId) : Blk (U.alloc (.cells (vsw ls).toArray t)) U.heap.size (flw ls) := by
  refine ⟨by simp, fun i hi => ?_, fun i => by simp⟩
  rw [World.cell?_alloc_new]
  simp [gt, hi]

set_option maxRecDepth 100000 in
theorem copiedMemory_O (a : Option Addr) (n c : Nat) (ls : List (Int × Int)) (w : World) (hn : n ≤ 1048576) (hs : Swd w a n ls) :
    Calls Tryz.prog 115 #[.agg #[.slice a n c]] w fun e w' => ∃ ra rc, e = .returned (.agg #[.slice ra n rc]) ∧ OWd (InR w.heap.size w'.heap.size) ra n ls w' ∧ Below w.heap.size w w' := by
  obtain ⟨hlen, hs⟩ := hs
  obtain ⟨i0, hi, hz0, hz1, hz2⟩ := info_parts infoWord
  have hmk : ∀ u : World, (Instr.makeSlice 38 (.int .i64 (n : Int)) (.int .i64 (n : Int))).run Tryz.prog u =
      .ok (.slice (some ⟨u.heap.size, 0, none⟩) n n) (u.alloc (.cells (madeCells #[.int .i64 0, .int .i64 0] (n * 2)) 107)) := fun u => by
    have h := run_make (P := Tryz.prog) u 38 107 i0 (.agg #[.int .i64 0, .int .i64 0]) Tryz.underlying38 hi hz0 .i64 .i64 (n : Int) (n : Int) (by omega) (Int.le_refl _) (by rw [hz2]; omega) (by omega)
    simpa [hz1, Value.cells] using h
  have HB := hide fun o1 o2 o3 => (((Below.refl w.heap.size w).alloc (Nat.le_refl _) o1).alloc (by simp) o2).alloc (by simp; omega) o3
  by_cases hp : 0 < n
  · obtain ⟨b, off, rfl, hb, hc⟩ := hs hp
    have hcp : Sem.run Tryz.prog (Builtin.copy_ #[38, 38] 3 #[.slice (some ⟨w.heap.size + 1 + 1, 0, none⟩) n n, .slice (some ⟨b, off, none⟩) n c])
        (((w.alloc (.cells #[.slice (some ⟨b, off, none⟩) n c] 40)).alloc (.cells #[.slice none 0 0] 40)).alloc (.cells (madeCells #[.int .i64 0, .int .i64 0] (n * 2)) 107)) =
        .ok (.int .i64 n) (((w.alloc (.cells #[.slice (some ⟨b, off, none⟩) n c] 40)).alloc (.cells #[.slice none 0 0] 40)).alloc (.cells (vsw ls).toArray 107)) := by
      have h := copy_w (P := Tryz.prog) ((w.alloc (.cells #[.slice (some ⟨b, off, none⟩) n c] 40)).alloc (.cells #[.slice none 0 0] 40)) 38 38 3 107 107 b off n c ls (madeCells #[.int .i64 0, .int .i64 0] (n * 2)) Tryz.underlying38 infoWord2 (by rw [size_madeCells]) hlen (by simp; omega) (fun j hj => by rw [World.cell?_alloc_past _ _ _ (by simp; omega), World.cell?_alloc_past _ _ _ hb]; exact hc j hj)
      rw [show ((w.alloc (.cells #[.slice (some ⟨b, off, none⟩) n c] 40)).alloc (.cells #[.slice none 0 0] 40)).heap.size = w.heap.size + 1 + 1 from by simp] at h
      exact h
    have HK := hide fun o1 o2 => blk_vsw ((w.alloc o1).alloc o2) ls 107
    simp only [World.size_alloc] at HK
    clear hs hc
    go_enter Tryz.func115, Tryz.ntmps115
    go_wp2
    clear hcp
    refine bodyPost_ret (v := .agg #[.slice (some ⟨w.heap.size + 1 + 1, 0, none⟩) n n]) (by simp [results, Tryz.results115, go_sem]) rfl ⟨_, _, rfl, ?_, ?_⟩
    · exact OWd.ofBlk (HK.out _ _) ⟨by omega, by simp⟩ hlen hn
    · first
        | exact HB.out _ _ _
        | exact (HB.out _ _ _).setCell (by simp) _
  · have h0 : n = 0 := by omega
    subst h0
    have hl0 : ls = [] := List.length_eq_zero_iff.1 hlen
    subst hl0
    have hcp := fun (u : World) (x y : Option Addr) (p q : Nat) => copy_w0 (P := Tryz.prog) u 38 38 3 107 x y p q Tryz.underlying38 infoWord2
    have hmk0 : ∀ u : World, (Instr.makeSlice 38 (.int .i64 0) (.int .i64 0)).run Tryz.prog u = .ok (.slice (some ⟨u.heap.size, 0, none⟩) 0 0) (u.alloc (.cells (madeCells #[.int .i64 0, .int .i64 0] (0 * 2)) 107)) := hmk
    clear hs hmk
    go_enter Tryz.func115, Tryz.ntmps115
    go_wp2
    refine bodyPost_ret (v := .agg #[.slice (some ⟨w.heap.size + 1 + 1, 0, none⟩) 0 0]) (by simp [results, Tryz.results115, go_sem]) rfl ⟨_, _, rfl, OWd.nil _ _ _, ?_⟩
    first
      | exact HB.out _ _ _
      | exact (HB.out _ _ _).setCell (by simp) _

end Go.Proofs.YtbfmdnnbiidlkaaGreat
