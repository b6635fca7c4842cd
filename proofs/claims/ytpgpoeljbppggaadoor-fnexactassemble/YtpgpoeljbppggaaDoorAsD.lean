import Derived.Test.YtpgpoeljbppggaaDoorPinH
import Derived.Deep.AppendLies
import Derived.WalkKit
import Derived.ProofKit
import Derived.OpenShut
import Derived.ShutString
import Derived.ChangeOld
import Derived.Below
import Derived.WalkSpells
import Derived.Deep.QuietTactic
import Derived.BigQuiet
import Derived.Deep.RegionWith
import Derived.Deep.WholeRow
import Derived.Deep.DeepCutAuto
import Derived.Deep.RegionHeld2
import Derived.Deep.AppendLies
import Derived.Deep.RegionLaw
namespace Go.Proofs.YtpgpoeljbppggaaDoor
open Go.ChangeShapes Go.WideShapes Go.ChangeAt Go.RowKit

theorem ownR_below {w w' : World} {B n size : Nat} {e : TypeId} {v : Value} {xs : List Value} (h : w.ownsRow B e size v n xs) (hb : Below w.heap.size w w') : w'.ownsRow B e size v n xs := by
  refine ⟨h.1, ?_⟩
  rcases h.2 with h' | ⟨g, cap, cur, h', hB, hg, r⟩
  · exact .inl h'
  · exact .inr ⟨g, cap, cur, h', hB, (hb.block g (Array.getElem?_eq_some_iff.1 hg).1).trans hg, r⟩

theorem ownR_set {w : World} {B e s : Nat} {v : Value} {k : Nat} {xs : List Value} (h : w.ownsRow B e s v k xs) {P o : Nat} (hP : P < B) (y : Value) : (w.setCell ⟨P, o, none⟩ y).ownsRow B e s v k xs := by
  refine ⟨h.1, ?_⟩
  rcases h.2 with h' | ⟨g, cap, cur, h', hB, hg, r⟩
  · exact .inl h'
  · exact .inr ⟨g, cap, cur, h', hB, (Below.heap_setCell _ _ _ _ (by show g ≠ P; omega)).trans hg, r⟩

theorem Mm.grownN {w u X w1 : World} {cs : List (Nat × Nat × Value)} {fs : List (Nat × Nat × (World → Prop))} (h : Mm w u cs fs) (hc : Below u.heap.size u X) {row : Option Nat} (hg : X.grownBy w1 row) {B : Nat} (hB : w.heap.size ≤ B) (hBu : B ≤ u.heap.size) (hrow : ∀ q, row = some q → B ≤ q)
    (hcs : ∀ c ∈ cs, c.1 < B) (hfs : ∀ f ∈ fs, f.2.1 ≤ B) : Mm w w1 cs fs := by
  have hsz := hc.size
  have hgs := hg.size
  have far : ∀ q, q < B → w1.heap[q]? = u.heap[q]? := fun q hq => (hg.block q (by omega) (fun e => by have := hrow q e.symm; omega)).trans (hc.block q (by omega))
  refine ⟨(h.bel.trans (hc.mono h.bel.size)).grown hg (by have := h.bel.size; omega) (fun g hg' => by have := hrow g hg'; omega), fun c k => ?_, fun f k => ?_⟩
  · have h1 := h.cells c k
    have e := far c.1 (hcs c k)
    exact ⟨by omega, (World.cell?_of_block (a := ⟨c.1, c.2.1, none⟩) e).trans h1.2.1, (World.frozen?_of_block (a := ⟨c.1, c.2.1, none⟩) e).trans h1.2.2⟩
  · have h1 := h.facts f k
    refine ⟨h1.1, h1.1 u w1 (fun q hq _ => far q ?_) h1.2⟩
    have := hq.2
    have := hfs f k
    omega

theorem u16_in {n : Int} (h : 0 ≤ n ∧ n ≤ 65535) : IntKind.u16.wrap n = n := by
  unfold IntKind.wrap
  have e : (2 ^ IntKind.u16.bits : Int) = 65536 := by decide
  have s : IntKind.u16.signed = false := by decide
  simp only [e, s, Bool.false_and]
  show n % 65536 = n
  omega

theorem ret_u16 {a b : Int} (h : a = b) : Ending.returned (.int .u16 a) = .returned (.int .u16 b) := by rw [h]

set_option maxRecDepth 100000 in
theorem pack_calls (o a b i : Int) (w : World) (h : ifC o a b i = 0) :
    Calls Tryd.prog 41 #[.agg #[.int .i64 o, .int .i64 a, .int .i64 b, .int .i64 i]] w fun e w' => e = .returned (.int .u16 (encI o a b i)) ∧ Below w.heap.size w w' := by
  obtain ⟨⟨o0, o1⟩, ⟨a0, a1⟩, ⟨b0, b1⟩, i0, i1⟩ := ifC_zero h
  have w0 : IntKind.u16.wrap o = o := u16_in (by omega)
  have w1 : IntKind.u16.wrap a = a := u16_in (by omega)
  have w2 : IntKind.u16.wrap b = b := u16_in (by omega)
  have w3 : IntKind.u16.wrap i = i := u16_in (by omega)
  have m0 : IntKind.u16.wrap (o * 4096) = o * 4096 := u16_in (by omega)
  have m1 : IntKind.u16.wrap (a * 512) = a * 512 := u16_in (by omega)
  have m2 : IntKind.u16.wrap (b * 64) = b * 64 := u16_in (by omega)
  have s1 : IntKind.u16.wrap (o * 4096 + a * 512) = o * 4096 + a * 512 := u16_in (by omega)
  have s2 : IntKind.u16.wrap (o * 4096 + a * 512 + b * 64) = o * 4096 + a * 512 + b * 64 := u16_in (by omega)
  have s3 : IntKind.u16.wrap (o * 4096 + a * 512 + b * 64 + i) = o * 4096 + a * 512 + b * 64 + i := u16_in (by omega)
  have HE : Hid (encI o a b i = o * 4096 + a * 512 + b * 64 + i) := by show _ = _; unfold encI; omega
  have HB := hide fun o1 => (Below.refl w.heap.size w).alloc (Nat.le_refl _) o1
  clear h
  go_enter Tryd.func41, Tryd.ntmps41
  go_wp2
  go_ret
  exact ⟨ret_u16 HE.out.symm, HB.out _⟩

set_option maxRecDepth 100000 in
theorem l5Encode_calls (P : Nat) (o a b i : Int) (w : World) (h : ifC o a b i = 0) (c0 : w.cell? ⟨P, 0, none⟩ = some (.int .i64 o)) (c1 : w.cell? ⟨P, 1, none⟩ = some (.int .i64 a)) (c2 : w.cell? ⟨P, 2, none⟩ = some (.int .i64 b)) (c3 : w.cell? ⟨P, 3, none⟩ = some (.int .i64 i)) :
    Calls Tryd.prog 44 #[.pointer (some ⟨P, 0, none⟩)] w fun e w' => e = .returned (.int .i64 (encI o a b i)) ∧ w' = w.drew := by
  obtain ⟨⟨o0, o1⟩, ⟨a0, a1⟩, ⟨b0, b1⟩, i0, i1⟩ := ifC_zero h
  have HE : Hid (encI o a b i = 4096 * o + 512 * a + 64 * b + i) := rfl
  clear h
  go_enter Tryd.func44, Tryd.ntmps44
  go_wp2
  go_region
  go_wp2
  go_ret
  exact ⟨ret_int HE.out.symm, rfl⟩

theorem one_new {W : World} {B : Nat} {v : Value} (h : W.cell? ⟨B, 0, none⟩ = some v) : ∀ j u, [v][j]? = some u → W.cell? ((Addr.mk B 0 none).add j) = some u := by
  intro j u hj
  match j, hj with
  | 0, hj => simp at hj; subst hj; simpa [Addr.add] using h

theorem owns_osl {w : World} {B0 : Nat} {e : TypeId} {v : Value} {n : Nat} {zs : List Int} (hn : n ≤ 1048576) (h : w.ownsRow B0 e 1 v n (zs.map (Value.int .i64))) : ∃ a c, v = .slice a n c ∧ OSl w B0 w.heap.size a n zs := by
  have hlen : zs.length = n := by simpa using h.1
  by_cases h0 : n = 0
  · subst h0
    rcases h.2 with ⟨rfl, _⟩ | ⟨g, cap, cur, rfl, hb, hg, _, _, _, _⟩
    · exact ⟨none, 0, rfl, hlen, hn, .inl ⟨rfl, rfl⟩⟩
    · exact ⟨_, _, rfl, hlen, hn, .inr ⟨g, rfl, hb, (Array.getElem?_eq_some_iff.1 hg).1, (Array.getElem?_eq_some_iff.1 hg).1, fun i hi => by omega, fun i => by simp [World.frozen?, hg]⟩⟩
  · obtain ⟨g, cap, rfl, hb, _, _, blk⟩ := owns_blk (by omega) h
    exact ⟨_, _, rfl, hlen, hn, .inr ⟨g, rfl, hb, blk.1, blk⟩⟩

/-- what is read of a line. -/
noncomputable def lnR (ls : List ByteArray) (j : Nat) : Int × Int × Int × Int × Int := psI (cuts (ls.getD j ⟨#[]⟩) 0)

def enc5 (v : Int × Int × Int × Int × Int) : Int := encI v.2.1 v.2.2.1 v.2.2.2.1 v.2.2.2.2

noncomputable def asmW (ls : List ByteArray) (k : Nat) : List Int := (List.range k).map (fun j => enc5 (lnR ls j))

noncomputable def asmC (ls : List ByteArray) : Int := if 32 < ls.length then 2 else if (List.range ls.length).any (fun j => (lnR ls j).1 != 0) = true then 5 else 0

noncomputable def asmL (ls : List ByteArray) : List Int := resOf (asmC ls) (asmW ls ls.length)

theorem asmC_many {ls : List ByteArray} (h : 32 < ls.length) : asmC ls = 2 := if_pos h

theorem asmC_bad {ls : List ByteArray} {k : Nat} (h : ¬ 32 < ls.length) (hk : k < ls.length) (hb : (lnR ls k).1 ≠ 0) : asmC ls = 5 := by
  unfold asmC
  rw [if_neg h, if_pos]
  rw [List.any_eq_true]
  exact ⟨k, List.mem_range.2 hk, by simpa using hb⟩

theorem asmC_ok {ls : List ByteArray} (h : ¬ 32 < ls.length) (hb : ∀ j, j < ls.length → (lnR ls j).1 = 0) : asmC ls = 0 := by
  unfold asmC
  rw [if_neg h, if_neg]
  rw [List.any_eq_true]
  rintro ⟨k, hk, hx⟩
  rw [hb k (List.mem_range.1 hk)] at hx
  simp at hx

theorem asmL_no {ls : List ByteArray} (h : asmC ls ≠ 0) : asmL ls = [] := resOf_no h

theorem asmL_ok {ls : List ByteArray} (h : asmC ls = 0) : asmL ls = asmW ls ls.length := resOf_ok h

theorem asmW_succ (ls : List ByteArray) (k : Nat) : asmW ls (k + 1) = asmW ls k ++ [enc5 (lnR ls k)] := by simp [asmW, List.range_succ]

theorem asmW_len (ls : List ByteArray) (k : Nat) : (asmW ls k).length = k := by simp [asmW]

theorem psI_code (ps : List ByteArray) : ((psI ps).1 = 0 ∧ ifC (psI ps).2.1 (psI ps).2.2.1 (psI ps).2.2.2.1 (psI ps).2.2.2.2 = 0) ∨ (psI ps).1 = 5 := by
  rcases psBoth ps with ⟨_, h⟩ | ⟨o, a, b, i, _, h⟩
  · rw [h]; exact .inr rfl
  · rw [h]
    by_cases hc : ifC o a b i = 0
    · rw [if_pos hc]; exact .inl ⟨rfl, hc⟩
    · rw [if_neg hc]; exact .inr rfl

theorem info2 : (Tryd.prog.info? 2).map (fun i => (i.zero, i.size, i.bytes)) = some (some (.int .i64 0), 1, 8) := by kernel_rfl

theorem osNil (S : Nat → Prop) (w : World) : OS S none 0 [] w := ⟨rfl, by omega, .inl rfl⟩

set_option maxRecDepth 100000 in
set_option maxHeartbeats 4000000 in
theorem implAssemble_calls (a : Option Addr) (n c : Nat) (ls : List ByteArray) (w : World) (hs : Sts w a n ls) (hz : ∀ j, j < n → (ls.getD j ⟨#[]⟩).size ≤ 1048576) (hn : n ≤ 1048576) (hkw : Kw w) :
    Calls Tryd.prog 16 #[.slice a n c] w fun e w' => ∃ ra rn rc, e = .returned (.agg #[.int .i64 (asmC ls), .slice ra rn rc]) ∧ OS (InR w.heap.size w'.heap.size) ra rn (asmL ls) w' ∧ Below w.heap.size w w' := by
  have M0 := (Mm.start w).allocC [.int .i64 0, .slice none 0 0] 42
  have hlen := hs.1
  by_cases h32 : 32 < n
  · have g0 : (n : Int) > 32 := by omega
    have HC := hide (asmC_many (ls := ls) (by omega))
    have HN : Hid (asmL ls = []) := asmL_no (by rw [HC.out]; decide)
    have HB := hide M0.bel
    clear h32 M0
    go_enter Tryd.func16, Tryd.ntmps16
    go_wp2
    refine bodyPost_ret (v := .agg #[.int .i64 2, .slice none 0 0]) (by simp [results, Tryd.results16, go_sem]) rfl ⟨none, 0, 0, by rw [HC.out], ?_, (Below.refl _ _).alloc (Nat.le_refl _) _⟩
    rw [HN.out]
    exact osNil _ _
  obtain ⟨i0, hi, hz0, hz1, hz2⟩ := info_parts info2
  have hmk : ∀ W : World, (Instr.makeSlice 40 (.int .i64 0) (.int .i64 (n : Int))).run Tryd.prog W = .ok (.slice (some ⟨W.heap.size, 0, none⟩) 0 n) (W.alloc (.cells (madeCells #[.int .i64 0] n) 2)) := fun W => by
    have h := run_make (P := Tryd.prog) W 40 2 i0 (.int .i64 0) Tryd.underlying40 hi hz0 .i64 .i64 0 (n : Int) (Int.le_refl _) (by omega) (by rw [hz2]; omega) (by omega)
    simpa [hz1, Value.cells] using h
  have H32 := hide h32
  have g0 : ¬ ((n : Int) > 32) := by omega
  obtain ⟨u, hu⟩ : ∃ u, u = w.alloc (.cells #[.int .i64 0, .slice none 0 0] 42) := ⟨_, rfl⟩
  rw [← hu] at M0
  have zu : u.heap.size = w.heap.size + 1 := by rw [hu]; simp
  have how0 := World.ownsRow_made (base := u.heap.size) (e := 2) (size := 1) u (madeCells #[.int .i64 0] n) n (Nat.le_refl _) (by unfold maxLen; omega) (by rw [size_madeCells]; omega)
  rw [zu] at how0
  have HOW0 := hide how0
  clear how0
  have hB2 : Below u.heap.size u (u.alloc (.cells (madeCells #[.int .i64 0] n) 2)) := (Below.refl _ _).alloc (Nat.le_refl _) _
  have HM := hide (M0.below hB2)
  have HU := hide hu
  clear M0 hu hB2 h32
  go_enter Tryd.func16, Tryd.ntmps16
  go_upto_region 3 with fail
  rw [← HU.out]
  clear HU
  go_wp2
  clear hmk
  go_loopw [16, 3] (fun q v wr => ∃ k : Nat, k ≤ n ∧ q = .int .i64 (k : Int) ∧ (∀ j, j < k → (lnR ls j).1 = 0) ∧ wr.ownsRow (w.heap.size + 1) 2 1 v k ((asmW ls k).map (Value.int .i64)) ∧ Mm w wr [] [(w.heap.size, w.heap.size + 1, Cs w.heap.size [.int .i64 0, .slice none 0 0])] ∧ w.heap.size + 1 ≤ wr.heap.size) (fun q _ _ => n - (intOf q).toNat)
  case atStart => exact ⟨0, Nat.zero_le _, rfl, fun j hj => by omega, HOW0.out, HM.out, by simp [zu]⟩
  case round =>
    clear HOW0 HM
    obtain ⟨k, hk, rfl, hgood, own, M, hB⟩ := hrel
    by_cases hlt : k < n
    · obtain ⟨b, rfl, hb, hc⟩ := hs.2 (by omega)
      have cl := (M.bel.cell (p := ⟨b, k, none⟩) hb).trans (hc k hlt)
      have hsz := hz k hlt
      obtain ⟨L, hL⟩ : ∃ L, L = ls.getD k ⟨#[]⟩ := ⟨_, rfl⟩
      have hv0 : lnR ls k = psI (cuts L 0) := by rw [hL]; rfl
      rw [← hL] at cl hsz
      clear hL
      have k0 : (0 : Int) ≤ (k : Int) := by omega
      have k1 : (k : Int) < (n : Int) := by omega
      have hkr := hkw.below M.bel
      have hbs := M.bel.size
      have HGO := hide hgood
      have HMW := hide M
      have HOW := hide own
      clear hc hgood own
      obtain ⟨v5, hv5⟩ : ∃ v5, v5 = lnR ls k := ⟨_, rfl⟩
      have HP : ∀ X : World, Kw X → Calls Tryd.prog 8 #[.string L] X fun e w' => e = .returned (R5 v5) ∧ Below X.heap.size X w' := fun X hX => by rw [hv5, hv0]; exact implParseInst_calls _ X hsz hX
      have hcd := psI_code (cuts L 0)
      have hv6 : v5 = psI (cuts L 0) := by rw [hv5, hv0]
      rw [← hv6] at hcd
      clear hv6
      have HV5 := hide hv5
      clear hv5
      obtain ⟨cd, o, q1, q2, q3⟩ := v5
      unfold R5 at HP
      dsimp only at HP hcd
      go_wp2_with fail
      refine (HP _ hkr).mono ?_
      rintro e w2 ⟨rfl, g2⟩
      have z2 := g2.size
      have M2 := (M.below g2).allocC [.int .i64 cd, .int .i64 o, .int .i64 q1, .int .i64 q2, .int .i64 q3] 28
      have hbx : Below wr.heap.size wr (w2.alloc (.cells #[.int .i64 cd, .int .i64 o, .int .i64 q1, .int .i64 q2, .int .i64 q3] 28)) := g2.alloc z2 _
      have c0 := (M2.get 0 rfl).cell 0 rfl
      have c1 := (M2.get 0 rfl).cell 1 rfl
      have c2 := (M2.get 0 rfl).cell 2 rfl
      have c3 := (M2.get 0 rfl).cell 3 rfl
      have c4 := (M2.get 0 rfl).cell 4 rfl
      have HBX := hide hbx
      clear M g2 hbx cl HP
      rcases hcd with ⟨hcd, hif⟩ | hcd
      rotate_left
      · subst hcd
        have HC : Hid (asmC ls = 5) := asmC_bad (k := k) (by have := H32.out; omega) (by omega) (by rw [← HV5.out]; show (5 : Int) ≠ 0; decide)
        have HN : Hid (asmL ls = []) := asmL_no (by rw [HC.out]; decide)
        have r0 := (M2.get 1 rfl).cell 0 rfl
        have r1 := (M2.get 1 rfl).cell 1 rfl
        have f0 := (M2.get 1 rfl).fz 0 (by simp)
        have f1 := (M2.get 1 rfl).fz 1 (by simp)
        have HB := hide M2.bel
        clear M2
        go_wp2
        refine bodyPost_ret (v := .agg #[.int .i64 5, .slice none 0 0]) (by simp [results, Tryd.results16, go_sem, r0, r1]) rfl ⟨none, 0, 0, by rw [HC.out], ?_, (HB.out.setCell (by simp) _).setCell (by simp) _⟩
        rw [HN.out]
        exact osNil _ _
      · subst hcd
        have HGE : Hid (∀ j, j < k + 1 → (lnR ls j).1 = 0) := by
          intro j hj
          by_cases hjk : j = k
          · rw [hjk, ← HV5.out]
          · exact HGO.out j (by omega)
        obtain ⟨E, hE⟩ : ∃ E, E = encI o q1 q2 q3 := ⟨_, rfl⟩
        have HN : Hid ((asmW ls (k + 1)).map (Value.int .i64) = (asmW ls k).map (Value.int .i64) ++ [.int .i64 E]) := by
          show _ = _
          rw [asmW_succ, List.map_append, ← HV5.out, hE]
          rfl
        have HPk : ∀ X : World, Calls Tryd.prog 41 #[.agg #[.int .i64 o, .int .i64 q1, .int .i64 q2, .int .i64 q3]] X fun e w' => e = .returned (.int .u16 E) ∧ Below X.heap.size X w' := fun X => by rw [hE]; exact pack_calls o q1 q2 q3 X hif
        have hb : 0 ≤ E ∧ E ≤ 65535 := by
          obtain ⟨⟨o0, o1⟩, ⟨a0, a1⟩, ⟨b0, b1⟩, i0, i1⟩ := ifC_zero hif
          rw [hE]
          unfold encI
          omega
        obtain ⟨E0, E1⟩ := hb
        have ec : IntKind.i64.wrap E = E := IntWalk.i64_in _ (by omega)
        have r0 := (M2.get 1 rfl).cell 0 rfl
        clear M2 hif hE
        go_wp2_with fail
        refine (HPk _).mono ?_
        rintro e w3 ⟨rfl, g3⟩
        have HC1 : Hid (Below wr.heap.size wr (w3.alloc (.cells #[.int .i64 E] 2))) := (HBX.out.trans (g3.mono HBX.out.size)).alloc (by have := g3.size; have := HBX.out.size; omega) _
        have z3 : w2.heap.size + 1 ≤ w3.heap.size := by have := g3.size; simpa using this
        clear HPk g3
        go_wp2_with (first
          | (at_builtin; go_loud (refine wpList_append_lies _ rfl _ _ 40 rfl (w.heap.size + 1) 2 i0 (.int .i64 0) 1 8 Tryd.underlying40 hi hz0 hz1 hz2 rfl (by decide) _ k _ rfl (ownR_below HOW.out HC1.out) ⟨w3.heap.size, 0, none⟩ 1 1 [.int .i64 E] rfl rfl (one_new (by go_simp)) (by simp [Value.oneCell']) (by omega) (by unfold maxLen; omega) (by omega) (by simp; omega) (w3.heap.size + 1) (by simp) ?_))
          | go_in)
        intro g cp w5 hown5 hg5 hat5 hlt5
        have MG := HMW.out.grownN HC1.out hg5 (B := w.heap.size + 1) (by omega) hB (fun q e => (HOW.out.lt q e).1) (by simp) (by simp <;> omega)
        have HMG := hide MG
        have z5 := hg5.size
        have HOW5 := hide hown5
        clear hown5 hg5 hat5 hlt5 MG
        go_wp2
        go_roundw
        case rel => exact ⟨k + 1, by omega, by go_num, HGE.out, by rw [HN.out]; simpa using HOW5.out, HMG.out, by simp at z5 ⊢; omega⟩
        case measure => simp [intOf]; omega
    · obtain rfl : k = n := by omega
      have hge : ¬ ((k : Int) < (k : Int)) := by omega
      have HC : Hid (asmC ls = 0) := asmC_ok (by have := H32.out; omega) (fun j hj => hgood j (by omega))
      have HN : Hid (asmL ls = asmW ls k) := by show _ = _; rw [asmL_ok HC.out, hlen]
      obtain ⟨ra, rc, rfl, fr⟩ := owns_osl (by omega) own
      have M5 := M.fact OS.loc (OS.ofOSl fr)
      have c0_ := (M5.get 1 rfl).cell 0 rfl
      have c1_ := (M5.get 1 rfl).cell 1 rfl
      have f0_ := (M5.get 1 rfl).fz 0 (by simp)
      have f1_ := (M5.get 1 rfl).fz 1 (by simp)
      have HB := hide M5.bel
      have HO := hide (M5.get 0 rfl)
      clear M M5 own fr hlt hgood
      go_wp2
      refine bodyPost_ret (v := .agg #[.int .i64 0, .slice ra k rc]) (by simp [results, Tryd.results16, go_sem, c0_, c1_]) rfl ⟨ra, k, ⟨rc, by rw [HC.out]⟩, ?_, (HB.out.setCell (by simp <;> omega) _).setCell (by simp <;> omega) _⟩
      rw [HN.out]
      exact (OS.loc.setC (OS.loc.setC HO.out (fun h => by have := h.1; simp at this; omega) _) (fun h => by have := h.1; simp at this; omega) _).mono (fun q e => ⟨by have := e.1; omega, by have := e.2; simp; omega⟩)

end Go.Proofs.YtpgpoeljbppggaaDoor
