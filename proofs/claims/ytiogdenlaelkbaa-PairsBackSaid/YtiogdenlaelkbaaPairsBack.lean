/-
  The Go function PairsBack returns true: what was put is got, and dropped again; all else stays: any pairs, two keys and a value; its arguments read afterwards as before.
  Conditions: none. The frame around the walk was written by program (proof-skeleton.mjs).
-/
import Derived.Test.YtiogdenlaelkbaaRows
import Derived.WalkKit
import Derived.ProofKit
import Derived.OpenShut
import Derived.ShutString
import Derived.ChangeOld
import Derived.Below
import Derived.Test.YtiogdenlaelkbaaAlive05
import Derived.Test.YtiogdenlaelkbaaPairArg
import Derived.Test.YtiogdenlaelkbaaPairsG
import Derived.Test.YtiogdenlaelkbaaPairsQ
import Derived.Test.YtiogdenlaelkbaaRef05e
namespace Go.Proofs.Ytiogdenlaelkbaa.pairsBack
open Go.ChangeShapes Go.WideShapes Go.ChangeAt Go.RowKit
open Go.ChangeMaps (open_string shut_string)
set_option linter.unusedVariables false

theorem own : ownKnob Try.prog.godebug = none := by kernel_rfl
theorem laidOut : laidOutB Try.prog = true := by kernel_rfl

/-- WHAT THE WALK IS TOLD OF A SLICE OF INTEGERS THAT CAME IN: it is nil; or it leads to a row of 'cap' cells, the numbers 'zs' (the first 'len' are its elements, the rest its spare room), each fitting its kind. -/
def IsRow (k : IntKind) (w : World) (a : Option Addr) (len cap : Nat) (zs : List Int) : Prop :=
  (a = none ∧ len = 0 ∧ cap = 0 ∧ zs = []) ∨
  ∃ x, a = some x ∧ len ≤ cap ∧ cap ≤ maxLen ∧ zs.length = cap ∧ (∀ i, i < zs.length → w.cell? (x.add i) = some (.int k (zs.getD i 0))) ∧ ∀ n ∈ zs, (Lit.int k n).wf = true

/-! ### the walk -/
open Go.Proofs.Ytiogdenlaelkbaa
theorem boxes (w : World) (d1 d2 : List Value) (t : TypeId) : ((w.alloc (.cells d1.toArray t)).alloc (.cells d2.toArray t)).rangeAt w.heap.size 0 d1 ∧ ((w.alloc (.cells d1.toArray t)).alloc (.cells d2.toArray t)).rangeAt (w.heap.size + 1) 0 d2 ∧ Below w.heap.size w ((w.alloc (.cells d1.toArray t)).alloc (.cells d2.toArray t)) := by
  have h1 := rangeOf (heap_alloc_new w (.cells d1.toArray t))
  have h2 := rangeOf (heap_alloc_new (w.alloc (.cells d1.toArray t)) (.cells d2.toArray t))
  rw [World.size_alloc] at h2
  exact ⟨rangeBel2 (ext_alloc _ _) h1, h2, ext_trans (ext_alloc _ _) (ext_alloc _ _)⟩
set_option maxRecDepth 100000 in
set_option maxHeartbeats 4000000 in
theorem walk (a0 : Option Addr) (len0 cap0 : Nat) (ps0 : List Pr) (l1 : List UInt8) (a2 : Option Addr) (len2 cap2 : Nat) (z2 : List Int) (l3 : List UInt8) (w : World) (w0 : len0 = ps0.length ∧ Row (fun b => b < w.heap.size) w a0 ps0 ∧ ps0.length ≤ cap0 ∧ cap0 ≤ maxLen) (w1 : l1.length = 32) (w2 : IsRow .u8 w a2 len2 cap2 z2) (w3 : l3.length = 32) :
    Calls Try.prog 4 #[.slice a0 len0 cap0, .agg (l1.map bv).toArray, .slice a2 len2 cap2, .agg (l3.map bv).toArray] w fun e w' => e = .returned (.bool true) ∧ Below w.heap.size w w' := by
  obtain ⟨rfl, hr, hcap, hcm⟩ := w0
  obtain ⟨v, rfl, hrv, hvd, hdm⟩ := rd_of_row w2
  obtain ⟨k, rfl⟩ : ∃ k : Dg, l1 = k.1 := ⟨⟨l1, w1⟩, rfl⟩
  obtain ⟨o, rfl⟩ : ∃ o : Dg, l3 = o.1 := ⟨⟨l3, w3⟩, rfl⟩
  have hcm2 : cap0 ≤ 9223372036854775807 := by unfold maxLen at hcm; omega
  have hvl : v.length ≤ 9223372036854775807 := by unfold maxLen at hdm; omega
  have hu := Try.underlying24
  have hi := hid (sizeDg k)
  have hio := hid (sizeDg o)
  obtain ⟨r1, r2, B0⟩ := boxes w (k.1.map bv) (o.1.map bv) 24
  have hkl := k.2
  have hol := o.2
  obtain ⟨gb, hgb⟩ : ∃ gb, greatP ps0 30 = gb := ⟨_, rfl⟩
  have hGr := fun W hW => RGreat_any (fun b => b < w.heap.size) a0 cap0 ps0.length 30 ps0 W hW rfl (by omega)
  rw [hgb] at hGr
  have hPu := fun W hW hV hc => PPut_any (fun b => b < w.heap.size) a0 a2 cap0 ps0.length v.length cap2 ps0 k v W hW rfl hV rfl hvd hdm hc hcap hcm2
  have hGo := fun W hW hc => PGet_any (fun b => b < w.heap.size) a0 cap0 ps0.length ps0 o W hW rfl hc
  have hGk := fun W hW hc => PGet_any (fun b => b < w.heap.size) a0 cap0 ps0.length ps0 k W hW rfl hc
  have hr1 := hr.bel B0
  have hrv1 := hrv.bel B0
  clear w1 w2 w3 hr hrv
  obtain ⟨eb, heb⟩ : ∃ eb, decide (o = k) = eb := ⟨_, rfl⟩
  have hE : ∀ W, (Op.equalIn 10000 24 (.agg (o.1.map bv).toArray) (.agg (k.1.map bv).toArray)).run Try.prog W = .ok eb W := fun W => eqd_is o k eb heb W
  replace hgb := hid hgb
  replace hGr := hid hGr
  replace hPu := hid hPu
  replace hGo := hid hGo
  replace hGk := hid hGk
  replace heb := hid heb
  generalize hdk : k.1.map bv = dk at *
  generalize hdo : o.1.map bv = dp at *
  replace hdk := hid hdk
  replace hdo := hid hdo
  go_enter Try.func4, Try.ntmps4
  go_wp2_with fail
  refine (alive5_any _).mono ?_
  rintro e w1 ⟨rfl, hb1⟩
  have s1 := rangeBel2 hb1 r1
  have s2 := rangeBel2 hb1 r2
  have hr2 := hr1.bel hb1
  have hrv2 := hrv1.bel hb1
  have B1 := hid (B0.trans (hb1.mono B0.size))
  clear r1 r2 hr1 hrv1 hb1 B0
  go_wp2_with fail
  refine (hGr.out _ hr2).mono ?_
  rintro e w2 ⟨rfl, rfl⟩
  cases gb
  · by_cases hv100 : 100 < v.length
    · go_wp2
      go_ret
      exact ⟨rfl, B1.out⟩
    · have hg2 := great_no30 hgb.out
      have hlen := hg2.1
      go_wp2_with (first
        | ((with_reducible refine wpList_load_rng rfl 24 (.tmp 5) rfl w.heap.size 0 rfl dk _ ?_ hu rfl hi.out ?_); exact s1))
      refine (hPu.out _ hr2 hrv2 (by omega)).mono ?_
      rintro e w3 ⟨A3, c3, rfl, ho3, hb3⟩
      have s13 := rangeBel2 hb3 s1
      have s23 := rangeBel2 hb3 s2
      have hr3 := hr2.bel hb3
      have hrv3 := hrv2.bel hb3
      have B3 := hid (B1.out.trans (hb3.mono B1.out.size))
      clear s1 s2 hr2 hrv2 hPu hGr hb3 B1
      by_cases hpe : mPutE ps0 k v = 0
      · obtain ⟨m1, m2, m3, m4⟩ := put_ok hpe
        rw [hpe, m3]
        rw [m3] at ho3
        have g1 := get_with_self k v m1 m4
        have g2 : o ≠ k → mGetB (withP ps0 k v) o = mGetB ps0 o ∧ mGetL (withP ps0 k v) o = mGetL ps0 o := fun h => get_with_other v m1 m4 (fun e => h e.symm)
        have g3 := drop_with k v m1 m4
        have g4 : mGetB ps0 k = false → withoutP ps0 k = ps0 := had_no m1
        have hrow3 := ho3.row
        have hcap3 := ho3.cap
        have hL : (withP ps0 k v).length ≤ 512 := (may_iff.1 m4).1
        clear ho3
        have hck := fun F W hW => PCheck_any F A3 c3 (withP ps0 k v).length (withP ps0 k v) W hW rfl (by omega)
        rw [m4, if_pos rfl] at hck
        have hxk := fun F W hW => PGet_any F A3 c3 (withP ps0 k v).length (withP ps0 k v) k W hW rfl (by omega)
        rw [g1.1, g1.2, hdk.out] at hxk
        have hxo := fun F W hW => PGet_any F A3 c3 (withP ps0 k v).length (withP ps0 k v) o W hW rfl (by omega)
        rw [hdo.out] at hxo
        have hxd := fun F W hW => PDrop_any F A3 c3 (withP ps0 k v).length (withP ps0 k v) k W hW rfl (by omega) hcap3.1 (by have := hcap3.2; unfold maxLen at this; omega)
        rw [g3.1, g3.2, hdk.out] at hxd
        generalize mGetB (withP ps0 k v) o = xb at *
        generalize mGetL (withP ps0 k v) o = xl at *
        generalize mGetB ps0 o = lb at *
        generalize mGetL ps0 o = ll at *
        generalize mGetB ps0 k = kb at *
        generalize mGetL ps0 k = kl at *
        generalize withoutP ps0 k = D at *
        generalize withP ps0 k v = L at *
        replace g2 := hid g2
        replace g4 := hid g4
        replace hck := hid hck
        replace hxk := hid hxk
        replace hxo := hid hxo
        replace hxd := hid hxd
        replace hpe := hid hpe
        clear m1 m2 m3 m4 g1 g3
        go_wp2_with (first
          | ((with_reducible refine wpList_load_rng rfl 24 (.tmp 5) rfl w.heap.size 0 rfl dk _ ?_ hu rfl hi.out ?_); exact s13))
        refine (hxk.out _ _ hrow3).mono ?_
        rintro e w4 ⟨A4, c4, rfl, ho4, hb4⟩
        have ra4 := ho4.rd
        have s14 := rangeBel2 hb4 s13
        have s24 := rangeBel2 hb4 s23
        have hr4 := hr3.bel hb4
        have hrv4 := hrv3.bel hb4
        have hrow4 := hrow3.bel hb4
        have B4 := hid (B3.out.trans (hb4.mono B3.out.size))
        clear ho4 s13 s23 hr3 hrv3 hrow3 B3 hb4
        go_wp2_with (first
          | ((with_reducible refine wpList_load_rng rfl 24 (.tmp 7) rfl (w.heap.size + 1) 0 rfl dp _ ?_ hu rfl hio.out ?_); exact s24))
        refine (hGo.out _ hr4 (by omega)).mono ?_
        rintro e w5 ⟨A5, c5, rfl, ho5, hb5⟩
        have rb5 := ho5.rd
        have s15 := rangeBel2 hb5 s14
        have s25 := rangeBel2 hb5 s24
        have hr5 := hr4.bel hb5
        have hrv5 := hrv4.bel hb5
        have hrow5 := hrow4.bel hb5
        have ra5 := ra4.bel hb5
        have B5 := hid (B4.out.trans (hb5.mono B4.out.size))
        clear ho5 s14 s24 hr4 hrv4 hrow4 B4 hb5 ra4 hGo
        go_wp2_with (first
          | ((with_reducible refine wpList_load_rng rfl 24 (.tmp 7) rfl (w.heap.size + 1) 0 rfl dp _ ?_ hu rfl hio.out ?_); exact s25))
        refine (hxo.out _ _ hrow5).mono ?_
        rintro e w6 ⟨A6, c6, rfl, ho6, hb6⟩
        have rc6 := ho6.rd
        have s16 := rangeBel2 hb6 s15
        have s26 := rangeBel2 hb6 s25
        have hr6 := hr5.bel hb6
        have hrv6 := hrv5.bel hb6
        have hrow6 := hrow5.bel hb6
        have ra6 := ra5.bel hb6
        have rb6 := rb5.bel hb6
        have B6 := hid (B5.out.trans (hb6.mono B5.out.size))
        clear ho6 s15 s25 hr5 hrv5 hrow5 B5 hb6 ra5 rb5 hxo
        go_wp2_with (first
          | ((with_reducible refine wpList_load_rng rfl 24 (.tmp 5) rfl w.heap.size 0 rfl dk _ ?_ hu rfl hi.out ?_); exact s16))
        refine (hGk.out _ hr6 (by omega)).mono ?_
        rintro e w7 ⟨A7, c7, rfl, ho7, hb7⟩
        have s17 := rangeBel2 hb7 s16
        have s27 := rangeBel2 hb7 s26
        have hr7 := hr6.bel hb7
        have hrv7 := hrv6.bel hb7
        have hrow7 := hrow6.bel hb7
        have ra7 := ra6.bel hb7
        have rb7 := rb6.bel hb7
        have rc7 := rc6.bel hb7
        have B7 := hid (B6.out.trans (hb7.mono B6.out.size))
        clear ho7 s16 s26 hr6 hrv6 hrow6 B6 hb7 ra6 rb6 rc6 hGk
        go_wp2_with (first
          | ((with_reducible refine wpList_load_rng rfl 24 (.tmp 5) rfl w.heap.size 0 rfl dk _ ?_ hu rfl hi.out ?_); exact s17))
        refine (hxd.out _ _ hrow7).mono ?_
        rintro e w8 ⟨A8, c8, rfl, ho8, hb8⟩
        have rd8 := ho8.row
        have hc8 := ho8.cap
        have s18 := rangeBel2 hb8 s17
        have s28 := rangeBel2 hb8 s27
        have hr8 := hr7.bel hb8
        have hrv8 := hrv7.bel hb8
        have hrow8 := hrow7.bel hb8
        have ra8 := ra7.bel hb8
        have rb8 := rb7.bel hb8
        have rc8 := rc7.bel hb8
        have B8 := hid (B7.out.trans (hb8.mono B7.out.size))
        clear ho8 s17 s27 hr7 hrv7 hrow7 B7 hb8 ra7 rb7 rc7 hxd
        go_wp2_with fail
        refine (hck.out _ _ hrow8).mono ?_
        rintro e w9 ⟨rfl, hb9⟩
        have s19 := rangeBel2 hb9 s18
        have s29 := rangeBel2 hb9 s28
        have hr9 := hr8.bel hb9
        have hrv9 := hrv8.bel hb9
        have ra9 := ra8.bel hb9
        have rb9 := rb8.bel hb9
        have rc9 := rc8.bel hb9
        have rd9 := rd8.bel hb9
        have B9 := hid (B8.out.trans (hb9.mono B8.out.size))
        clear s18 s28 hr8 hrv8 hrow8 B8 hb9 ra8 rb8 rc8 rd8 hck
        go_wp2_with fail
        refine (Same_is A4 a2 c4 cap2 v v true _ ra9 hrv9 (decide_eq_true rfl)).mono ?_
        rintro e w10 ⟨rfl, rfl⟩
        cases kb
        · have hD := g4.out rfl
          have hSm := RSameP_any _ _ A8 a0 c8 cap0 D.length ps0.length D ps0 w9 rd9 hr9 rfl rfl (by rw [hD]; omega) (by omega)
          rw [decide_eq_true hD] at hSm
          replace hSm := hid hSm
          clear hD g4
          go_wp2_with fail
          refine hSm.out.mono ?_
          rintro e w11 ⟨rfl, hb11⟩
          have s1T := rangeBel2 hb11 s19
          have s2T := rangeBel2 hb11 s29
          have rbT := rb9.bel hb11
          have rcT := rc9.bel hb11
          have BT := hid (B9.out.trans (hb11.mono B9.out.size))
          clear s19 s29 rb9 rc9 B9 hb11 hSm
          cases eb
          · obtain ⟨e1, e2⟩ := g2.out (of_decide_eq_false heb.out)
            subst e1
            have hS2 := fun W h5 h6 => Same_is A5 A6 c5 c6 ll xl true W h5 h6 (decide_eq_true e2.symm)
            replace hS2 := hid hS2
            clear e2
            go_wp2_with (first
              | ((with_reducible refine wpList_load_rng rfl 24 (.tmp 7) rfl (w.heap.size + 1) 0 rfl dp _ ?_ hu rfl hio.out ?_); exact s2T)
              | ((with_reducible refine wpList_load_rng rfl 24 (.tmp 5) rfl w.heap.size 0 rfl dk _ ?_ hu rfl hi.out ?_); exact s1T))
            refine (hS2.out _ rbT rcT).mono ?_
            rintro e w12 ⟨rfl, rfl⟩
            go_wp2
            go_ret
            exact ⟨rfl, BT.out⟩
          · go_wp2_with (first
              | ((with_reducible refine wpList_load_rng rfl 24 (.tmp 7) rfl (w.heap.size + 1) 0 rfl dp _ ?_ hu rfl hio.out ?_); exact s2T)
              | ((with_reducible refine wpList_load_rng rfl 24 (.tmp 5) rfl w.heap.size 0 rfl dk _ ?_ hu rfl hi.out ?_); exact s1T))
            go_ret
            exact ⟨rfl, BT.out⟩
        · have s1T := s19
          have s2T := s29
          have rbT := rb9
          have rcT := rc9
          have BT := B9
          clear s19 s29 rb9 rc9 B9
          cases eb
          · obtain ⟨e1, e2⟩ := g2.out (of_decide_eq_false heb.out)
            subst e1
            have hS2 := fun W h5 h6 => Same_is A5 A6 c5 c6 ll xl true W h5 h6 (decide_eq_true e2.symm)
            replace hS2 := hid hS2
            clear e2
            go_wp2_with (first
              | ((with_reducible refine wpList_load_rng rfl 24 (.tmp 7) rfl (w.heap.size + 1) 0 rfl dp _ ?_ hu rfl hio.out ?_); exact s2T)
              | ((with_reducible refine wpList_load_rng rfl 24 (.tmp 5) rfl w.heap.size 0 rfl dk _ ?_ hu rfl hi.out ?_); exact s1T))
            refine (hS2.out _ rbT rcT).mono ?_
            rintro e w12 ⟨rfl, rfl⟩
            go_wp2
            go_ret
            exact ⟨rfl, BT.out⟩
          · go_wp2_with (first
              | ((with_reducible refine wpList_load_rng rfl 24 (.tmp 7) rfl (w.heap.size + 1) 0 rfl dp _ ?_ hu rfl hio.out ?_); exact s2T)
              | ((with_reducible refine wpList_load_rng rfl 24 (.tmp 5) rfl w.heap.size 0 rfl dk _ ?_ hu rfl hi.out ?_); exact s1T))
            go_ret
            exact ⟨rfl, BT.out⟩
      · have m3 := put_no hpe
        rw [m3]
        clear ho3 m3
        generalize mPutE ps0 k v = z at *
        replace hpe : ¬ (z = 0) := hpe
        go_wp2
        go_ret
        exact ⟨rfl, B3.out⟩
  · go_wp2
    go_ret
    exact ⟨rfl, B1.out⟩

/-! ### THE ROW's STEP: WRITTEN OUT: LEAVE IT -/
set_option maxRecDepth 100000 in
theorem lifted (os : Os) (started : os.Started) (H : Type) (enc : TypeId × Value → H) :
    ReturnsInHanded {} Try.checked os 4 .any (Rows.pairsBackSpec.pre6 enc Try.prog Try.f4 Rows.pairsBackRow.domain false) (Rows.pairsBackSpec.post enc Try.prog Try.f4 false true false false) := by
  refine returnsInHanded_of_change (C := Try.checked) own started (by kernel_rfl) Try.func4
    (ChangeSpec.witness6 (enc := enc) (C := Try.checked) false ⟨#[], #[.slice none 0 0, .agg z32, .slice none 0 0, .agg z32], []⟩ 8 (by kernel_rfl) (by kernel_rfl) (by kernel_rfl) (by kernel_rfl)) ?_
  intro W base args ds gs before hval0 hW hcnd _
  have hval : ∀ (j : Nat) t v, Try.f4.params[j]? = some t → args[j]? = some v → Value.okWide Try.prog W .any base t v := hval0
  have hW' := hW
  obtain ⟨p, q, hA0, hV, rfl, hfz, hnd⟩ := hW
  have hA : DataW.TrodAll enc Try.prog W 0 (fun _ => true) true Try.f4.params.toList args.toList ds p := hA0
  rw [Try.params4] at hA hval
  obtain ⟨v0, vs0, d0, ds0, p0, q0, hargs, rfl, rfl, h0, r0⟩ := trodAll_cons hA
  obtain ⟨v1, vs1, d1, ds1, p1, q1, rfl, rfl, rfl, h1, r1⟩ := trodAll_cons r0
  obtain ⟨v2, vs2, d2, ds2, p2, q2, rfl, rfl, rfl, h2, r2⟩ := trodAll_cons r1
  obtain ⟨v3, vs3, d3, ds3, p3, q3, rfl, rfl, rfl, h3, r3⟩ := trodAll_cons r2
  obtain ⟨rfl, rfl, rfl⟩ := trodAll_nil r3
  obtain rfl : args = #[v0, v1, v2, v3] := by cases args; simp_all
  obtain ⟨rfl, rfl⟩ := trodVars_none hV
  obtain ⟨a0, len0, cap0, rfl⟩ := okWide_slice Try.underlying22 (hval 0 22 v0 rfl rfl)
  have k0 := h0
  have lt0 : ∀ x ∈ p0, x.block < W.heap.size := by obtain ⟨m, hm⟩ := k0; exact DataW.trod_lt m _ _ _ hm
  obtain ⟨ps0, w0⟩ : ∃ ps : List Pr, len0 = ps.length ∧ Row (fun b => b < W.heap.size) W a0 ps ∧ ps.length ≤ cap0 ∧ cap0 ≤ maxLen := by
    obtain ⟨fuel, hf⟩ := h0
    exact open_list opensPrs hf
  have k1 := h1
  have lt1 : ∀ x ∈ p1, x.block < W.heap.size := by obtain ⟨m, hm⟩ := k1; exact DataW.trod_lt m _ _ _ hm
  obtain ⟨l1, w1, rfl⟩ := open_dig Try.underlying24 Try.underlying5 cellsByte cellsDig (hval 1 24 v1 rfl rfl) h1
  obtain ⟨a2, len2, cap2, rfl⟩ := okWide_slice Try.underlying25 (hval 2 25 v2 rfl rfl)
  have k2 := h2
  have lt2 : ∀ x ∈ p2, x.block < W.heap.size := by obtain ⟨m, hm⟩ := k2; exact DataW.trod_lt m _ _ _ hm
  obtain ⟨z2, w2⟩ : ∃ zs, IsRow .u8 W a2 len2 cap2 zs := by
    obtain ⟨fuel, hf⟩ := h2
    rcases open_ints Try.underlying25 Try.underlying5 (by kernel_rfl) hf with ⟨hcs, _⟩ | ⟨x, l, c, zs, hcs, _, hl, hm, hz, _, hcell, hwz⟩
    · simp [Value.cells] at hcs
      obtain ⟨rfl, rfl, rfl⟩ := hcs
      exact ⟨[], .inl ⟨rfl, rfl, rfl, rfl⟩⟩
    · simp [Value.cells] at hcs
      obtain ⟨rfl, rfl, rfl⟩ := hcs
      exact ⟨zs, .inr ⟨_, rfl, hl, hm, by simpa using hz, hcell, hwz⟩⟩
  have k3 := h3
  have lt3 : ∀ x ∈ p3, x.block < W.heap.size := by obtain ⟨m, hm⟩ := k3; exact DataW.trod_lt m _ _ _ hm
  obtain ⟨l3, w3, rfl⟩ := open_dig Try.underlying24 Try.underlying5 cellsByte cellsDig (hval 3 24 v3 rfl rfl) h3
  clear hA0 hval0
  refine (walk a0 len0 cap0 ps0 l1 a2 len2 cap2 z2 l3 W w0 w1 w2 w3).mono fun e W' ⟨he, bel⟩ => ?_
  subst he
  exact ⟨_, rfl, _, _, _, [], _, [], hW', trodAll_mk1 (shut_bool Try.underlying4 _), (trodAll_cons_mk (Below.trod laidOut (by kernel_rfl) (of_decide_eq_true (by kernel_rfl)) k0 bel lt0) (trodAll_cons_mk (Below.trod laidOut (by kernel_rfl) (of_decide_eq_true (by kernel_rfl)) k1 bel lt1) (trodAll_cons_mk (Below.trod laidOut (by kernel_rfl) (of_decide_eq_true (by kernel_rfl)) k2 bel lt2) (trodAll_cons_mk (Below.trod laidOut (by kernel_rfl) (of_decide_eq_true (by kernel_rfl)) k3 bel lt3) trodAll_mk0)))), rfl, bel.frame _, fun h => by cases h⟩

theorem over : Rows.pairsBackRow.holds Try.pinned (OpenSpec.ofChange Rows.pairsBackSpec) :=
  OpenClaim.holds_of_wide 4 Try.f4 rfl rfl rfl rfl rfl rfl rfl ⟨rfl, rfl, rfl, rfl, rfl⟩ rfl rfl rfl rfl rfl (by kernel_rfl) Try.func4 (by kernel_rfl)
    (of_decide_eq_true (by kernel_rfl)) (by unfold Func.isWrapper; first | (rw [if_pos (by decide +kernel)]; kernel_rfl) | (rw [if_neg (by decide +kernel)]; exact ⟨rfl, rfl⟩))
    (fun os started H enc _ => lifted os started H enc)

/-- ████ THE STATEMENT ████ -/
theorem proved : Rows.PairsBackSaid := over
#print axioms proved
end Go.Proofs.Ytiogdenlaelkbaa.pairsBack
