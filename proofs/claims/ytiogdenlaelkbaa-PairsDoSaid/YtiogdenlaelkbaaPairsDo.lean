/-
  The Go function PairsDo returns true: whether pairs are a map, a key's value, a map with one, without one, and whether two are the same, or the errors, are the document's: any two, a key and a value; its arguments read afterwards as before.
  Conditions: none. The frame around the walk was written by program (proof-skeleton.mjs).
-/
import Derived.Test.YtiogdenlaelkbaaRows
import Derived.WalkKit
import Derived.ProofKit
import Derived.OpenShut
import Derived.ShutString
import Derived.ChangeOld
import Derived.Below
import Derived.Test.YtiogdenlaelkbaaPairArg
import Derived.Test.YtiogdenlaelkbaaPairsG
import Derived.Test.YtiogdenlaelkbaaPairsQ
import Derived.Test.YtiogdenlaelkbaaPairsC
import Derived.Test.YtiogdenlaelkbaaPairsB
import Derived.Test.YtiogdenlaelkbaaRef05g
import Derived.Test.YtiogdenlaelkbaaRef05e
import Derived.Test.YtiogdenlaelkbaaSpoil05
namespace Go.Proofs.Ytiogdenlaelkbaa.pairsDo
open Go.ChangeShapes Go.WideShapes Go.ChangeAt Go.RowKit
open Go.ChangeMaps (open_string shut_string)
set_option linter.unusedVariables false

theorem own : ownKnob Try.prog.godebug = none := by kernel_rfl
theorem laidOut : laidOutB Try.prog = true := by kernel_rfl

/-- WHAT THE WALK IS TOLD OF A SLICE OF INTEGERS THAT CAME IN: it is nil; or it leads to a row of 'cap' cells, the numbers 'zs' (the first 'len' are its elements, the rest its spare room), each fitting its kind. -/
def IsRow (k : IntKind) (w : World) (a : Option Addr) (len cap : Nat) (zs : List Int) : Prop :=
  (a = none ∧ len = 0 ∧ cap = 0 ∧ zs = []) ∨
  ∃ x, a = some x ∧ len ≤ cap ∧ cap ≤ maxLen ∧ zs.length = cap ∧ (∀ i, i < zs.length → w.cell? (x.add i) = some (.int k (zs.getD i 0))) ∧ ∀ n ∈ zs, (Lit.int k n).wf = true

/-! ### the walk -/
open Go.Proofs.Ytiogdenlaelkbaa
theorem RSame_self (F G : Nat → Prop) (A D : Option Addr) (c d : Nat) (ps : List Pr) (w : World) (hr : Row F w A ps) (hs : Row G w D ps) (hc : ps.length ≤ 9223372036854775807) :
    Calls Try.prog 14 #[.slice A ps.length c, .slice D ps.length d] w fun e w' => e = .returned (.bool true) ∧ Below w.heap.size w w' := by
  have h := RSameP_any F G A D c d ps.length ps.length ps ps w hr hs rfl rfl hc hc
  rw [decide_eq_true rfl] at h
  exact h
theorem PSame_self (F G : Nat → Prop) (A D : Option Addr) (c d : Nat) (ps : List Pr) (w : World) (hr : Row F w A ps) (hs : Row G w D ps) (hc : ps.length ≤ 9223372036854775807) :
    Calls Try.prog 17 #[.slice A ps.length c, .slice D ps.length d] w fun e w' => e = .returned (.bool true) ∧ Below w.heap.size w w' := by
  have h := PSameP_any F G A D c d ps.length ps.length ps ps w hr hs rfl rfl hc hc
  rw [decide_eq_true rfl] at h
  exact h
set_option maxRecDepth 100000 in
set_option maxHeartbeats 6000000 in
theorem walk (a0 : Option Addr) (len0 cap0 : Nat) (ps0 : List Pr) (a1 : Option Addr) (len1 cap1 : Nat) (ps1 : List Pr) (l2 : List UInt8) (a3 : Option Addr) (len3 cap3 : Nat) (z3 : List Int) (w : World) (w0 : len0 = ps0.length ∧ Row (fun b => b < w.heap.size) w a0 ps0 ∧ ps0.length ≤ cap0 ∧ cap0 ≤ maxLen) (w1 : len1 = ps1.length ∧ Row (fun b => b < w.heap.size) w a1 ps1 ∧ ps1.length ≤ cap1 ∧ cap1 ≤ maxLen) (w2 : l2.length = 32) (w3 : IsRow .u8 w a3 len3 cap3 z3) :
    Calls Try.prog 3 #[.slice a0 len0 cap0, .slice a1 len1 cap1, .agg (l2.map bv).toArray, .slice a3 len3 cap3] w fun e w' => e = .returned (.bool true) ∧ Below w.heap.size w w' := by
  obtain ⟨rfl, hl, hcap, hcm⟩ := w0
  obtain ⟨rfl, ho, hcap1, hcm1⟩ := w1
  obtain ⟨v, rfl, hv, hvd, hdm⟩ := rd_of_row w3
  obtain ⟨k, rfl⟩ : ∃ k : Dg, l2 = k.1 := ⟨⟨l2, w2⟩, rfl⟩
  have hcm2 : cap0 ≤ 9223372036854775807 := by unfold maxLen at hcm; omega
  have hcm3 : cap1 ≤ 9223372036854775807 := by unfold maxLen at hcm1; omega
  have hvl : v.length ≤ 9223372036854775807 := by unfold maxLen at hdm; omega
  have hu := Try.underlying24
  have hi := hid (sizeDg k)
  have s := rangeOf (heap_alloc_new w (.cells (k.1.map bv).toArray 24))
  have B0 := ext_alloc w (.cells (k.1.map bv).toArray 24)
  have hkl0 := k.2
  obtain ⟨g30, hg30⟩ : ∃ gb, greatP ps0 30 = gb := ⟨_, rfl⟩
  obtain ⟨g520, hg520⟩ : ∃ gb, greatP ps0 520 = gb := ⟨_, rfl⟩
  obtain ⟨h30, hh30⟩ : ∃ gb, greatP ps1 30 = gb := ⟨_, rfl⟩
  have hG0 := fun W hW => RGreat_any (fun b => b < w.heap.size) a0 cap0 ps0.length 30 ps0 W hW rfl (by omega)
  have hG2 := fun W hW => RGreat_any (fun b => b < w.heap.size) a0 cap0 ps0.length 520 ps0 W hW rfl (by omega)
  have hG1 := fun W hW => RGreat_any (fun b => b < w.heap.size) a1 cap1 ps1.length 30 ps1 W hW rfl (by omega)
  rw [hg30] at hG0
  rw [hg520] at hG2
  rw [hh30] at hG1
  have hTw := fun W hW hm hb => RTwinP_any (fun b => b < w.heap.size) a0 cap0 ps0.length ps0 W hW rfl hm hb
  have hPG := fun F A c W hW hm => PGet_any F A c ps0.length ps0 k W hW rfl hm
  have hRG := fun W hW => RGet_any (fun b => b < w.heap.size) a0 cap0 ps0.length ps0 k W hW rfl (by omega)
  have hPP := fun F A c W hW hV h1 h2 hm => PPut_any F A a3 c ps0.length v.length cap3 ps0 k v W hW rfl hV rfl hvd hdm hm h1 h2
  have hRP := fun W hW hV h1 h2 hm => RPut_any (fun b => b < w.heap.size) a0 a3 cap0 ps0.length v.length cap3 ps0 k v W hW rfl hV rfl hm h1 h2
  have hPD := fun F A c W hW h1 h2 hm => PDrop_any F A c ps0.length ps0 k W hW rfl hm h1 h2
  have hRD := fun W hW h1 hm => RDrop_any (fun b => b < w.heap.size) a0 cap0 ps0.length ps0 k W hW rfl hm h1
  have hPC := fun F A c W hW => PCheck_any F A c ps0.length ps0 W hW rfl (by omega)
  have hRC := fun W hW => RCheck_any (fun b => b < w.heap.size) a0 cap0 ps0.length ps0 W hW rfl (by omega)
  have hPS := fun F A c W hW hO => PSameP_any F (fun b => b < w.heap.size) A a1 c cap1 ps0.length ps1.length ps0 ps1 W hW hO rfl rfl (by omega) (by omega)
  have hRS := fun W hW hO => RSameP_any (fun b => b < w.heap.size) (fun b => b < w.heap.size) a0 a1 cap0 cap1 ps0.length ps1.length ps0 ps1 W hW hO rfl rfl (by omega) (by omega)
  have hl1 := hl.bel B0
  have ho1 := ho.bel B0
  have hv1 := hv.bel B0
  have q1 := hid B0.size
  have B := hid B0
  clear w2 w3 hl ho hv B0
  have hl := hl1
  have ho := ho1
  have hv := hv1
  clear hl1 ho1 hv1
  generalize decide (ps0 = ps1) = sb at *
  generalize (if mayP ps0 = true then (0 : Int) else 8) = ce at *
  generalize mGetB ps0 k = kb at *
  generalize mGetL ps0 k = kl at *
  generalize mPutE ps0 k v = pe at *
  generalize mPutL ps0 k v = pl at *
  generalize mDropE ps0 k = de at *
  generalize mDropL ps0 k = dl at *
  replace hg30 := hid hg30
  replace hg520 := hid hg520
  replace hh30 := hid hh30
  replace hG0 := hid hG0
  replace hG1 := hid hG1
  replace hG2 := hid hG2
  replace hTw := hid hTw
  replace hPG := hid hPG
  replace hRG := hid hRG
  replace hPP := hid hPP
  replace hRP := hid hRP
  replace hPD := hid hPD
  replace hRD := hid hRD
  replace hPC := hid hPC
  replace hRC := hid hRC
  replace hPS := hid hPS
  replace hRS := hid hRS
  generalize hdk : k.1.map bv = dk at *
  replace hdk := hid hdk
  go_enter Try.func3, Try.ntmps3
  go_wp2_with fail
  generalize (w.alloc (.cells dk.toArray 24)) = w1 at *
  refine (hG0.out _ hl).mono ?_
  rintro e w2 ⟨rfl, rfl⟩
  cases g30
  case' true =>
    by_cases h511 : ps0.length < 511
    case' pos =>
      go_wp2
      go_ret
      exact ⟨rfl, B.out⟩
    go_wp2_with fail
    refine (hG2.out _ hl).mono ?_
    rintro e w2 ⟨rfl, rfl⟩
    cases g520
    case' true =>
      go_wp2
      go_ret
      exact ⟨rfl, B.out⟩
    have hbig := hid (great_no30 hg520.out)
  case' false =>
    have hbig := hid (show ps0.length ≤ 520 ∧ ∀ p ∈ ps0, p.v.length ≤ 100 from ⟨Nat.le_trans (great_no30 hg30.out).1 (by omega), (great_no30 hg30.out).2⟩)
  all_goals
    clear hG0 hG2 hg30 hg520 hh30
    have hm : ps0.length ≤ 1000000 := Nat.le_trans hbig.out.1 (by omega)
    go_wp2_with fail
    refine (hG1.out _ ho).mono ?_
    rintro e w2 ⟨rfl, rfl⟩
    cases h30
    case' true =>
      go_wp2
      go_ret
      exact ⟨rfl, B.out⟩
    by_cases hv100 : 100 < v.length
    case' pos =>
      go_wp2
      go_ret
      exact ⟨rfl, B.out⟩
    clear hG1
    go_wp2_with fail
    refine (hTw.out _ hl hm (fun p hp => Nat.le_trans (hbig.out.2 p hp) (by omega))).mono ?_
    rintro e w3 ⟨A3, c3, rfl, hn, hb⟩
    have hc3 := OwnQ.cap hn
    have hc3m : c3 ≤ 9223372036854775807 := by have := hc3.2; unfold maxLen at this; omega
    have q3 := hid hb.size
    replace s := rangeBel2 hb s
    replace hl := hl.bel hb
    replace ho := ho.bel hb
    replace hv := hv.bel hb
    replace B := hid (B.out.trans (hb.mono B.out.size))
    have h3 := hn.held
    clear hn
    clear hb
    go_wp2_with (first
      | ((with_reducible refine wpList_load_rng rfl 24 (.tmp 6) rfl w.heap.size 0 rfl dk _ ?_ hu rfl hi.out ?_); exact s))
    refine (hPG.out _ A3 c3 _ h3.row hm).mono ?_
    rintro e w4 ⟨A4, c4, rfl, hn, hb⟩
    have hkl : kl.length ≤ 9223372036854775807 := by have := hn.cap; unfold maxLen at this; omega
    have q4 := hid hb.size
    replace s := rangeBel2 hb s
    replace hl := hl.bel hb
    replace ho := ho.bel hb
    replace hv := hv.bel hb
    replace h3 := h3.bel hb
    replace B := hid (B.out.trans (hb.mono B.out.size))
    have h4 := hn.held
    clear hn hPG
    clear hb
    go_wp2_with (first
      | ((with_reducible refine wpList_load_rng rfl 24 (.tmp 6) rfl w.heap.size 0 rfl dk _ ?_ hu rfl hi.out ?_); exact s))
    refine (hRG.out _ hl).mono ?_
    rintro e w5 ⟨A5, c5, rfl, hn, hb⟩
    have q5 := hid hb.size
    replace s := rangeBel2 hb s
    replace hl := hl.bel hb
    replace ho := ho.bel hb
    replace hv := hv.bel hb
    replace h3 := h3.bel hb
    replace h4 := h4.bel hb
    replace B := hid (B.out.trans (hb.mono B.out.size))
    have r5 := hn.rd
    clear hn hRG
    clear hb
    go_wp2_with (first
      | ((with_reducible refine wpList_load_rng rfl 24 (.tmp 6) rfl w.heap.size 0 rfl dk _ ?_ hu rfl hi.out ?_); exact s))
    refine (hPP.out _ A3 c3 _ h3.row hv hc3.1 hc3m hm).mono ?_
    rintro e w6 ⟨A6, c6, rfl, hn, hb⟩
    have hpl : pl.length ≤ 9223372036854775807 := by have := OwnQ.cap hn; unfold maxLen at this; omega
    have q6 := hid hb.size
    replace s := rangeBel2 hb s
    replace hl := hl.bel hb
    replace ho := ho.bel hb
    replace hv := hv.bel hb
    replace h3 := h3.bel hb
    replace h4 := h4.bel hb
    replace r5 := r5.bel hb
    replace B := hid (B.out.trans (hb.mono B.out.size))
    have h6 := hn.held
    clear hn hPP
    clear hb
    go_wp2_with (first
      | ((with_reducible refine wpList_load_rng rfl 24 (.tmp 6) rfl w.heap.size 0 rfl dk _ ?_ hu rfl hi.out ?_); exact s))
    refine (hRP.out _ hl hv (fun p hp => Nat.le_trans (hbig.out.2 p hp) (by omega)) (by omega) hm).mono ?_
    rintro e w7 ⟨A7, c7, rfl, hn, hb⟩
    have q7 := hid hb.size
    replace s := rangeBel2 hb s
    replace hl := hl.bel hb
    replace ho := ho.bel hb
    replace hv := hv.bel hb
    replace h3 := h3.bel hb
    replace h4 := h4.bel hb
    replace r5 := r5.bel hb
    replace h6 := h6.bel hb
    replace B := hid (B.out.trans (hb.mono B.out.size))
    have r7 := hn.row
    clear hn hRP hv
    clear hb
    go_wp2_with (first
      | ((with_reducible refine wpList_load_rng rfl 24 (.tmp 6) rfl w.heap.size 0 rfl dk _ ?_ hu rfl hi.out ?_); exact s))
    refine (hPD.out _ A3 c3 _ h3.row hc3.1 hc3m hm).mono ?_
    rintro e w8 ⟨A8, c8, rfl, hn, hb⟩
    have hdl : dl.length ≤ 9223372036854775807 := by have := OwnQ.cap hn; unfold maxLen at this; omega
    have q8 := hid hb.size
    replace s := rangeBel2 hb s
    replace hl := hl.bel hb
    replace ho := ho.bel hb
    replace h3 := h3.bel hb
    replace h4 := h4.bel hb
    replace r5 := r5.bel hb
    replace h6 := h6.bel hb
    replace r7 := r7.bel hb
    replace B := hid (B.out.trans (hb.mono B.out.size))
    have h8 := hn.held
    clear hn hPD
    clear hb
    go_wp2_with (first
      | ((with_reducible refine wpList_load_rng rfl 24 (.tmp 6) rfl w.heap.size 0 rfl dk _ ?_ hu rfl hi.out ?_); exact s))
    refine (hRD.out _ hl (fun p hp => Nat.le_trans (hbig.out.2 p hp) (by omega)) hm).mono ?_
    rintro e w9 ⟨A9, c9, rfl, hn, hb⟩
    have q9 := hid hb.size
    replace s := rangeBel2 hb s
    replace hl := hl.bel hb
    replace ho := ho.bel hb
    replace h3 := h3.bel hb
    replace h4 := h4.bel hb
    replace r5 := r5.bel hb
    replace h6 := h6.bel hb
    replace r7 := r7.bel hb
    replace h8 := h8.bel hb
    replace B := hid (B.out.trans (hb.mono B.out.size))
    have r9 := hn.row
    clear hn hRD s hi hdk
    clear hb
    go_wp2_with fail
    refine (Same_is A4 A5 c4 c5 kl kl true _ h4.row.rd r5 (decide_eq_true rfl)).mono ?_
    rintro e w10 ⟨rfl, rfl⟩
    clear r5
    go_wp2_with fail
    refine (RSame_self _ _ A6 A7 c6 c7 pl _ h6.row r7 hpl).mono ?_
    rintro e w10 ⟨rfl, hb⟩
    have q10 := hid hb.size
    replace hl := hl.bel hb
    replace ho := ho.bel hb
    replace h3 := h3.bel hb
    replace h4 := h4.bel hb
    replace h6 := h6.bel hb
    replace r7 := r7.bel hb
    replace h8 := h8.bel hb
    replace r9 := r9.bel hb
    replace B := hid (B.out.trans (hb.mono B.out.size))
    clear r7 hb
    go_wp2_with fail
    refine (RSame_self _ _ A8 A9 c8 c9 dl _ h8.row r9 hdl).mono ?_
    rintro e w11 ⟨rfl, hb⟩
    have q11 := hid hb.size
    replace hl := hl.bel hb
    replace ho := ho.bel hb
    replace h3 := h3.bel hb
    replace h4 := h4.bel hb
    replace h6 := h6.bel hb
    replace h8 := h8.bel hb
    replace r9 := r9.bel hb
    replace B := hid (B.out.trans (hb.mono B.out.size))
    clear r9 hb
    go_wp2_with fail
    refine (hPC.out _ A3 c3 _ h3.row).mono ?_
    rintro e w12 ⟨rfl, hb⟩
    have q12 := hid hb.size
    replace hl := hl.bel hb
    replace ho := ho.bel hb
    replace h3 := h3.bel hb
    replace h4 := h4.bel hb
    replace h6 := h6.bel hb
    replace h8 := h8.bel hb
    replace B := hid (B.out.trans (hb.mono B.out.size))
    clear hb
    go_wp2_with fail
    refine (hRC.out _ hl).mono ?_
    rintro e w13 ⟨rfl, hb⟩
    have q13 := hid hb.size
    replace hl := hl.bel hb
    replace ho := ho.bel hb
    replace h3 := h3.bel hb
    replace h4 := h4.bel hb
    replace h6 := h6.bel hb
    replace h8 := h8.bel hb
    replace B := hid (B.out.trans (hb.mono B.out.size))
    clear hPC hRC
    clear hb
    go_wp2_with fail
    refine (hPS.out _ A3 c3 _ h3.row ho).mono ?_
    rintro e w14 ⟨rfl, hb⟩
    have q14 := hid hb.size
    replace hl := hl.bel hb
    replace ho := ho.bel hb
    replace h3 := h3.bel hb
    replace h4 := h4.bel hb
    replace h6 := h6.bel hb
    replace h8 := h8.bel hb
    replace B := hid (B.out.trans (hb.mono B.out.size))
    clear hb
    go_wp2_with fail
    refine (hRS.out _ hl ho).mono ?_
    rintro e w15 ⟨rfl, hb⟩
    have q15 := hid hb.size
    replace hl := hl.bel hb
    replace ho := ho.bel hb
    replace h3 := h3.bel hb
    replace h4 := h4.bel hb
    replace h6 := h6.bel hb
    replace h8 := h8.bel hb
    replace B := hid (B.out.trans (hb.mono B.out.size))
    clear ho hPS hRS
    clear hb
    go_wp2_with fail
    refine (PSame_self _ _ A3 a0 c3 cap0 ps0 _ h3.row hl (by omega)).mono ?_
    rintro e w16 ⟨rfl, hb⟩
    have q16 := hid hb.size
    replace hl := hl.bel hb
    replace h3 := h3.bel hb
    replace h4 := h4.bel hb
    replace h6 := h6.bel hb
    replace h8 := h8.bel hb
    replace B := hid (B.out.trans (hb.mono B.out.size))
    clear hb
    go_wp2_with fail
    refine (PTwinP_any _ A3 c3 ps0.length ps0 _ h3.row rfl hm (fun p hp => Nat.le_trans (hbig.out.2 p hp) (by omega))).mono ?_
    rintro e w17 ⟨A17, c17, rfl, hn, hb⟩
    have q17 := hid hb.size
    replace hl := hl.bel hb
    replace h3 := h3.bel hb
    replace h4 := h4.bel hb
    replace h6 := h6.bel hb
    replace h8 := h8.bel hb
    replace B := hid (B.out.trans (hb.mono B.out.size))
    have h17 := hn.held
    clear hn
    clear hb
    go_wp2_with fail
    refine (RSame_self _ _ A17 a0 c17 cap0 ps0 _ h17.row hl (by omega)).mono ?_
    rintro e w18 ⟨rfl, hb⟩
    have q18 := hid hb.size
    replace hl := hl.bel hb
    replace h3 := h3.bel hb
    replace h4 := h4.bel hb
    replace h6 := h6.bel hb
    replace h8 := h8.bel hb
    replace h17 := h17.bel hb
    replace B := hid (B.out.trans (hb.mono B.out.size))
    clear hb
    have Q := hid (show w.heap.size ≤ w1.heap.size ∧ w1.heap.size ≤ w3.heap.size ∧ w3.heap.size ≤ w4.heap.size ∧ w4.heap.size ≤ w5.heap.size ∧ w5.heap.size ≤ w6.heap.size ∧ w6.heap.size ≤ w7.heap.size ∧ w7.heap.size ≤ w8.heap.size ∧ w8.heap.size ≤ w16.heap.size by have := q1.out; have := q3.out; have := q4.out; have := q5.out; have := q6.out; have := q7.out; have := q8.out; have := q9.out; have := q10.out; have := q11.out; have := q12.out; have := q13.out; have := q14.out; have := q15.out; have := q16.out; omega)
    clear q1 q3 q4 q5 q6 q7 q8 q9 q10 q11 q12 q13 q14 q15 q16 q17 q18
    go_wp2_with fail
    refine (spoil5_held _ _ A17 c17 ps0.length ps0 _ h17 rfl (by omega)).mono ?_
    rintro e w20 ⟨rfl, hg⟩
    replace B := hid (B.out.trans (hg.below B.out.size (fun b hb he => by have := Q.out; omega)))
    replace hl := hl.chgLow hg (by have := Q.out; omega)
    replace h3 := h3.chg hg (by have := Q.out; omega)
    replace h4 := h4.chg hg (by have := Q.out; omega)
    replace h6 := h6.chg hg (by have := Q.out; omega)
    replace h8 := h8.chg hg (by have := Q.out; omega)
    clear hg h17
    go_wp2_with fail
    refine (spoil5_held _ _ A6 c6 pl.length pl _ h6 rfl hpl).mono ?_
    rintro e w21 ⟨rfl, hg⟩
    replace B := hid (B.out.trans (hg.below B.out.size (fun b hb he => by have := Q.out; omega)))
    replace hl := hl.chgLow hg (by have := Q.out; omega)
    replace h3 := h3.chg hg (by have := Q.out; omega)
    replace h4 := h4.chg hg (by have := Q.out; omega)
    replace h8 := h8.chg hg (by have := Q.out; omega)
    clear hg h6
    go_wp2_with fail
    refine (spoil5_held _ _ A8 c8 dl.length dl _ h8 rfl hdl).mono ?_
    rintro e w22 ⟨rfl, hg⟩
    replace B := hid (B.out.trans (hg.below B.out.size (fun b hb he => by have := Q.out; omega)))
    replace hl := hl.chgLow hg (by have := Q.out; omega)
    replace h3 := h3.chg hg (by have := Q.out; omega)
    replace h4 := h4.chg hg (by have := Q.out; omega)
    clear hg h8
    obtain ⟨Fa, ha1, ha2⟩ := h4
    replace ha1 := hid ha1
    replace ha2 := hid ha2
    go_wp2
    go_loopw [25] (fun i wr => ∃ j : Nat, j ≤ kl.length ∧ i = .int .i64 j ∧ Mut Fa w22 wr) (fun i _ => kl.length - (intOf i).toNat)
    case atStart => exact ⟨0, Nat.zero_le _, rfl, Mut.refl _ _⟩
    case round =>
      obtain ⟨j, hj, rfl, hmt⟩ := hrel
      by_cases hlt2 : j < kl.length
      · obtain ⟨b2, o2, rfl, hFb2, -, hcs2⟩ := ha1.out (by omega)
        have hsb2 := (ha2.out b2 hFb2).2.2
        obtain ⟨n, hn⟩ : ∃ n : Int, wr.cell? ⟨b2, o2 + j, none⟩ = some (.int .u8 n) := by
          obtain ⟨vs, rfl, h5⟩ := hcs2 j _ (List.getElem?_eq_getElem hlt2)
          have h6 := h5 0 (bv kl[j]) rfl
          rw [Nat.add_zero, show Enc.size UInt8 = 1 from rfl, Nat.mul_one] at h6
          exact hmt.byte hsb2 h6
        have hf := (hsb2.mut hmt).free (o2 + j)
        clear hcs2
        have Hn := hid hn
        have Hm := hid hmt
        have HF2 := hid hFb2
        have HS2 := hid hsb2
        replace hl := hid hl
        replace h3 := hid h3
        clear hmt hFb2 hsb2
        go_wp2
        go_roundw
        case rel => exact ⟨j + 1, by omega, by go_num, Hm.out.store HF2.out HS2.out Hn.out _⟩
        case measure => simp [intOf]; omega
      · obtain rfl : j = kl.length := by omega
        have hg : Chg (fun b => w3.heap.size ≤ b ∧ b < w4.heap.size) w22 wr := hmt.chg.mono fun b _ hb => ⟨(ha2.out b hb).1, (ha2.out b hb).2.1⟩
        replace B := hid (B.out.trans (hg.below B.out.size (fun b hb he => by have := Q.out; omega)))
        replace hl := hl.chgLow hg (by have := Q.out; omega)
        replace h3 := h3.chg hg (by have := Q.out; omega)
        clear hg hmt ha1 ha2
        go_wp2_with fail
        refine (RSame_self _ _ A3 a0 c3 cap0 ps0 _ h3.row hl (by omega)).mono ?_
        rintro e w30 ⟨rfl, hb⟩
        replace B := hid (B.out.trans (hb.mono B.out.size))
        go_wp2
        go_ret
        exact ⟨rfl, B.out⟩

/-! ### THE ROW's STEP: WRITTEN OUT: LEAVE IT -/
set_option maxRecDepth 100000 in
theorem lifted (os : Os) (started : os.Started) (H : Type) (enc : TypeId × Value → H) :
    ReturnsInHanded {} Try.checked os 3 .any (Rows.pairsDoSpec.pre6 enc Try.prog Try.f3 Rows.pairsDoRow.domain false) (Rows.pairsDoSpec.post enc Try.prog Try.f3 false true false false) := by
  refine returnsInHanded_of_change (C := Try.checked) own started (by kernel_rfl) Try.func3
    (ChangeSpec.witness6 (enc := enc) (C := Try.checked) false ⟨#[], #[.slice none 0 0, .slice none 0 0, .agg z32, .slice none 0 0], []⟩ 8 (by kernel_rfl) (by kernel_rfl) (by kernel_rfl) (by kernel_rfl)) ?_
  intro W base args ds gs before hval0 hW hcnd _
  have hval : ∀ (j : Nat) t v, Try.f3.params[j]? = some t → args[j]? = some v → Value.okWide Try.prog W .any base t v := hval0
  have hW' := hW
  obtain ⟨p, q, hA0, hV, rfl, hfz, hnd⟩ := hW
  have hA : DataW.TrodAll enc Try.prog W 0 (fun _ => true) true Try.f3.params.toList args.toList ds p := hA0
  rw [Try.params3] at hA hval
  obtain ⟨v0, vs0, d0, ds0, p0, q0, hargs, rfl, rfl, h0, r0⟩ := trodAll_cons hA
  obtain ⟨v1, vs1, d1, ds1, p1, q1, rfl, rfl, rfl, h1, r1⟩ := trodAll_cons r0
  obtain ⟨v2, vs2, d2, ds2, p2, q2, rfl, rfl, rfl, h2, r2⟩ := trodAll_cons r1
  obtain ⟨v3, vs3, d3, ds3, p3, q3, rfl, rfl, rfl, h3, r3⟩ := trodAll_cons r2
  obtain ⟨rfl, rfl, rfl⟩ := trodAll_nil r3
  obtain rfl : args = #[v0, v1, v2, v3] := by cases args; simp_all
  obtain ⟨rfl, rfl⟩ := trodVars_none hV
  obtain ⟨a0, len0, cap0, rfl⟩ := okWide_slice Try.underlying22 (hval 0 22 v0 rfl rfl)
  have k0 := h0
  have lt0 : ∀ x ∈ p0, x.block < W.heap.size := by obtain ⟨m, hm⟩ := k0; exact DataW.trod_lt m _ _ _ hm
  obtain ⟨ps0, w0⟩ : ∃ ps : List Pr, len0 = ps.length ∧ Row (fun b => b < W.heap.size) W a0 ps ∧ ps.length ≤ cap0 ∧ cap0 ≤ maxLen := by
    obtain ⟨fuel, hf⟩ := h0
    exact open_list opensPrs hf
  obtain ⟨a1, len1, cap1, rfl⟩ := okWide_slice Try.underlying22 (hval 1 22 v1 rfl rfl)
  have k1 := h1
  have lt1 : ∀ x ∈ p1, x.block < W.heap.size := by obtain ⟨m, hm⟩ := k1; exact DataW.trod_lt m _ _ _ hm
  obtain ⟨ps1, w1⟩ : ∃ ps : List Pr, len1 = ps.length ∧ Row (fun b => b < W.heap.size) W a1 ps ∧ ps.length ≤ cap1 ∧ cap1 ≤ maxLen := by
    obtain ⟨fuel, hf⟩ := h1
    exact open_list opensPrs hf
  have k2 := h2
  have lt2 : ∀ x ∈ p2, x.block < W.heap.size := by obtain ⟨m, hm⟩ := k2; exact DataW.trod_lt m _ _ _ hm
  obtain ⟨l2, w2, rfl⟩ := open_dig Try.underlying24 Try.underlying5 cellsByte cellsDig (hval 2 24 v2 rfl rfl) h2
  obtain ⟨a3, len3, cap3, rfl⟩ := okWide_slice Try.underlying25 (hval 3 25 v3 rfl rfl)
  have k3 := h3
  have lt3 : ∀ x ∈ p3, x.block < W.heap.size := by obtain ⟨m, hm⟩ := k3; exact DataW.trod_lt m _ _ _ hm
  obtain ⟨z3, w3⟩ : ∃ zs, IsRow .u8 W a3 len3 cap3 zs := by
    obtain ⟨fuel, hf⟩ := h3
    rcases open_ints Try.underlying25 Try.underlying5 (by kernel_rfl) hf with ⟨hcs, _⟩ | ⟨x, l, c, zs, hcs, _, hl, hm, hz, _, hcell, hwz⟩
    · simp [Value.cells] at hcs
      obtain ⟨rfl, rfl, rfl⟩ := hcs
      exact ⟨[], .inl ⟨rfl, rfl, rfl, rfl⟩⟩
    · simp [Value.cells] at hcs
      obtain ⟨rfl, rfl, rfl⟩ := hcs
      exact ⟨zs, .inr ⟨_, rfl, hl, hm, by simpa using hz, hcell, hwz⟩⟩
  clear hA0 hval0
  refine (walk a0 len0 cap0 ps0 a1 len1 cap1 ps1 l2 a3 len3 cap3 z3 W w0 w1 w2 w3).mono fun e W' ⟨he, bel⟩ => ?_
  subst he
  exact ⟨_, rfl, _, _, _, [], _, [], hW', trodAll_mk1 (shut_bool Try.underlying4 _), (trodAll_cons_mk (Below.trod laidOut (by kernel_rfl) (of_decide_eq_true (by kernel_rfl)) k0 bel lt0) (trodAll_cons_mk (Below.trod laidOut (by kernel_rfl) (of_decide_eq_true (by kernel_rfl)) k1 bel lt1) (trodAll_cons_mk (Below.trod laidOut (by kernel_rfl) (of_decide_eq_true (by kernel_rfl)) k2 bel lt2) (trodAll_cons_mk (Below.trod laidOut (by kernel_rfl) (of_decide_eq_true (by kernel_rfl)) k3 bel lt3) trodAll_mk0)))), rfl, bel.frame _, fun h => by cases h⟩

theorem over : Rows.pairsDoRow.holds Try.pinned (OpenSpec.ofChange Rows.pairsDoSpec) :=
  OpenClaim.holds_of_wide 3 Try.f3 rfl rfl rfl rfl rfl rfl rfl ⟨rfl, rfl, rfl, rfl, rfl⟩ rfl rfl rfl rfl rfl (by kernel_rfl) Try.func3 (by kernel_rfl)
    (of_decide_eq_true (by kernel_rfl)) (by unfold Func.isWrapper; first | (rw [if_pos (by decide +kernel)]; kernel_rfl) | (rw [if_neg (by decide +kernel)]; exact ⟨rfl, rfl⟩))
    (fun os started H enc _ => lifted os started H enc)

/-- ████ THE STATEMENT ████ -/
theorem proved : Rows.PairsDoSaid := over
#print axioms proved
end Go.Proofs.Ytiogdenlaelkbaa.pairsDo
