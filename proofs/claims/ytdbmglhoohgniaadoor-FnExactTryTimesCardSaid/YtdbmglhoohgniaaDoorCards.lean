/-
  DERIVED. GIVEN WITH THE SEED: THE CARDS: each row of YtdbmglhoohgniaaDoorRows.lean that lists a variable, with what it lists TIED to the program's text (the seventh form; the later family's looks); each row that meets fmt, with fmt's text TOLD by the authors' own Lean function (tested against real Go, not proved from fmt's source: count such statements apart). THE CARD IS WHAT COUNTS. Prove the row's statement (the work); the ties are given (YtdbmglhoohgniaaDoorTie.lean); close each card by the builder's one call (the guide's Derived/Test/ToyasCard.lean, 'card_holds'). Laid BY PROGRAM, IN A SANDBOX (cutbox-door.mjs). By AI agents, Wed Nov 11 2026. No macro, syntax, notation, axiom, sorry.
-/
import Derived.Test.YtdbmglhoohgniaaDoorRows
import GoSem.ClaimSeven
namespace Go.Proofs.YtdbmglhoohgniaaDoor
namespace Rows

/-- THE TIED CARD OF 'laws.FnExactBackoffOf'. -/
def fnExactBackoffOfCard : Claim7 := { stood := { row := fnExactBackoffOfRow, standIns := [], harness := (true, "b16ec64555e200973abf19bb4494adee7ad2a56cc6e7332d591c6e7db4f536f3"), looks := false }, kinds := [], alts := [], laidByText := true, laidKinds := [.data], laidTests := true, laidLooks := .later }
def FnExactBackoffOfCardSaid : Prop := Claim7.holds Tryd.pinned (.plain (OpenSpec.ofChange fnExactBackoffOfSpec)) fnExactBackoffOfCard

/-- THE TIED CARD OF 'laws.FnExactTryTime'. -/
def fnExactTryTimeCard : Claim7 := { stood := { row := fnExactTryTimeRow, standIns := [], harness := (true, "b16ec64555e200973abf19bb4494adee7ad2a56cc6e7332d591c6e7db4f536f3"), looks := false }, kinds := [], alts := [], laidByText := true, laidKinds := [.data], laidTests := true, laidLooks := .later }
def FnExactTryTimeCardSaid : Prop := Claim7.holds Tryd.pinned (.plain (OpenSpec.ofChange fnExactTryTimeSpec)) fnExactTryTimeCard

/-- THE TIED CARD OF 'laws.FnExactTryTimes'. -/
def fnExactTryTimesCard : Claim7 := { stood := { row := fnExactTryTimesRow, standIns := [], harness := (true, "b16ec64555e200973abf19bb4494adee7ad2a56cc6e7332d591c6e7db4f536f3"), looks := false }, kinds := [], alts := [], laidByText := true, laidKinds := [.data], laidTests := true, laidLooks := .later }
def FnExactTryTimesCardSaid : Prop := Claim7.holds Tryd.pinned (.plain (OpenSpec.ofChange fnExactTryTimesSpec)) fnExactTryTimesCard

/-- THE TIED CARD OF 'laws.FnExactLastWait'. -/
def fnExactLastWaitCard : Claim7 := { stood := { row := fnExactLastWaitRow, standIns := [], harness := (true, "b16ec64555e200973abf19bb4494adee7ad2a56cc6e7332d591c6e7db4f536f3"), looks := false }, kinds := [], alts := [], laidByText := true, laidKinds := [.data], laidTests := true, laidLooks := .later }
def FnExactLastWaitCardSaid : Prop := Claim7.holds Tryd.pinned (.plain (OpenSpec.ofChange fnExactLastWaitSpec)) fnExactLastWaitCard

/-- THE TIED CARD OF 'laws.FnBackoffOf'. -/
def fnBackoffOfCard : Claim7 := { stood := { row := fnBackoffOfRow, standIns := [], harness := (true, "b16ec64555e200973abf19bb4494adee7ad2a56cc6e7332d591c6e7db4f536f3"), looks := false }, kinds := [], alts := [], laidByText := true, laidKinds := [.data], laidTests := true, laidLooks := .later }
def FnBackoffOfCardSaid : Prop := Claim7.holds Tryd.pinned (.plain (OpenSpec.ofChange fnBackoffOfSpec)) fnBackoffOfCard

/-- THE TIED CARD OF 'laws.FnBackoffOfBound'. -/
def fnBackoffOfBoundCard : Claim7 := { stood := { row := fnBackoffOfBoundRow, standIns := [], harness := (true, "b16ec64555e200973abf19bb4494adee7ad2a56cc6e7332d591c6e7db4f536f3"), looks := false }, kinds := [], alts := [], laidByText := true, laidKinds := [.data], laidTests := true, laidLooks := .later }
def FnBackoffOfBoundCardSaid : Prop := Claim7.holds Tryd.pinned (.plain (OpenSpec.ofChange fnBackoffOfBoundSpec)) fnBackoffOfBoundCard

/-- THE TIED CARD OF 'laws.FnTryTime'. -/
def fnTryTimeCard : Claim7 := { stood := { row := fnTryTimeRow, standIns := [], harness := (true, "b16ec64555e200973abf19bb4494adee7ad2a56cc6e7332d591c6e7db4f536f3"), looks := false }, kinds := [], alts := [], laidByText := true, laidKinds := [.data], laidTests := true, laidLooks := .later }
def FnTryTimeCardSaid : Prop := Claim7.holds Tryd.pinned (.plain (OpenSpec.ofChange fnTryTimeSpec)) fnTryTimeCard

/-- THE TIED CARD OF 'laws.FnTryTimeMove'. -/
def fnTryTimeMoveCard : Claim7 := { stood := { row := fnTryTimeMoveRow, standIns := [], harness := (true, "b16ec64555e200973abf19bb4494adee7ad2a56cc6e7332d591c6e7db4f536f3"), looks := false }, kinds := [], alts := [], laidByText := true, laidKinds := [.data], laidTests := true, laidLooks := .later }
def FnTryTimeMoveCardSaid : Prop := Claim7.holds Tryd.pinned (.plain (OpenSpec.ofChange fnTryTimeMoveSpec)) fnTryTimeMoveCard

/-- THE TIED CARD OF 'laws.FnTryTimes'. -/
def fnTryTimesCard : Claim7 := { stood := { row := fnTryTimesRow, standIns := [], harness := (true, "b16ec64555e200973abf19bb4494adee7ad2a56cc6e7332d591c6e7db4f536f3"), looks := false }, kinds := [], alts := [], laidByText := true, laidKinds := [.data], laidTests := true, laidLooks := .later }
def FnTryTimesCardSaid : Prop := Claim7.holds Tryd.pinned (.plain (OpenSpec.ofChange fnTryTimesSpec)) fnTryTimesCard

/-- THE TIED CARD OF 'laws.FnTryTimesLast'. -/
def fnTryTimesLastCard : Claim7 := { stood := { row := fnTryTimesLastRow, standIns := [], harness := (true, "b16ec64555e200973abf19bb4494adee7ad2a56cc6e7332d591c6e7db4f536f3"), looks := false }, kinds := [], alts := [], laidByText := true, laidKinds := [.data], laidTests := true, laidLooks := .later }
def FnTryTimesLastCardSaid : Prop := Claim7.holds Tryd.pinned (.plain (OpenSpec.ofChange fnTryTimesLastSpec)) fnTryTimesLastCard

/-- THE TIED CARD OF 'laws.FnLastWait'. -/
def fnLastWaitCard : Claim7 := { stood := { row := fnLastWaitRow, standIns := [], harness := (true, "b16ec64555e200973abf19bb4494adee7ad2a56cc6e7332d591c6e7db4f536f3"), looks := false }, kinds := [], alts := [], laidByText := true, laidKinds := [.data], laidTests := true, laidLooks := .later }
def FnLastWaitCardSaid : Prop := Claim7.holds Tryd.pinned (.plain (OpenSpec.ofChange fnLastWaitSpec)) fnLastWaitCard

/-- THE TIED CARD OF 'laws.FnTryTimeBatch'. -/
def fnTryTimeBatchCard : Claim7 := { stood := { row := fnTryTimeBatchRow, standIns := [], harness := (true, "b16ec64555e200973abf19bb4494adee7ad2a56cc6e7332d591c6e7db4f536f3"), looks := false }, kinds := [], alts := [], laidByText := true, laidKinds := [.data], laidTests := true, laidLooks := .later }
def FnTryTimeBatchCardSaid : Prop := Claim7.holds Tryd.pinned (.plain (OpenSpec.ofChange fnTryTimeBatchSpec)) fnTryTimeBatchCard

/-- THE TIED CARD OF 'laws.FnTryTimesShort'. -/
def fnTryTimesShortCard : Claim7 := { stood := { row := fnTryTimesShortRow, standIns := [], harness := (true, "b16ec64555e200973abf19bb4494adee7ad2a56cc6e7332d591c6e7db4f536f3"), looks := false }, kinds := [], alts := [], laidByText := true, laidKinds := [.data], laidTests := true, laidLooks := .later }
def FnTryTimesShortCardSaid : Prop := Claim7.holds Tryd.pinned (.plain (OpenSpec.ofChange fnTryTimesShortSpec)) fnTryTimesShortCard

/-- THE SECOND FORM's CARD OF 'laws.FnExactBackoffOf'. -/
def fnExactBackoffOfUptoCard : Claim7 := { stood := { row := fnExactBackoffOfUptoRow, standIns := [], harness := (true, "b16ec64555e200973abf19bb4494adee7ad2a56cc6e7332d591c6e7db4f536f3"), looks := false }, kinds := [], alts := [], laidByText := true, laidKinds := [.data], laidTests := true, laidLooks := .later }
def FnExactBackoffOfUptoCardSaid : Prop := Claim7.holds Tryd.pinned (.plain (OpenSpec.upto fnExactBackoffOfSpec)) fnExactBackoffOfUptoCard

/-- THE SECOND FORM's CARD OF 'laws.FnExactTryTime'. -/
def fnExactTryTimeUptoCard : Claim7 := { stood := { row := fnExactTryTimeUptoRow, standIns := [], harness := (true, "b16ec64555e200973abf19bb4494adee7ad2a56cc6e7332d591c6e7db4f536f3"), looks := false }, kinds := [], alts := [], laidByText := true, laidKinds := [.data], laidTests := true, laidLooks := .later }
def FnExactTryTimeUptoCardSaid : Prop := Claim7.holds Tryd.pinned (.plain (OpenSpec.upto fnExactTryTimeSpec)) fnExactTryTimeUptoCard

/-- THE SECOND FORM's CARD OF 'laws.FnExactTryTimes'. -/
def fnExactTryTimesUptoCard : Claim7 := { stood := { row := fnExactTryTimesUptoRow, standIns := [], harness := (true, "b16ec64555e200973abf19bb4494adee7ad2a56cc6e7332d591c6e7db4f536f3"), looks := false }, kinds := [], alts := [], laidByText := true, laidKinds := [.data], laidTests := true, laidLooks := .later }
def FnExactTryTimesUptoCardSaid : Prop := Claim7.holds Tryd.pinned (.plain (OpenSpec.upto fnExactTryTimesSpec)) fnExactTryTimesUptoCard

/-- THE SECOND FORM's CARD OF 'laws.FnExactLastWait'. -/
def fnExactLastWaitUptoCard : Claim7 := { stood := { row := fnExactLastWaitUptoRow, standIns := [], harness := (true, "b16ec64555e200973abf19bb4494adee7ad2a56cc6e7332d591c6e7db4f536f3"), looks := false }, kinds := [], alts := [], laidByText := true, laidKinds := [.data], laidTests := true, laidLooks := .later }
def FnExactLastWaitUptoCardSaid : Prop := Claim7.holds Tryd.pinned (.plain (OpenSpec.upto fnExactLastWaitSpec)) fnExactLastWaitUptoCard

/-- THE SECOND FORM's CARD OF 'laws.FnBackoffOf'. -/
def fnBackoffOfUptoCard : Claim7 := { stood := { row := fnBackoffOfUptoRow, standIns := [], harness := (true, "b16ec64555e200973abf19bb4494adee7ad2a56cc6e7332d591c6e7db4f536f3"), looks := false }, kinds := [], alts := [], laidByText := true, laidKinds := [.data], laidTests := true, laidLooks := .later }
def FnBackoffOfUptoCardSaid : Prop := Claim7.holds Tryd.pinned (.plain (OpenSpec.upto fnBackoffOfSpec)) fnBackoffOfUptoCard

/-- THE SECOND FORM's CARD OF 'laws.FnBackoffOfBound'. -/
def fnBackoffOfBoundUptoCard : Claim7 := { stood := { row := fnBackoffOfBoundUptoRow, standIns := [], harness := (true, "b16ec64555e200973abf19bb4494adee7ad2a56cc6e7332d591c6e7db4f536f3"), looks := false }, kinds := [], alts := [], laidByText := true, laidKinds := [.data], laidTests := true, laidLooks := .later }
def FnBackoffOfBoundUptoCardSaid : Prop := Claim7.holds Tryd.pinned (.plain (OpenSpec.upto fnBackoffOfBoundSpec)) fnBackoffOfBoundUptoCard

/-- THE SECOND FORM's CARD OF 'laws.FnTryTime'. -/
def fnTryTimeUptoCard : Claim7 := { stood := { row := fnTryTimeUptoRow, standIns := [], harness := (true, "b16ec64555e200973abf19bb4494adee7ad2a56cc6e7332d591c6e7db4f536f3"), looks := false }, kinds := [], alts := [], laidByText := true, laidKinds := [.data], laidTests := true, laidLooks := .later }
def FnTryTimeUptoCardSaid : Prop := Claim7.holds Tryd.pinned (.plain (OpenSpec.upto fnTryTimeSpec)) fnTryTimeUptoCard

/-- THE SECOND FORM's CARD OF 'laws.FnTryTimeMove'. -/
def fnTryTimeMoveUptoCard : Claim7 := { stood := { row := fnTryTimeMoveUptoRow, standIns := [], harness := (true, "b16ec64555e200973abf19bb4494adee7ad2a56cc6e7332d591c6e7db4f536f3"), looks := false }, kinds := [], alts := [], laidByText := true, laidKinds := [.data], laidTests := true, laidLooks := .later }
def FnTryTimeMoveUptoCardSaid : Prop := Claim7.holds Tryd.pinned (.plain (OpenSpec.upto fnTryTimeMoveSpec)) fnTryTimeMoveUptoCard

/-- THE SECOND FORM's CARD OF 'laws.FnTryTimes'. -/
def fnTryTimesUptoCard : Claim7 := { stood := { row := fnTryTimesUptoRow, standIns := [], harness := (true, "b16ec64555e200973abf19bb4494adee7ad2a56cc6e7332d591c6e7db4f536f3"), looks := false }, kinds := [], alts := [], laidByText := true, laidKinds := [.data], laidTests := true, laidLooks := .later }
def FnTryTimesUptoCardSaid : Prop := Claim7.holds Tryd.pinned (.plain (OpenSpec.upto fnTryTimesSpec)) fnTryTimesUptoCard

/-- THE SECOND FORM's CARD OF 'laws.FnTryTimesLast'. -/
def fnTryTimesLastUptoCard : Claim7 := { stood := { row := fnTryTimesLastUptoRow, standIns := [], harness := (true, "b16ec64555e200973abf19bb4494adee7ad2a56cc6e7332d591c6e7db4f536f3"), looks := false }, kinds := [], alts := [], laidByText := true, laidKinds := [.data], laidTests := true, laidLooks := .later }
def FnTryTimesLastUptoCardSaid : Prop := Claim7.holds Tryd.pinned (.plain (OpenSpec.upto fnTryTimesLastSpec)) fnTryTimesLastUptoCard

/-- THE SECOND FORM's CARD OF 'laws.FnLastWait'. -/
def fnLastWaitUptoCard : Claim7 := { stood := { row := fnLastWaitUptoRow, standIns := [], harness := (true, "b16ec64555e200973abf19bb4494adee7ad2a56cc6e7332d591c6e7db4f536f3"), looks := false }, kinds := [], alts := [], laidByText := true, laidKinds := [.data], laidTests := true, laidLooks := .later }
def FnLastWaitUptoCardSaid : Prop := Claim7.holds Tryd.pinned (.plain (OpenSpec.upto fnLastWaitSpec)) fnLastWaitUptoCard

/-- THE SECOND FORM's CARD OF 'laws.FnTryTimeBatch'. -/
def fnTryTimeBatchUptoCard : Claim7 := { stood := { row := fnTryTimeBatchUptoRow, standIns := [], harness := (true, "b16ec64555e200973abf19bb4494adee7ad2a56cc6e7332d591c6e7db4f536f3"), looks := false }, kinds := [], alts := [], laidByText := true, laidKinds := [.data], laidTests := true, laidLooks := .later }
def FnTryTimeBatchUptoCardSaid : Prop := Claim7.holds Tryd.pinned (.plain (OpenSpec.upto fnTryTimeBatchSpec)) fnTryTimeBatchUptoCard

/-- THE SECOND FORM's CARD OF 'laws.FnTryTimesShort'. -/
def fnTryTimesShortUptoCard : Claim7 := { stood := { row := fnTryTimesShortUptoRow, standIns := [], harness := (true, "b16ec64555e200973abf19bb4494adee7ad2a56cc6e7332d591c6e7db4f536f3"), looks := false }, kinds := [], alts := [], laidByText := true, laidKinds := [.data], laidTests := true, laidLooks := .later }
def FnTryTimesShortUptoCardSaid : Prop := Claim7.holds Tryd.pinned (.plain (OpenSpec.upto fnTryTimesShortSpec)) fnTryTimesShortUptoCard
end Rows
end Go.Proofs.YtdbmglhoohgniaaDoor
