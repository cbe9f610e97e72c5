/-
  DERIVED. GIVEN WITH THE SEED: THE CARDS: each row of YtdbfccfckinjmaaDoorRows.lean that lists a variable, with what it lists TIED to the program's text (the seventh form; the later family's looks); each row that meets fmt, with fmt's text TOLD by the authors' own Lean function (tested against real Go, not proved from fmt's source: count such statements apart). THE CARD IS WHAT COUNTS. Prove the row's statement (the work); the ties are given (YtdbfccfckinjmaaDoorTie.lean); close each card by the builder's one call (the guide's Derived/Test/ToyasCard.lean, 'card_holds'). Laid BY PROGRAM, IN A SANDBOX (cutbox-door.mjs). By AI agents, Wed Nov 11 2026. No macro, syntax, notation, axiom, sorry.
-/
import Derived.Test.YtdbfccfckinjmaaDoorRows
import GoSem.ClaimSeven
namespace Go.Proofs.YtdbfccfckinjmaaDoor
namespace Rows

/-- THE TIED CARD OF 'laws.FnExactNextHealth'. -/
def fnExactNextHealthCard : Claim7 := { stood := { row := fnExactNextHealthRow, standIns := [], harness := (true, "e0d859e1e8cfe9f8e1310b328fb65892426a8ec1a71f4926316a5af155fb636b"), looks := false }, kinds := [], alts := [], laidByText := true, laidKinds := [.data], laidTests := true, laidLooks := .later }
def FnExactNextHealthCardSaid : Prop := Claim7.holds Tryd.pinned (.plain (OpenSpec.ofChange fnExactNextHealthSpec)) fnExactNextHealthCard

/-- THE TIED CARD OF 'laws.FnExactHealthPath'. -/
def fnExactHealthPathCard : Claim7 := { stood := { row := fnExactHealthPathRow, standIns := [], harness := (true, "e0d859e1e8cfe9f8e1310b328fb65892426a8ec1a71f4926316a5af155fb636b"), looks := false }, kinds := [], alts := [], laidByText := true, laidKinds := [.data], laidTests := true, laidLooks := .later }
def FnExactHealthPathCardSaid : Prop := Claim7.holds Tryd.pinned (.plain (OpenSpec.ofChange fnExactHealthPathSpec)) fnExactHealthPathCard

/-- THE TIED CARD OF 'laws.FnExactCountTurns'. -/
def fnExactCountTurnsCard : Claim7 := { stood := { row := fnExactCountTurnsRow, standIns := [], harness := (true, "e0d859e1e8cfe9f8e1310b328fb65892426a8ec1a71f4926316a5af155fb636b"), looks := false }, kinds := [], alts := [], laidByText := true, laidKinds := [.data], laidTests := true, laidLooks := .later }
def FnExactCountTurnsCardSaid : Prop := Claim7.holds Tryd.pinned (.plain (OpenSpec.ofChange fnExactCountTurnsSpec)) fnExactCountTurnsCard

/-- THE TIED CARD OF 'laws.FnNextHealth'. -/
def fnNextHealthCard : Claim7 := { stood := { row := fnNextHealthRow, standIns := [], harness := (true, "e0d859e1e8cfe9f8e1310b328fb65892426a8ec1a71f4926316a5af155fb636b"), looks := false }, kinds := [], alts := [], laidByText := true, laidKinds := [.data], laidTests := true, laidLooks := .later }
def FnNextHealthCardSaid : Prop := Claim7.holds Tryd.pinned (.plain (OpenSpec.ofChange fnNextHealthSpec)) fnNextHealthCard

/-- THE TIED CARD OF 'laws.FnNextHealthTwice'. -/
def fnNextHealthTwiceCard : Claim7 := { stood := { row := fnNextHealthTwiceRow, standIns := [], harness := (true, "e0d859e1e8cfe9f8e1310b328fb65892426a8ec1a71f4926316a5af155fb636b"), looks := false }, kinds := [], alts := [], laidByText := true, laidKinds := [.data], laidTests := true, laidLooks := .later }
def FnNextHealthTwiceCardSaid : Prop := Claim7.holds Tryd.pinned (.plain (OpenSpec.ofChange fnNextHealthTwiceSpec)) fnNextHealthTwiceCard

/-- THE TIED CARD OF 'laws.FnNextHealthStay'. -/
def fnNextHealthStayCard : Claim7 := { stood := { row := fnNextHealthStayRow, standIns := [], harness := (true, "e0d859e1e8cfe9f8e1310b328fb65892426a8ec1a71f4926316a5af155fb636b"), looks := false }, kinds := [], alts := [], laidByText := true, laidKinds := [.data], laidTests := true, laidLooks := .later }
def FnNextHealthStayCardSaid : Prop := Claim7.holds Tryd.pinned (.plain (OpenSpec.ofChange fnNextHealthStaySpec)) fnNextHealthStayCard

/-- THE TIED CARD OF 'laws.FnHealthPath'. -/
def fnHealthPathCard : Claim7 := { stood := { row := fnHealthPathRow, standIns := [], harness := (true, "e0d859e1e8cfe9f8e1310b328fb65892426a8ec1a71f4926316a5af155fb636b"), looks := false }, kinds := [], alts := [], laidByText := true, laidKinds := [.data], laidTests := true, laidLooks := .later }
def FnHealthPathCardSaid : Prop := Claim7.holds Tryd.pinned (.plain (OpenSpec.ofChange fnHealthPathSpec)) fnHealthPathCard

/-- THE TIED CARD OF 'laws.FnHealthPathShort'. -/
def fnHealthPathShortCard : Claim7 := { stood := { row := fnHealthPathShortRow, standIns := [], harness := (true, "e0d859e1e8cfe9f8e1310b328fb65892426a8ec1a71f4926316a5af155fb636b"), looks := false }, kinds := [], alts := [], laidByText := true, laidKinds := [.data], laidTests := true, laidLooks := .later }
def FnHealthPathShortCardSaid : Prop := Claim7.holds Tryd.pinned (.plain (OpenSpec.ofChange fnHealthPathShortSpec)) fnHealthPathShortCard

/-- THE TIED CARD OF 'laws.FnHealthPathLow'. -/
def fnHealthPathLowCard : Claim7 := { stood := { row := fnHealthPathLowRow, standIns := [], harness := (true, "e0d859e1e8cfe9f8e1310b328fb65892426a8ec1a71f4926316a5af155fb636b"), looks := false }, kinds := [], alts := [], laidByText := true, laidKinds := [.data], laidTests := true, laidLooks := .later }
def FnHealthPathLowCardSaid : Prop := Claim7.holds Tryd.pinned (.plain (OpenSpec.ofChange fnHealthPathLowSpec)) fnHealthPathLowCard

/-- THE TIED CARD OF 'laws.FnCountTurns'. -/
def fnCountTurnsCard : Claim7 := { stood := { row := fnCountTurnsRow, standIns := [], harness := (true, "e0d859e1e8cfe9f8e1310b328fb65892426a8ec1a71f4926316a5af155fb636b"), looks := false }, kinds := [], alts := [], laidByText := true, laidKinds := [.data], laidTests := true, laidLooks := .later }
def FnCountTurnsCardSaid : Prop := Claim7.holds Tryd.pinned (.plain (OpenSpec.ofChange fnCountTurnsSpec)) fnCountTurnsCard

/-- THE TIED CARD OF 'laws.FnCountTurnsMore'. -/
def fnCountTurnsMoreCard : Claim7 := { stood := { row := fnCountTurnsMoreRow, standIns := [], harness := (true, "e0d859e1e8cfe9f8e1310b328fb65892426a8ec1a71f4926316a5af155fb636b"), looks := false }, kinds := [], alts := [], laidByText := true, laidKinds := [.data], laidTests := true, laidLooks := .later }
def FnCountTurnsMoreCardSaid : Prop := Claim7.holds Tryd.pinned (.plain (OpenSpec.ofChange fnCountTurnsMoreSpec)) fnCountTurnsMoreCard

/-- THE SECOND FORM's CARD OF 'laws.FnExactNextHealth'. -/
def fnExactNextHealthUptoCard : Claim7 := { stood := { row := fnExactNextHealthUptoRow, standIns := [], harness := (true, "e0d859e1e8cfe9f8e1310b328fb65892426a8ec1a71f4926316a5af155fb636b"), looks := false }, kinds := [], alts := [], laidByText := true, laidKinds := [.data], laidTests := true, laidLooks := .later }
def FnExactNextHealthUptoCardSaid : Prop := Claim7.holds Tryd.pinned (.plain (OpenSpec.upto fnExactNextHealthSpec)) fnExactNextHealthUptoCard

/-- THE SECOND FORM's CARD OF 'laws.FnExactHealthPath'. -/
def fnExactHealthPathUptoCard : Claim7 := { stood := { row := fnExactHealthPathUptoRow, standIns := [], harness := (true, "e0d859e1e8cfe9f8e1310b328fb65892426a8ec1a71f4926316a5af155fb636b"), looks := false }, kinds := [], alts := [], laidByText := true, laidKinds := [.data], laidTests := true, laidLooks := .later }
def FnExactHealthPathUptoCardSaid : Prop := Claim7.holds Tryd.pinned (.plain (OpenSpec.upto fnExactHealthPathSpec)) fnExactHealthPathUptoCard

/-- THE SECOND FORM's CARD OF 'laws.FnExactCountTurns'. -/
def fnExactCountTurnsUptoCard : Claim7 := { stood := { row := fnExactCountTurnsUptoRow, standIns := [], harness := (true, "e0d859e1e8cfe9f8e1310b328fb65892426a8ec1a71f4926316a5af155fb636b"), looks := false }, kinds := [], alts := [], laidByText := true, laidKinds := [.data], laidTests := true, laidLooks := .later }
def FnExactCountTurnsUptoCardSaid : Prop := Claim7.holds Tryd.pinned (.plain (OpenSpec.upto fnExactCountTurnsSpec)) fnExactCountTurnsUptoCard

/-- THE SECOND FORM's CARD OF 'laws.FnNextHealth'. -/
def fnNextHealthUptoCard : Claim7 := { stood := { row := fnNextHealthUptoRow, standIns := [], harness := (true, "e0d859e1e8cfe9f8e1310b328fb65892426a8ec1a71f4926316a5af155fb636b"), looks := false }, kinds := [], alts := [], laidByText := true, laidKinds := [.data], laidTests := true, laidLooks := .later }
def FnNextHealthUptoCardSaid : Prop := Claim7.holds Tryd.pinned (.plain (OpenSpec.upto fnNextHealthSpec)) fnNextHealthUptoCard

/-- THE SECOND FORM's CARD OF 'laws.FnNextHealthTwice'. -/
def fnNextHealthTwiceUptoCard : Claim7 := { stood := { row := fnNextHealthTwiceUptoRow, standIns := [], harness := (true, "e0d859e1e8cfe9f8e1310b328fb65892426a8ec1a71f4926316a5af155fb636b"), looks := false }, kinds := [], alts := [], laidByText := true, laidKinds := [.data], laidTests := true, laidLooks := .later }
def FnNextHealthTwiceUptoCardSaid : Prop := Claim7.holds Tryd.pinned (.plain (OpenSpec.upto fnNextHealthTwiceSpec)) fnNextHealthTwiceUptoCard

/-- THE SECOND FORM's CARD OF 'laws.FnNextHealthStay'. -/
def fnNextHealthStayUptoCard : Claim7 := { stood := { row := fnNextHealthStayUptoRow, standIns := [], harness := (true, "e0d859e1e8cfe9f8e1310b328fb65892426a8ec1a71f4926316a5af155fb636b"), looks := false }, kinds := [], alts := [], laidByText := true, laidKinds := [.data], laidTests := true, laidLooks := .later }
def FnNextHealthStayUptoCardSaid : Prop := Claim7.holds Tryd.pinned (.plain (OpenSpec.upto fnNextHealthStaySpec)) fnNextHealthStayUptoCard

/-- THE SECOND FORM's CARD OF 'laws.FnHealthPath'. -/
def fnHealthPathUptoCard : Claim7 := { stood := { row := fnHealthPathUptoRow, standIns := [], harness := (true, "e0d859e1e8cfe9f8e1310b328fb65892426a8ec1a71f4926316a5af155fb636b"), looks := false }, kinds := [], alts := [], laidByText := true, laidKinds := [.data], laidTests := true, laidLooks := .later }
def FnHealthPathUptoCardSaid : Prop := Claim7.holds Tryd.pinned (.plain (OpenSpec.upto fnHealthPathSpec)) fnHealthPathUptoCard

/-- THE SECOND FORM's CARD OF 'laws.FnHealthPathShort'. -/
def fnHealthPathShortUptoCard : Claim7 := { stood := { row := fnHealthPathShortUptoRow, standIns := [], harness := (true, "e0d859e1e8cfe9f8e1310b328fb65892426a8ec1a71f4926316a5af155fb636b"), looks := false }, kinds := [], alts := [], laidByText := true, laidKinds := [.data], laidTests := true, laidLooks := .later }
def FnHealthPathShortUptoCardSaid : Prop := Claim7.holds Tryd.pinned (.plain (OpenSpec.upto fnHealthPathShortSpec)) fnHealthPathShortUptoCard

/-- THE SECOND FORM's CARD OF 'laws.FnHealthPathLow'. -/
def fnHealthPathLowUptoCard : Claim7 := { stood := { row := fnHealthPathLowUptoRow, standIns := [], harness := (true, "e0d859e1e8cfe9f8e1310b328fb65892426a8ec1a71f4926316a5af155fb636b"), looks := false }, kinds := [], alts := [], laidByText := true, laidKinds := [.data], laidTests := true, laidLooks := .later }
def FnHealthPathLowUptoCardSaid : Prop := Claim7.holds Tryd.pinned (.plain (OpenSpec.upto fnHealthPathLowSpec)) fnHealthPathLowUptoCard

/-- THE SECOND FORM's CARD OF 'laws.FnCountTurns'. -/
def fnCountTurnsUptoCard : Claim7 := { stood := { row := fnCountTurnsUptoRow, standIns := [], harness := (true, "e0d859e1e8cfe9f8e1310b328fb65892426a8ec1a71f4926316a5af155fb636b"), looks := false }, kinds := [], alts := [], laidByText := true, laidKinds := [.data], laidTests := true, laidLooks := .later }
def FnCountTurnsUptoCardSaid : Prop := Claim7.holds Tryd.pinned (.plain (OpenSpec.upto fnCountTurnsSpec)) fnCountTurnsUptoCard

/-- THE SECOND FORM's CARD OF 'laws.FnCountTurnsMore'. -/
def fnCountTurnsMoreUptoCard : Claim7 := { stood := { row := fnCountTurnsMoreUptoRow, standIns := [], harness := (true, "e0d859e1e8cfe9f8e1310b328fb65892426a8ec1a71f4926316a5af155fb636b"), looks := false }, kinds := [], alts := [], laidByText := true, laidKinds := [.data], laidTests := true, laidLooks := .later }
def FnCountTurnsMoreUptoCardSaid : Prop := Claim7.holds Tryd.pinned (.plain (OpenSpec.upto fnCountTurnsMoreSpec)) fnCountTurnsMoreUptoCard
end Rows
end Go.Proofs.YtdbfccfckinjmaaDoor
