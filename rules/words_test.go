// Package rules tests what the document asks of all layers alike: the words of package api, the forms of the calls, and how the program's source is written.
package rules

import (
	"testing"

	"penstock/api"
)

// follow says whether the numbers run on from 1, as the document lists their names.
func follow(t *testing.T, what string, numbers ...uint8) {
	t.Helper()
	for i, n := range numbers {
		if int(n) != i+1 {
			t.Errorf("%s: number %d is %d", what, i+1, n)
		}
	}
}

func TestNumbersOfNames(t *testing.T) {
	follow(t, "kinds", uint8(api.KindNull), uint8(api.KindBool), uint8(api.KindInt), uint8(api.KindText))
	follow(t, "expressions", api.ExprCol, api.ExprLit, api.ExprNeg, api.ExprAdd, api.ExprSub, api.ExprMul, api.ExprDiv, api.ExprMod,
		api.ExprConcat, api.ExprLength, api.ExprEq, api.ExprNe, api.ExprLt, api.ExprLe, api.ExprGt, api.ExprGe, api.ExprNot,
		api.ExprAnd, api.ExprOr, api.ExprIsNull, api.ExprCase, api.ExprCoalesce, api.ExprFail)
	follow(t, "aggregations", api.AggCountAll, api.AggCount, api.AggSum, api.AggMin, api.AggMax)
	follow(t, "relations", api.RelGet, api.RelConst, api.RelMap, api.RelFilter, api.RelProject, api.RelUnion, api.RelNegate,
		api.RelThreshold, api.RelJoin, api.RelReduce, api.RelTop, api.RelLet, api.RelLetRec)
	follow(t, "tokens", api.TokenWord, api.TokenNumber, api.TokenText, api.TokenSign)
	follow(t, "terms", api.TermCol, api.TermLit, api.TermOp, api.TermAgg, api.TermExists, api.TermIn, api.TermQuery)
	follow(t, "sources of a query", api.FromTable, api.FromQuery, api.FromJoin, api.FromLeft)
	follow(t, "sources of a plan", api.SourceGet, api.SourcePlan, api.SourceJoin, api.SourceLeft)
	follow(t, "bodies", api.BodySelect, api.BodyUnion, api.BodyExcept, api.BodyIntersect, api.BodyValues)
	follow(t, "statements", api.StmtTable, api.StmtView, api.StmtDrop, api.StmtInsert, api.StmtDelete, api.StmtBegin, api.StmtCommit,
		api.StmtRollback, api.StmtSelect, api.StmtSubscribe, api.StmtDropView)
	follow(t, "operators", api.OpIn, api.OpOut, api.OpMap, api.OpFilter, api.OpProject, api.OpNegate, api.OpUnion, api.OpEnter,
		api.OpLeave, api.OpNext, api.OpOver, api.OpJoin, api.OpReduce, api.OpConst, api.OpRows, api.OpErrs, api.OpSame)
	follow(t, "picks", api.PickRun, api.PickMail, api.PickTalk)
	if api.ValExists != 100 || api.ValIn != 101 || api.ValPlan != 102 {
		t.Error("operators of values")
	}
}

func TestLimits(t *testing.T) {
	if api.MaxTime != 1<<62 {
		t.Error("MaxTime")
	}
	for _, x := range [][2]int{
		{api.MaxText, 1000}, {api.MaxColumns, 32}, {api.MaxName, 32}, {api.MaxLoops, 3}, {api.MaxBound, 100}, {api.MaxNodes, 4000},
		{api.MaxWorkers, 8}, {api.MaxMail, 64}, {api.MaxLine, 16384}, {api.MaxTokens, 4000}, {api.MaxDeep, 60}, {api.MaxTables, 64},
		{api.MaxSessions, 8}, {api.MaxScript, 65536},
	} {
		if x[0] != x[1] {
			t.Errorf("a limit is %d, not %d", x[0], x[1])
		}
	}
}

func TestErrors(t *testing.T) {
	for e, want := range map[api.Errno]string{
		api.OK: "errno 0", api.ErrArg: "errno 1", api.ErrRange: "errno 2", api.ErrFull: "errno 5", api.ErrEnded: "errno 7",
		api.ErrDatumOver: "errno 10", api.ErrDatumZero: "errno 11", api.ErrDatumLong: "errno 12", api.ErrDatumForm: "errno 13",
		api.ErrRowForm: "errno 20", api.ErrExprForm: "errno 30", api.ErrExprType: "errno 31",
		api.ErrStampForm: "errno 40", api.ErrStampOver: "errno 41", api.ErrFlowForm: "errno 60", api.ErrFlowCycle: "errno 61",
		api.ErrTrackForm: "errno 70", api.ErrGossipForm: "errno 80",
		api.ErrMailForm: "errno 90", api.ErrMailNone: "errno 91",
		api.ErrSpineForm: "errno 110", api.ErrSpineEarly: "errno 111",
		api.ErrShareForm: "errno 120", api.ErrShareSince: "errno 121",
		api.ErrJoinForm: "errno 140", api.ErrReduceForm: "errno 150", api.ErrMirMinus: "errno 191",
	} {
		if error(e).Error() != want {
			t.Errorf("%v, not %s", e, want)
		}
	}
}
