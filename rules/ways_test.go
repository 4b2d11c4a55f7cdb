package rules

import (
	"go/ast"
	"go/importer"
	"go/token"
	"go/types"
	"slices"
	"testing"
)

// layer is the files of one package, and the types of what stands in them.
type layer struct {
	files []*ast.File
	info  types.Info
}

// projects finds the project's own packages beside this one; the library's come from std.
type projects struct {
	all  []source
	set  *token.FileSet
	std  types.Importer
	done map[string]*types.Package
}

func (p *projects) Import(path string) (*types.Package, error) {
	if len(path) < 9 || path[:9] != "penstock/" {
		return p.std.Import(path)
	}
	if p.done[path] == nil {
		_, pack, err := p.load(path[9:])
		if err != nil {
			return nil, err
		}
		p.done[path] = pack
	}
	return p.done[path], nil
}

func (p *projects) load(pack string) (layer, *types.Package, error) {
	l := layer{info: types.Info{Types: map[ast.Expr]types.TypeAndValue{}, Selections: map[*ast.SelectorExpr]*types.Selection{}}}
	for _, s := range p.all {
		if s.pack == pack {
			l.files = append(l.files, s.tree)
		}
	}
	config := types.Config{Importer: p}
	made, err := config.Check("penstock/"+pack, p.set, l.files, &l.info)
	return l, made, err
}

func read(t *testing.T, pack string) layer {
	t.Helper()
	all := sources(t)
	set := all[0].set
	p := &projects{all: all, set: set, std: importer.ForCompiler(set, "source", nil), done: map[string]*types.Package{}}
	l, _, err := p.load(pack)
	if err != nil {
		t.Fatal(err)
	}
	return l
}

// inside says whether a node for which is holds stands in the function of that name.
func (l layer) inside(name string, is func(ast.Node) bool) bool {
	found := false
	for _, f := range l.files {
		for _, d := range f.Decls {
			if x, ok := d.(*ast.FuncDecl); ok && x.Name.Name == name {
				found = found || holds(x, is)
			}
		}
	}
	return found
}

func (l layer) rangesOverString(n ast.Node) bool {
	r, ok := n.(*ast.RangeStmt)
	if !ok {
		return false
	}
	b, ok := l.info.Types[r.X].Type.Underlying().(*types.Basic)
	return ok && b.Info()&types.IsString != 0
}

func fallsThrough(n ast.Node) bool {
	b, ok := n.(*ast.BranchStmt)
	return ok && b.Tok == token.FALLTHROUGH
}

func TestWaysOfDatum(t *testing.T) {
	l := read(t, "datum")
	for _, name := range []string{"Length", "quote", "unquote"} {
		if !l.inside(name, l.rangesOverString) {
			t.Errorf("%s does not range over a string", name)
		}
	}
	if !l.inside("wellFormed", fallsThrough) {
		t.Error("the fields of a kind are not checked in a switch with fallthrough")
	}
}

// callsBuiltin is whether a node calls the language's own function of that name.
func callsBuiltin(name string) func(ast.Node) bool {
	return func(n ast.Node) bool {
		call, ok := n.(*ast.CallExpr)
		if !ok {
			return false
		}
		f, ok := call.Fun.(*ast.Ident)
		return ok && f.Name == name
	}
}

// holds says whether a node for which is holds stands within n.
func holds(n ast.Node, is func(ast.Node) bool) bool {
	found := false
	ast.Inspect(n, func(n ast.Node) bool {
		found = found || n != nil && is(n)
		return true
	})
	return found
}

// assertsAlone says whether n is an assertion of one value, to a type of its own.
func (l layer) assertsAlone(n ast.Node) bool {
	a, ok := n.(*ast.TypeAssertExpr)
	if !ok || a.Type == nil {
		return false
	}
	asserted := l.info.Types[a].Type
	_, two := asserted.(*types.Tuple)
	return !two && !types.IsInterface(asserted)
}

// defersRecovery says whether n defers a function literal that recovers, and asserts what it recovered.
func (l layer) defersRecovery(n ast.Node) bool {
	d, ok := n.(*ast.DeferStmt)
	if !ok {
		return false
	}
	f, ok := d.Call.Fun.(*ast.FuncLit)
	return ok && holds(f, callsBuiltin("recover")) && holds(f, l.assertsAlone)
}

func (l layer) asksMapOfTexts(n ast.Node) bool {
	x, ok := n.(*ast.IndexExpr)
	if !ok {
		return false
	}
	m, ok := l.info.Types[x.X].Type.Underlying().(*types.Map)
	return ok && types.Identical(m.Key(), types.Typ[types.String])
}

func TestWaysOfRow(t *testing.T) {
	l := read(t, "row")
	if !l.inside("must", callsBuiltin("panic")) {
		t.Error("the reader of bytes does not panic")
	}
	if !l.inside("row", l.defersRecovery) {
		t.Error("what the reader panics with is not recovered in a deferred function that asserts that it is its own")
	}
	if !l.inside("Sum", l.asksMapOfTexts) {
		t.Error("equal rows are not found in a map, by their encodings")
	}
}

// mapsToMethodExpressions says whether n is a map written out, whose values are method expressions alone.
func (l layer) mapsToMethodExpressions(n ast.Node) bool {
	table, ok := n.(*ast.CompositeLit)
	if !ok || len(table.Elts) == 0 {
		return false
	}
	if _, ok := l.info.Types[table].Type.Underlying().(*types.Map); !ok {
		return false
	}
	for _, e := range table.Elts {
		value, ok := e.(*ast.KeyValueExpr).Value.(*ast.SelectorExpr)
		if !ok || !l.info.Types[value.X].IsType() {
			return false
		}
	}
	return true
}

func (l layer) asksMapOfFunctions(n ast.Node) bool {
	x, ok := n.(*ast.IndexExpr)
	if !ok {
		return false
	}
	m, ok := l.info.Types[x.X].Type.Underlying().(*types.Map)
	return ok && holdsFunction(m.Elem())
}

func holdsFunction(t types.Type) bool {
	_, ok := t.Underlying().(*types.Signature)
	return ok
}

func (l layer) rangesOverFunction(n ast.Node) bool {
	r, ok := n.(*ast.RangeStmt)
	return ok && holdsFunction(l.info.Types[r.X].Type)
}

// asksAs says whether n calls errors.As for an error whose type embeds api's numbers.
func (l layer) asksAs(n ast.Node) bool {
	call, ok := n.(*ast.CallExpr)
	if !ok || len(call.Args) != 2 || types.ExprString(call.Fun) != "errors.As" {
		return false
	}
	target, ok := l.info.Types[call.Args[1]].Type.(*types.Pointer)
	if !ok {
		return false
	}
	s, ok := target.Elem().Underlying().(*types.Struct)
	return ok && s.NumFields() == 1 && s.Field(0).Embedded() && s.Field(0).Name() == "Errno"
}

func TestWaysOfExpr(t *testing.T) {
	l := read(t, "expr")
	if !l.inside("effects", l.mapsToMethodExpressions) || !l.inside("value", l.asksMapOfFunctions) {
		t.Error("the effects of operators are not in a map of method expressions, made by a function")
	}
	for _, name := range []string{"Eval", "Type"} {
		if !l.inside(name, l.asksAs) {
			t.Errorf("%s does not ask by errors.As for an error that embeds its number", name)
		}
	}
	for _, name := range []string{"valid", "Safe", "Columns", "Turn"} {
		if !l.inside(name, l.rangesOverFunction) {
			t.Errorf("%s does not range over a function", name)
		}
	}
}

// passesClosure is whether a node calls the function of that name with a function literal.
func passesClosure(name string) func(ast.Node) bool {
	return func(n ast.Node) bool {
		call, ok := n.(*ast.CallExpr)
		if !ok || types.ExprString(call.Fun) != name {
			return false
		}
		for _, a := range call.Args {
			if _, ok := a.(*ast.FuncLit); ok {
				return true
			}
		}
		return false
	}
}

func (l layer) rangesOverInteger(n ast.Node) bool {
	r, ok := n.(*ast.RangeStmt)
	if !ok {
		return false
	}
	b, ok := l.info.Types[r.X].Type.Underlying().(*types.Basic)
	return ok && b.Info()&types.IsInteger != 0
}

func TestWaysOfStamp(t *testing.T) {
	l := read(t, "stamp")
	for _, name := range []string{"Join", "Meet"} {
		if !l.inside(name, passesClosure("chosen")) {
			t.Errorf("%s does not pass the choice at each position as a closure", name)
		}
	}
	if !l.inside("PathLeq", l.rangesOverInteger) {
		t.Error("paths are not compared position by position by ranging over integers")
	}
}

// calls is whether a node calls the function of that name.
func calls(name string) func(ast.Node) bool {
	return func(n ast.Node) bool {
		call, ok := n.(*ast.CallExpr)
		return ok && types.ExprString(call.Fun) == name
	}
}

func TestWaysOfChain(t *testing.T) {
	l := read(t, "chain")
	for _, name := range []string{"add", "Count"} {
		if !l.inside(name, l.asksMapOfTexts) || !l.inside(name, calls("stamp.Print")) {
			t.Errorf("%s does not ask a map of counts by the text form of a time", name)
		}
	}
	if !l.inside("add", callsBuiltin("delete")) {
		t.Error("counts that are 0 are not deleted")
	}
}

// leavesByLabel says whether n is a loop with a label, by which something inside leaves it.
func leavesByLabel(n ast.Node) bool {
	l, ok := n.(*ast.LabeledStmt)
	if !ok {
		return false
	}
	_, loop := l.Stmt.(*ast.ForStmt)
	return loop && holds(l, func(n ast.Node) bool {
		b, ok := n.(*ast.BranchStmt)
		return ok && b.Tok == token.BREAK && b.Label != nil && b.Label.Name == l.Label.Name
	})
}

func isPort(t types.Type) bool {
	n, ok := t.(*types.Named)
	return ok && n.Obj().Name() == "Port" && n.Obj().Pkg().Path() == "penstock/api"
}

func (l layer) comparesPorts(n ast.Node) bool {
	b, ok := n.(*ast.BinaryExpr)
	return ok && b.Op == token.EQL && isPort(l.info.Types[b.X].Type) && isPort(l.info.Types[b.Y].Type)
}

func (l layer) asksMapOfPorts(n ast.Node) bool {
	x, ok := n.(*ast.IndexExpr)
	if !ok {
		return false
	}
	m, ok := l.info.Types[x.X].Type.Underlying().(*types.Map)
	return ok && isPort(m.Key())
}

func TestWaysOfFlow(t *testing.T) {
	l := read(t, "flow")
	if !l.inside("follow", leavesByLabel) {
		t.Error("the list of work is not left by a label")
	}
	for _, name := range []string{"follow", "Targets"} {
		if !l.inside(name, l.comparesPorts) {
			t.Errorf("%s does not compare ports as structs", name)
		}
	}
	for _, name := range []string{"follow", "visit"} {
		if !l.inside(name, l.asksMapOfPorts) {
			t.Errorf("%s does not ask a map by ports", name)
		}
	}
}

func (l layer) rangesOverMap(n ast.Node) bool {
	r, ok := n.(*ast.RangeStmt)
	if !ok {
		return false
	}
	_, ok = l.info.Types[r.X].Type.Underlying().(*types.Map)
	return ok
}

func TestWaysOfTrack(t *testing.T) {
	l := read(t, "track")
	if !l.inside("Frontier", l.rangesOverMap) {
		t.Error("points are not visited by ranging over a map")
	}
	if !l.inside("between", l.asksMapOfPorts) || !l.inside("between", calls("flow.Ways")) {
		t.Error("paths are not computed when they are needed, and asked from a map by ports")
	}
	for _, name := range []string{"New", "Update", "pathsOf"} {
		if l.inside(name, calls("flow.Ways")) || l.inside(name, calls("flow.All")) {
			t.Errorf("%s computes paths ahead of their need", name)
		}
	}
}

// promotes says whether n calls the method of that name of a tracker that is embedded in what it is called on.
func (l layer) promotes(name string) func(ast.Node) bool {
	return func(n ast.Node) bool {
		x, ok := n.(*ast.SelectorExpr)
		if !ok || x.Sel.Name != name {
			return false
		}
		s, ok := l.info.Types[x.X].Type.Underlying().(*types.Struct)
		return ok && s.NumFields() > 0 && s.Field(0).Embedded() && s.Field(0).Name() == "Tracker"
	}
}

// asksMapOfPairs says whether n asks a map whose keys are arrays of two numbers.
func (l layer) asksMapOfPairs(n ast.Node) bool {
	x, ok := n.(*ast.IndexExpr)
	if !ok {
		return false
	}
	m, ok := l.info.Types[x.X].Type.Underlying().(*types.Map)
	return ok && types.Identical(m.Key(), types.NewArray(types.Typ[types.Int], 2))
}

func TestWaysOfGossip(t *testing.T) {
	l := read(t, "gossip")
	for call, method := range map[string]string{"Post": "Update", "Deliver": "Update", "Frontier": "Frontier", "Done": "Done"} {
		if !l.inside(call, l.promotes(method)) {
			t.Errorf("%s does not call the %s of an embedded tracker", call, method)
		}
	}
	for _, name := range []string{"Post", "take", "Waiting"} {
		if !l.inside(name, l.asksMapOfPairs) {
			t.Errorf("%s does not ask for a list of posts by a pair of workers", name)
		}
	}
}

// goesAround says whether n is a remainder by the length of a list.
func goesAround(n ast.Node) bool {
	b, ok := n.(*ast.BinaryExpr)
	return ok && b.Op == token.REM && holds(b.Y, callsBuiltin("len"))
}

// makesPair says whether n is an array of two numbers, written out.
func (l layer) makesPair(n ast.Node) bool {
	x, ok := n.(*ast.CompositeLit)
	return ok && types.Identical(l.info.Types[x].Type, types.NewArray(types.Typ[types.Int], 2))
}

func TestWaysOfMail(t *testing.T) {
	l := read(t, "mail")
	for _, name := range []string{"put", "take"} {
		if !l.inside(name, calls("r.write")) || l.inside(name, callsBuiltin("append")) {
			t.Errorf("%s does not write in the list of fixed length", name)
		}
	}
	if !l.inside("write", callsBuiltin("copy")) || !l.inside("slot", goesAround) {
		t.Error("rings are not written by copy, at indexes that go around")
	}
	if !l.inside("Ready", l.makesPair) {
		t.Error("the channels that have messages are not told as a list of arrays")
	}
}

// asksMapOfStructs says whether n asks a map whose keys are structs of two texts.
func (l layer) asksMapOfStructs(n ast.Node) bool {
	x, ok := n.(*ast.IndexExpr)
	if !ok {
		return false
	}
	m, ok := l.info.Types[x.X].Type.Underlying().(*types.Map)
	if !ok {
		return false
	}
	key, ok := m.Key().Underlying().(*types.Struct)
	return ok && key.NumFields() == 2 && types.Identical(key.Field(0).Type(), types.Typ[types.String]) && types.Identical(key.Field(1).Type(), types.Typ[types.String])
}

// leavesRangeByLabel says whether n is a loop over a list, with a label, by which a loop over the list of that name inside leaves it.
func leavesRangeByLabel(inner string) func(ast.Node) bool {
	return func(n ast.Node) bool {
		l, ok := n.(*ast.LabeledStmt)
		if !ok {
			return false
		}
		_, loop := l.Stmt.(*ast.RangeStmt)
		return loop && holds(l, func(n ast.Node) bool {
			r, ok := n.(*ast.RangeStmt)
			return ok && types.ExprString(r.X) == inner && holds(r, func(n ast.Node) bool {
				b, ok := n.(*ast.BranchStmt)
				return ok && b.Tok == token.BREAK && b.Label != nil && b.Label.Name == l.Label.Name
			})
		})
	}
}

// growsList says whether n appends to the list of that name, and makes it that.
func growsList(name string) func(ast.Node) bool {
	return func(n ast.Node) bool {
		a, ok := n.(*ast.AssignStmt)
		if !ok || len(a.Lhs) != 1 || types.ExprString(a.Lhs[0]) != name {
			return false
		}
		call, ok := a.Rhs[0].(*ast.CallExpr)
		return ok && callsBuiltin("append")(call) && types.ExprString(call.Args[0]) == name
	}
}

func TestWaysOfDelta(t *testing.T) {
	l := read(t, "delta")
	if !l.inside("Sum", l.asksMapOfStructs) || !l.inside("Sum", calls("stamp.Print")) {
		t.Error("rows and times are not combined by a map")
	}
	if !l.inside("Of", calls("slices.SortedFunc")) || !l.inside("visit", growsList("h.bases")) || !l.inside("Of", leavesRangeByLabel("h.bases")) {
		t.Error("times are not visited in their order, over a list that grows and is left by a label")
	}
	ranges := func(n ast.Node) bool {
		r, ok := n.(*ast.RangeStmt)
		return ok && types.ExprString(r.X) == "l.list" && holds(r, calls("l.add"))
	}
	if !l.inside("join", ranges) || !l.inside("add", growsList("l.list")) {
		t.Error("joins are not found over a list that grows")
	}
}

// embeds says whether the struct of that name embeds a part.
func (l layer) embeds(name, part string) bool {
	is := func(n ast.Node) bool {
		x, ok := n.(*ast.TypeSpec)
		if !ok || x.Name.Name != name {
			return false
		}
		s, ok := x.Type.(*ast.StructType)
		return ok && slices.ContainsFunc(s.Fields.List, func(f *ast.Field) bool {
			return len(f.Names) == 0 && types.ExprString(f.Type) == part
		})
	}
	return slices.ContainsFunc(l.files, func(f *ast.File) bool { return holds(f, is) })
}

// listsMethodValues says whether n is a list written out, of methods that are bound to something, and are not called there.
func (l layer) listsMethodValues(n ast.Node) bool {
	list, ok := n.(*ast.CompositeLit)
	if !ok || len(list.Elts) == 0 {
		return false
	}
	s, ok := l.info.Types[list].Type.Underlying().(*types.Slice)
	return ok && holdsFunction(s.Elem()) && !slices.ContainsFunc(list.Elts, func(e ast.Expr) bool {
		x, ok := e.(*ast.SelectorExpr)
		return !ok || l.info.Types[x.X].IsType()
	})
}

// rangesOverFunctions says whether n visits the functions of a list, and calls them.
func (l layer) rangesOverFunctions(n ast.Node) bool {
	r, ok := n.(*ast.RangeStmt)
	if !ok {
		return false
	}
	s, ok := l.info.Types[r.X].Type.Underlying().(*types.Slice)
	return ok && holdsFunction(s.Elem()) && holds(r, calls(types.ExprString(r.Value)))
}

func TestWaysOfSpine(t *testing.T) {
	l := read(t, "spine")
	if !l.embeds("pair", "batch") || !l.inside("owed", calls("p.size")) {
		t.Error("a batch is not embedded in the pair that is being merged")
	}
	if !l.inside("Work", l.listsMethodValues) || !l.inside("Work", l.rangesOverFunctions) {
		t.Error("work does not proceed through a list of method values")
	}
}

// visitsHandles says whether n ranges over a map whose keys are handles.
func (l layer) visitsHandles(n ast.Node) bool {
	if !l.rangesOverMap(n) {
		return false
	}
	m := l.info.Types[n.(*ast.RangeStmt).X].Type.Underlying().(*types.Map)
	p, ok := m.Key().(*types.Pointer)
	if !ok {
		return false
	}
	h, ok := p.Elem().(*types.Named)
	return ok && h.Obj().Name() == "Handle"
}

// promoted says whether n asks a handle for a method of that name, which is promoted to it.
func (l layer) promoted(name string) func(ast.Node) bool {
	return func(n ast.Node) bool {
		x, ok := n.(*ast.SelectorExpr)
		if !ok || x.Sel.Name != name || types.ExprString(x.X) != "h" {
			return false
		}
		s := l.info.Selections[x]
		return s != nil && s.Kind() == types.MethodVal && len(s.Index()) > 1
	}
}

func TestWaysOfShare(t *testing.T) {
	l := read(t, "share")
	if !l.inside("settle", l.visitsHandles) {
		t.Error("what the handles hold is not determined by ranging over a map of them")
	}
	if !l.embeds("Handle", "*trace") {
		t.Error("a trace is not embedded in its handles")
	}
	for call, method := range map[string]string{"Next": "upper", "Allow": "settle", "Drop": "settle"} {
		if !l.inside(call, l.promoted(method)) {
			t.Errorf("%s does not call the method %s that is promoted to a handle", call, method)
		}
	}
}

// rangesOverUpdates says whether n visits the updates of a list.
func (l layer) rangesOverUpdates(n ast.Node) bool {
	r, ok := n.(*ast.RangeStmt)
	if !ok {
		return false
	}
	s, ok := l.info.Types[r.X].Type.Underlying().(*types.Slice)
	if !ok {
		return false
	}
	u, ok := s.Elem().(*types.Named)
	return ok && u.Obj().Name() == "Update"
}

// outcomesOf says whether n ranges over what a function tells that is called for one update.
func (l layer) outcomesOf(name string) func(ast.Node) bool {
	return func(n ast.Node) bool {
		return l.rangesOverFunction(n) && calls(name)(n.(*ast.RangeStmt).X)
	}
}

func TestWaysOfLinear(t *testing.T) {
	l := read(t, "linear")
	for _, name := range []string{"Map", "Filter", "Project", "Negate", "Move", "Part"} {
		if !l.inside(name, passesClosure("each")) || l.inside(name, l.rangesOverUpdates) {
			t.Errorf("%s does not pass its operation as a closure to the one function that enumerates updates", name)
		}
	}
	if !l.inside("each", l.rangesOverUpdates) || !l.inside("each", l.outcomesOf("operation")) {
		t.Error("the results for one update are not enumerated by ranging over a function")
	}
}

// methodOf says whether n asks what is written like that for a method of a type of that name.
func (l layer) methodOf(typ, on string) func(ast.Node) bool {
	return func(n ast.Node) bool {
		x, ok := n.(*ast.SelectorExpr)
		if !ok || types.ExprString(x.X) != on {
			return false
		}
		s := l.info.Selections[x]
		if s == nil || s.Kind() != types.MethodVal {
			return false
		}
		p, ok := s.Recv().(*types.Pointer)
		if !ok {
			return false
		}
		named, ok := p.Elem().(*types.Named)
		return ok && named.Obj().Name() == typ
	}
}

func TestWaysOfJoin(t *testing.T) {
	l := read(t, "join")
	for _, side := range []string{"j.left", "j.right"} {
		for _, call := range []string{"Push", "Compact", "Len"} {
			if !l.inside(call, l.methodOf("side", side)) {
				t.Errorf("%s does not call a method of %s", call, side)
			}
		}
		if !l.inside("Push", l.outcomesOf(side+".matches")) {
			t.Errorf("new updates are not matched with %s by ranging over a function", side)
		}
	}
	for _, name := range []string{"group", "add"} {
		if !l.inside(name, l.asksMapOfTexts) {
			t.Errorf("%s does not ask a map by text forms", name)
		}
	}
	if !l.inside("text", calls("row.Print")) {
		t.Error("the texts that sides are searched by are not text forms")
	}
}

// tablesFunctions says whether n is a map written out, whose values are functions.
func (l layer) tablesFunctions(n ast.Node) bool {
	table, ok := n.(*ast.CompositeLit)
	if !ok || len(table.Elts) == 0 {
		return false
	}
	m, ok := l.info.Types[table].Type.Underlying().(*types.Map)
	return ok && holdsFunction(m.Elem())
}

// returnsClosure says whether n hands out a function literal.
func returnsClosure(n ast.Node) bool {
	r, ok := n.(*ast.ReturnStmt)
	if !ok || len(r.Results) == 0 {
		return false
	}
	_, ok = r.Results[0].(*ast.FuncLit)
	return ok
}

// growsWhileRanged says whether n visits the list of that name, and appends to it meanwhile.
func growsWhileRanged(name string) func(ast.Node) bool {
	return func(n ast.Node) bool {
		r, ok := n.(*ast.RangeStmt)
		return ok && types.ExprString(r.X) == name && holds(r, growsList(name))
	}
}

func TestWaysOfReduce(t *testing.T) {
	l := read(t, "reduce")
	if !l.inside("group", l.asksMapOfTexts) || !l.inside("group", calls("row.Print")) {
		t.Error("groups are not in a map, by the text forms of their keys")
	}
	if !l.inside("join", growsWhileRanged("*l")) || !l.inside("join", calls("stamp.Join")) {
		t.Error("the times of a group are not found by a list that grows while it is ranged over")
	}
	if !l.inside("aggregations", l.tablesFunctions) || !l.inside("aggregate", l.asksMapOfFunctions) {
		t.Error("aggregations are not in a table of functions")
	}
	if !l.inside("utmost", returnsClosure) {
		t.Error("no aggregation is a closure")
	}
}
