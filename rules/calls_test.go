package rules

import (
	"penstock/api"
	"penstock/chain"
	"penstock/coord"
	"penstock/datum"
	"penstock/delta"
	"penstock/expr"
	"penstock/flow"
	"penstock/gossip"
	"penstock/join"
	"penstock/lab"
	"penstock/lex"
	"penstock/linear"
	"penstock/lower"
	"penstock/mail"
	"penstock/mir"
	"penstock/names"
	"penstock/opt"
	"penstock/parse"
	"penstock/reduce"
	"penstock/render"
	"penstock/row"
	"penstock/share"
	"penstock/spine"
	"penstock/stamp"
	"penstock/track"
	"penstock/wire"
	"penstock/work"
)

// The calls have exactly the forms that the chapters list: this file is not built where one has another.
var (
	_ func(d api.Datum) api.Errno                           = datum.Check
	_ func(a, b api.Datum) int                              = datum.Cmp
	_ func(a api.Datum) (api.Datum, api.Errno)              = datum.Neg
	_ func(a api.Datum) (api.Datum, api.Errno)              = datum.Length
	_ func(a api.Datum) (api.Datum, api.Errno)              = datum.Not
	_ func(a, b api.Datum) (api.Datum, api.Errno)           = datum.Add
	_ func(a, b api.Datum) (api.Datum, api.Errno)           = datum.Sub
	_ func(a, b api.Datum) (api.Datum, api.Errno)           = datum.Mul
	_ func(a, b api.Datum) (api.Datum, api.Errno)           = datum.Div
	_ func(a, b api.Datum) (api.Datum, api.Errno)           = datum.Mod
	_ func(a, b api.Datum) (api.Datum, api.Errno)           = datum.Concat
	_ func(a, b api.Datum) (api.Datum, api.Errno)           = datum.And
	_ func(a, b api.Datum) (api.Datum, api.Errno)           = datum.Or
	_ func(op uint8, a, b api.Datum) (api.Datum, api.Errno) = datum.Compare
	_ func(d api.Datum) string                              = datum.Print
	_ func(s string) (api.Datum, api.Errno)                 = datum.Parse
)

var (
	_ func(r api.Row) api.Errno                        = row.Check
	_ func(a, b api.Row) int                           = row.Cmp
	_ func(r api.Row, cols []int) (api.Row, api.Errno) = row.Pick
	_ func(r api.Row) ([]byte, api.Errno)              = row.Encode
	_ func(b []byte) (api.Row, api.Errno)              = row.Decode
	_ func(r api.Row, cols []int) uint64               = row.Hash
	_ func(l []api.Counted) []api.Counted              = row.Sum
	_ func(r api.Row) (string, api.Errno)              = row.Print
	_ func(s string) (api.Row, api.Errno)              = row.Parse
)

var (
	_ func(e api.Expr) api.Errno                              = expr.Check
	_ func(e api.Expr, cols []api.Kind) (api.Kind, api.Errno) = expr.Type
	_ func(e api.Expr, r api.Row) (api.Datum, api.Errno)      = expr.Eval
	_ func(e api.Expr) bool                                   = expr.Safe
	_ func(e api.Expr) []int                                  = expr.Columns
	_ func(e api.Expr, cols []int) (api.Expr, api.Errno)      = expr.Turn
	_ func(e api.Expr) string                                 = expr.Print
)

var (
	_ func(t api.Time, depth int) api.Errno              = stamp.Check
	_ func(a, b api.Time) bool                           = stamp.Leq
	_ func(a, b api.Time) int                            = stamp.Cmp
	_ func(a, b api.Time) (api.Time, api.Errno)          = stamp.Join
	_ func(a, b api.Time) (api.Time, api.Errno)          = stamp.Meet
	_ func(p api.Path, t api.Time) (api.Time, api.Errno) = stamp.Apply
	_ func(a, b api.Path) (api.Path, api.Errno)          = stamp.Then
	_ func(a, b api.Path, depth int) bool                = stamp.PathLeq
	_ func(t api.Time) string                            = stamp.Print
)

var (
	_ func(a []api.Time, t api.Time) []api.Time          = chain.Insert
	_ func(l []api.Time) []api.Time                      = chain.Of
	_ func(a []api.Time, t api.Time) bool                = chain.Beyond
	_ func(a, b []api.Time) bool                         = chain.Leq
	_ func(a, b []api.Time) []api.Time                   = chain.Join
	_ func(a []api.Time, t api.Time) api.Time            = chain.Advance
	_ func() *chain.Counts                               = chain.New
	_ func(_ *chain.Counts, l []api.Change) []api.Change = (*chain.Counts).Update
	_ func(_ *chain.Counts) []api.Time                   = (*chain.Counts).Frontier
	_ func(_ *chain.Counts, t api.Time) int64            = (*chain.Counts).Count
)

var (
	_ func(g api.Graph) api.Errno                                  = flow.Check
	_ func(g api.Graph, from, to api.Port) ([]api.Path, api.Errno) = flow.Ways
	_ func(g api.Graph) ([]api.Lead, api.Errno)                    = flow.All
	_ func(g api.Graph, from api.Port) []api.Port                  = flow.Targets
)

var (
	_ func(g api.Graph) (*track.Tracker, api.Errno)              = track.New
	_ func(_ *track.Tracker, l []api.Moved) api.Errno            = (*track.Tracker).Update
	_ func(_ *track.Tracker, p api.Port) ([]api.Time, api.Errno) = (*track.Tracker).Frontier
	_ func(_ *track.Tracker) bool                                = (*track.Tracker).Done
)

var (
	_ func(g api.Graph, workers int) (*gossip.Net, api.Errno)        = gossip.New
	_ func(_ *gossip.Net, w int, l []api.Moved) api.Errno            = (*gossip.Net).Post
	_ func(_ *gossip.Net, from, to int) (bool, api.Errno)            = (*gossip.Net).Deliver
	_ func(_ *gossip.Net, from, to int) int                          = (*gossip.Net).Waiting
	_ func(_ *gossip.Net, w int, p api.Port) ([]api.Time, api.Errno) = (*gossip.Net).Frontier
	_ func(_ *gossip.Net, w int) bool                                = (*gossip.Net).Done
)

var (
	_ func(workers, room int) (*mail.Box, api.Errno)           = mail.New
	_ func(_ *mail.Box, from, to int, m api.Message) api.Errno = (*mail.Box).Send
	_ func(_ *mail.Box, from, to int) (api.Message, api.Errno) = (*mail.Box).Take
	_ func(_ *mail.Box, from, to int) int                      = (*mail.Box).Len
	_ func(_ *mail.Box) [][2]int                               = (*mail.Box).Ready
)

var (
	_ func(l []api.Update) []api.Update                         = delta.Sum
	_ func(l []api.Update, t api.Time) []api.Counted            = delta.At
	_ func(l []api.Update, since []api.Time) []api.Update       = delta.Advance
	_ func(l []api.Update) []api.Time                           = delta.Times
	_ func(times []api.Time, bags [][]api.Counted) []api.Update = delta.Of
)

var (
	_ func() *spine.Spine                                              = spine.New
	_ func(_ *spine.Spine, l []api.Update, upper []api.Time) api.Errno = (*spine.Spine).Insert
	_ func(_ *spine.Spine, fuel int) int                               = (*spine.Spine).Work
	_ func(_ *spine.Spine, since []api.Time) api.Errno                 = (*spine.Spine).Compact
	_ func(_ *spine.Spine) []api.Time                                  = (*spine.Spine).Since
	_ func(_ *spine.Spine) []api.Time                                  = (*spine.Spine).Upper
	_ func(_ *spine.Spine, t api.Time) ([]api.Counted, api.Errno)      = (*spine.Spine).At
	_ func(_ *spine.Spine) []api.Update                                = (*spine.Spine).All
	_ func(_ *spine.Spine, r api.Row) []api.Change                     = (*spine.Spine).Row
	_ func(_ *spine.Spine) []int                                       = (*spine.Spine).Sizes
)

var (
	_ func() *share.Trace                                           = share.New
	_ func(_ *share.Trace, l []api.Update, upper uint64) api.Errno  = (*share.Trace).Insert
	_ func(_ *share.Trace, fuel int) int                            = (*share.Trace).Work
	_ func(_ *share.Trace, since uint64) api.Errno                  = (*share.Trace).Allow
	_ func(_ *share.Trace) uint64                                   = (*share.Trace).Since
	_ func(_ *share.Trace) uint64                                   = (*share.Trace).Upper
	_ func(_ *share.Trace, epoch uint64) ([]api.Counted, api.Errno) = (*share.Trace).At
	_ func(_ *share.Trace, epoch uint64) (*share.Handle, api.Errno) = (*share.Trace).Share
	_ func(_ *share.Trace) int                                      = (*share.Trace).Holds
	_ func(_ *share.Handle) ([]api.Update, uint64, api.Errno)       = (*share.Handle).Next
	_ func(_ *share.Handle) uint64                                  = (*share.Handle).Since
	_ func(_ *share.Handle, since uint64) api.Errno                 = (*share.Handle).Allow
	_ func(_ *share.Handle)                                         = (*share.Handle).Drop
)

var (
	_ func(l []api.Update, exprs []api.Expr) ([]api.Update, []api.Update) = linear.Map
	_ func(l []api.Update, exprs []api.Expr) ([]api.Update, []api.Update) = linear.Filter
	_ func(l []api.Update, cols []int) []api.Update                       = linear.Project
	_ func(l []api.Update) []api.Update                                   = linear.Negate
	_ func(l []api.Update, p api.Path) []api.Update                       = linear.Move
	_ func(l []api.Update, cols []int, workers, w int) []api.Update       = linear.Part
)

var (
	_ func(left, right []int) (*join.Join, api.Errno)           = join.New
	_ func(_ *join.Join, left, right []api.Update) []api.Update = (*join.Join).Push
	_ func(_ *join.Join, since []api.Time)                      = (*join.Join).Compact
	_ func(_ *join.Join) int                                    = (*join.Join).Len
)

var (
	_ func(spec api.Rel, r api.Row) api.Row                                            = reduce.Key
	_ func(spec api.Rel, key api.Row, rows []api.Counted) ([]api.Counted, []api.Fault) = reduce.Group
	_ func(spec api.Rel) (*reduce.Reduce, api.Errno)                                   = reduce.New
	_ func(_ *reduce.Reduce, l []api.Update) []api.Time                                = (*reduce.Reduce).Push
	_ func(_ *reduce.Reduce, frontier []api.Time) ([]api.Update, []api.Update)         = (*reduce.Reduce).Close
	_ func(_ *reduce.Reduce) []api.Time                                                = (*reduce.Reduce).Waits
)

var (
	_ func(s string) ([]api.Token, int, api.Errno) = lex.Lex
	_ func(l []api.Token) (string, api.Errno)      = lex.Join
	_ func(s string) bool                          = lex.Word
	_ func(s string) bool                          = lex.Reserved
)

var (
	_ func(s string) (api.Statement, int, api.Errno) = parse.Parse
	_ func(s string) (api.Term, int, api.Errno)      = parse.ParseTerm
	_ func(x api.Statement) api.Errno                = parse.Check
	_ func(t api.Term) api.Errno                     = parse.CheckTerm
	_ func(x api.Statement) (string, api.Errno)      = parse.Print
	_ func(t api.Term) (string, api.Errno)           = parse.PrintTerm
)

var (
	_ func(q api.Query, cat []api.Table) (api.Plan, api.Errno)               = names.Bind
	_ func(rows [][]api.Term, fields []api.Field) ([][]api.Expr, api.Errno)  = names.Rows
	_ func(t api.Term, fields []api.Field) (api.Expr, api.Errno)             = names.Where
	_ func(cat []api.Table) api.Errno                                        = names.Check
	_ func(cat []api.Table, t api.Table) ([]api.Table, api.Errno)            = names.Create
	_ func(cat []api.Table, name string, view bool) ([]api.Table, api.Errno) = names.Drop
	_ func(cat []api.Table, name string) int                                 = names.Find
	_ func(p api.Plan) []int                                                 = names.Uses
)

var (
	_ func(r api.Rel, of func(id int) int) (int, api.Errno)         = mir.Arity
	_ func(r api.Rel) []int                                         = mir.IDs
	_ func(r api.Rel, of func(id int) api.Bag) (api.Bag, api.Errno) = mir.Eval
	_ func(a, b api.Bag) api.Bag                                    = mir.Add
	_ func(b api.Bag) api.Errno                                     = mir.Wrong
	_ func(r api.Rel) string                                        = mir.Print
)

var (
	_ func(p api.Plan) api.Errno            = lower.Check
	_ func(p api.Plan) (api.Rel, api.Errno) = lower.Of
)

var (
	_ func(r api.Rel) (api.Rel, api.Errno)   = opt.Of
	_ func(e api.Expr) (api.Expr, api.Errno) = opt.Fold
)

var (
	_ func(ops []api.Op, workers, room int) (*work.Run, api.Errno)      = work.New
	_ func(_ *work.Run, id int, l []api.Update) api.Errno               = (*work.Run).Push
	_ func(_ *work.Run, id int, l []api.Update) api.Errno               = (*work.Run).PushErrs
	_ func(_ *work.Run, id int, epoch uint64) api.Errno                 = (*work.Run).Advance
	_ func(_ *work.Run, id int) api.Errno                               = (*work.Run).Close
	_ func(_ *work.Run) []api.Pick                                      = (*work.Run).Ready
	_ func(_ *work.Run, p api.Pick) bool                                = (*work.Run).Step
	_ func(_ *work.Run, id int) ([]api.Time, api.Errno)                 = (*work.Run).Frontier
	_ func(_ *work.Run, id int) ([]api.Update, []api.Update, api.Errno) = (*work.Run).Take
)

var (
	_ func(r api.Rel) ([]api.Op, api.Errno) = render.Of
)

var (
	_ func(workers, room int) (*coord.Engine, api.Errno)             = coord.New
	_ func(_ *coord.Engine, cols []api.Kind) (int, api.Errno)        = (*coord.Engine).Table
	_ func(_ *coord.Engine, r api.Rel) (int, api.Errno)              = (*coord.Engine).View
	_ func(_ *coord.Engine, id int) api.Errno                        = (*coord.Engine).Drop
	_ func(_ *coord.Engine, id int) int                              = (*coord.Engine).Arity
	_ func(_ *coord.Engine, l []api.Write) (uint64, api.Errno)       = (*coord.Engine).Commit
	_ func(_ *coord.Engine) uint64                                   = (*coord.Engine).Now
	_ func(_ *coord.Engine) uint64                                   = (*coord.Engine).Since
	_ func(_ *coord.Engine, since uint64) api.Errno                  = (*coord.Engine).Allow
	_ func(_ *coord.Engine, id int) ([]api.Counted, api.Errno)       = (*coord.Engine).Rows
	_ func(_ *coord.Engine, r api.Rel, at uint64) (int, api.Errno)   = (*coord.Engine).Ask
	_ func(_ *coord.Engine, n int) ([]api.Counted, bool, api.Errno)  = (*coord.Engine).Answer
	_ func(_ *coord.Engine, r api.Rel, at uint64) (int, api.Errno)   = (*coord.Engine).Follow
	_ func(_ *coord.Engine, n int) ([]api.Update, uint64, api.Errno) = (*coord.Engine).News
	_ func(_ *coord.Engine, n int) api.Errno                         = (*coord.Engine).End
	_ func(_ *coord.Engine, n int)                                   = (*coord.Engine).Fuel
	_ func(_ *coord.Engine) int                                      = (*coord.Engine).Ready
	_ func(_ *coord.Engine, k int) bool                              = (*coord.Engine).Step
)

var (
	_ func(workers, room int) (*wire.Server, api.Errno)     = wire.New
	_ func(_ *wire.Server, session int, b []byte) api.Errno = (*wire.Server).Feed
	_ func(_ *wire.Server, session int) ([]byte, api.Errno) = (*wire.Server).Take
	_ func(_ *wire.Server, session int) api.Errno           = (*wire.Server).Close
	_ func(_ *wire.Server)                                  = (*wire.Server).News
	_ func(_ *wire.Server) uint64                           = (*wire.Server).Now
	_ func(_ *wire.Server, since uint64) api.Errno          = (*wire.Server).Allow
	_ func(_ *wire.Server, n int)                           = (*wire.Server).Fuel
	_ func(_ *wire.Server) int                              = (*wire.Server).Ready
	_ func(_ *wire.Server, k int) bool                      = (*wire.Server).Step
)

var (
	_ func(script string) (string, int, api.Errno) = lab.Run
)
