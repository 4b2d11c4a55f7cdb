package linear

import (
	"iter"
	"slices"
	"strings"

	"penstock/api"
)

// outcome ranges over what one update comes to: updates, each with OK, or an error.
type outcome = iter.Seq2[api.Update, api.Errno]

// each is what an operation makes of updates, one after the other, and the errors, as updates. The operation need not copy anything: what is collected becomes new memory here.
func each(l []api.Update, operation func(u api.Update) outcome) ([]api.Update, []api.Update) {
	var out, errs []api.Update
	for _, u := range l {
		for made, e := range operation(u) {
			if e == api.OK {
				out = append(out, fresh(made))
			} else {
				errs = append(errs, fresh(api.Update{Row: number(e), Time: u.Time, Diff: u.Diff}))
			}
		}
	}
	return out, errs
}

// number is an error as a row.
func number(e api.Errno) api.Row { return api.Row{{Kind: api.KindInt, Int: int64(e)}} }

func none(yield func(api.Update, api.Errno) bool) {}

func one(u api.Update) outcome {
	return func(yield func(api.Update, api.Errno) bool) { yield(u, api.OK) }
}

func failed(e api.Errno) outcome {
	return func(yield func(api.Update, api.Errno) bool) { yield(api.Update{}, e) }
}

// fresh is u in memory of its own; so are its texts.
func fresh(u api.Update) api.Update {
	data := make(api.Row, len(u.Row))
	for i, d := range u.Row {
		d.Text = strings.Clone(d.Text)
		data[i] = d
	}
	return api.Update{Row: data, Time: api.Time{Epoch: u.Time.Epoch, Loops: slices.Concat(u.Time.Loops)}, Diff: u.Diff}
}
