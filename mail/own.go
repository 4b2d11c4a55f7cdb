package mail

import (
	"strings"

	"penstock/api"
)

// own is a copy of m, which shares no memory with it.
func own(m api.Message) api.Message {
	m.Time = ownTime(m.Time)
	m.Rows = ownUpdates(m.Rows)
	m.Errs = ownUpdates(m.Errs)
	return m
}

func ownUpdates(l []api.Update) []api.Update {
	out := append([]api.Update(nil), l...)
	for i := range out {
		out[i].Row = ownRow(out[i].Row)
		out[i].Time = ownTime(out[i].Time)
	}
	return out
}

func ownRow(r api.Row) api.Row {
	out := append(api.Row(nil), r...)
	for i := range out {
		out[i].Text = strings.Clone(out[i].Text)
	}
	return out
}

func ownTime(t api.Time) api.Time {
	t.Loops = append([]uint32(nil), t.Loops...)
	return t
}
