package mail_test

import (
	"math/rand/v2"
	"testing"

	"penstock/api"
	"penstock/mail"
)

// plain is channels as lists that grow at one end and shrink at the other one.
type plain struct {
	workers, room int
	lists         map[[2]int][]api.Message
}

func (p *plain) known(from, to int) bool {
	return from >= 0 && from < p.workers && to >= 0 && to < p.workers
}

func (p *plain) send(from, to int, m api.Message) api.Errno {
	pair := [2]int{from, to}
	switch {
	case !p.known(from, to):
		return api.ErrMailForm
	case len(p.lists[pair]) == p.room:
		return api.ErrFull
	}
	p.lists[pair] = append(p.lists[pair], m)
	return api.OK
}

func (p *plain) take(from, to int) (api.Message, api.Errno) {
	l := p.lists[[2]int{from, to}]
	switch {
	case !p.known(from, to):
		return api.Message{}, api.ErrMailForm
	case len(l) == 0:
		return api.Message{}, api.ErrMailNone
	}
	p.lists[[2]int{from, to}] = l[1:]
	return l[0], api.OK
}

// sameAsPlain holds what a box answers of its channels against the model.
func sameAsPlain(t *testing.T, b *mail.Box, p *plain) {
	t.Helper()
	var want [][2]int
	for from := -1; from <= p.workers; from++ {
		for to := -1; to <= p.workers; to++ {
			n := len(p.lists[[2]int{from, to}])
			length(t, b, from, to, n)
			if n > 0 {
				want = append(want, [2]int{from, to})
			}
		}
	}
	ready(t, b, want...)
}

// Boxes of all sizes, with more sent than taken for a while, and then the other way round.
func TestBoxesByChance(t *testing.T) {
	r := rand.New(rand.NewPCG(9, 9))
	refused := map[api.Errno]int{}
	for range 60 {
		p := &plain{workers: 1 + r.IntN(api.MaxWorkers), room: 1 + r.IntN(4), lists: map[[2]int][]api.Message{}}
		if r.IntN(5) == 0 {
			p.room = 1 + r.IntN(api.MaxMail)
		}
		b := box(t, p.workers, p.room)
		rounds := 12 * p.workers * p.workers * p.room
		for i := range min(rounds, 3000) {
			from, to := r.IntN(p.workers), r.IntN(p.workers)
			if r.IntN(20) == 0 {
				from, to = r.IntN(p.workers+2)-1, r.IntN(p.workers+2)-1
			}
			if (r.IntN(3) == 0) == (i/100%2 == 0) {
				got, e := b.Take(from, to)
				want, f := p.take(from, to)
				refused[f]++
				if e != f || !same(got, want) {
					t.Fatalf("Take(%d, %d) = %v, %v, want %v, %v", from, to, got, e, want, f)
				}
			} else {
				f := p.send(from, to, message(i))
				refused[f]++
				sends(t, b, from, to, message(i), f)
			}
			sameAsPlain(t, b, p)
		}
	}
	for _, e := range []api.Errno{api.OK, api.ErrFull, api.ErrMailForm, api.ErrMailNone} {
		if refused[e] < 100 {
			t.Errorf("%v came only %d times", e, refused[e])
		}
	}
}
