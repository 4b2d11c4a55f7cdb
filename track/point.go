package track

import "penstock/api"

// point is a place and a time, as a key: the counters beyond the time's depth are 0. The depth need not be told, since it is the place's.
type point struct {
	at    api.Port
	epoch uint64
	loops [api.MaxLoops]uint32
}

func pointOf(x api.Point) point {
	p := point{at: x.At, epoch: x.Time.Epoch}
	copy(p.loops[:], x.Time.Loops)
	return p
}

func (p point) time(depth int) api.Time {
	return api.Time{Epoch: p.epoch, Loops: p.loops[:depth]}
}

func isPlace(g api.Graph, p api.Port) bool {
	if p.Node < 0 || p.Node >= len(g.Nodes) || p.Port < 0 {
		return false
	}
	if p.Out {
		return p.Port < g.Nodes[p.Node].Outs
	}
	return p.Port < g.Nodes[p.Node].Ins
}

// depthAt is the depth of the times at a place of g.
//
// All inner paths of a node lead to one depth: if there are several, or other inputs or outputs, to the node's.
func depthAt(g api.Graph, p api.Port) int {
	n := g.Nodes[p.Node]
	if p.Out && len(n.Inner) > 0 {
		way := n.Inner[0].Path
		return n.Depth - way.Leave + len(way.Enter)
	}
	return n.Depth
}
