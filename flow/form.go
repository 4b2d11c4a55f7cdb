package flow

import (
	"slices"

	"penstock/api"
)

const (
	maxEdges = 16000
	maxPorts = 8  // inputs of a node, or outputs
	maxInner = 64 // inner paths of a node
)

// formed says whether all parts of g may be, taken one by one.
func formed(g api.Graph) bool {
	if len(g.Nodes) > api.MaxNodes || len(g.Edges) > maxEdges {
		return false
	}
	for _, n := range g.Nodes {
		if !nodeFormed(n) {
			return false
		}
	}
	return !slices.ContainsFunc(g.Edges, func(e api.Edge) bool { return !edgeFormed(g, e) })
}

func nodeFormed(n api.Node) bool {
	if n.Depth < 0 || n.Depth > api.MaxLoops || n.Ins < 0 || n.Ins > maxPorts || n.Outs < 0 || n.Outs > maxPorts || len(n.Inner) > maxInner {
		return false
	}
	return !slices.ContainsFunc(n.Inner, func(i api.Inner) bool { return !innerFormed(n, i) })
}

func innerFormed(n api.Node, i api.Inner) bool {
	switch {
	case i.In < 0 || i.In >= n.Ins || i.Out < 0 || i.Out >= n.Outs:
		return false
	case i.Path.Leave < 0 || i.Path.Leave > n.Depth:
		return false
	case i.Path.Leave == n.Depth && i.Path.Add > 0: // epochs do not increase
		return false
	}
	depth := depthBehind(n, i.Path)
	return depth <= api.MaxLoops && (changesDepth(n) || depth == n.Depth)
}

func edgeFormed(g api.Graph, e api.Edge) bool {
	return e.From.Out && isPlace(g, e.From) && !e.To.Out && isPlace(g, e.To) && depthAt(g, e.From) == depthAt(g, e.To)
}

// changesDepth says whether the times at the output have the depth that the inner path makes.
func changesDepth(n api.Node) bool { return n.Ins == 1 && n.Outs == 1 && len(n.Inner) == 1 }

func depthBehind(n api.Node, p api.Path) int { return n.Depth - p.Leave + len(p.Enter) }

func isPlace(g api.Graph, p api.Port) bool {
	if p.Node < 0 || p.Node >= len(g.Nodes) || p.Port < 0 {
		return false
	}
	if p.Out {
		return p.Port < g.Nodes[p.Node].Outs
	}
	return p.Port < g.Nodes[p.Node].Ins
}

// depthAt is the depth of the times at a place of g.
func depthAt(g api.Graph, p api.Port) int {
	n := g.Nodes[p.Node]
	if p.Out && changesDepth(n) {
		return depthBehind(n, n.Inner[0].Path)
	}
	return n.Depth
}

// places is all of g's, in order: of each node first the inputs.
func places(g api.Graph) []api.Port {
	var out []api.Port
	for i, n := range g.Nodes {
		for k := range n.Ins {
			out = append(out, api.Port{Node: i, Port: k})
		}
		for k := range n.Outs {
			out = append(out, api.Port{Node: i, Out: true, Port: k})
		}
	}
	return out
}
