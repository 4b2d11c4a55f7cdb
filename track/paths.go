package track

import (
	"slices"

	"penstock/api"
	"penstock/flow"
)

// mostPairs bounds how many pairs of a place and an input are kept although nobody has asked for them.
const mostPairs = 1 << 20

// paths is the least paths of a graph, as far as they have been needed.
type paths struct {
	graph api.Graph
	known map[api.Port]map[api.Port][]api.Path // from a place, then to an input
	asked int                                  // of how many pairs the paths were computed one by one
	whole bool                                 // what is not in known has no paths
}

// pathsOf is none of g's paths yet. It keeps a copy of g, since they are computed later.
func pathsOf(g api.Graph) paths {
	own := api.Graph{Nodes: slices.Clone(g.Nodes), Edges: slices.Clone(g.Edges)}
	for i, n := range own.Nodes {
		own.Nodes[i].Inner = slices.Clone(n.Inner)
		for k, x := range own.Nodes[i].Inner {
			own.Nodes[i].Inner[k].Path.Enter = slices.Clone(x.Path.Enter)
		}
	}
	return paths{graph: own, known: map[api.Port]map[api.Port][]api.Path{}}
}

// between is the least paths from a place to an input.
//
// Each call of flow.Ways looks at the whole graph. Where it has been asked as often as there are nodes, it costs no more to ask flow.All once for what is left.
func (p *paths) between(from, to api.Port) []api.Path {
	if l, known := p.known[from][to]; known || p.whole {
		return l
	}
	if p.asked >= len(p.graph.Nodes) && pairs(p.graph) <= mostPairs {
		p.learnAll()
		return p.known[from][to]
	}
	p.asked++
	l, _ := flow.Ways(p.graph, from, to) // no error: the graph has been checked, and the places are its own
	p.keep(from, to, l)
	return l
}

func (p *paths) learnAll() {
	leads, _ := flow.All(p.graph)
	for _, x := range leads {
		p.keep(x.From, x.To, x.Ways)
	}
	p.whole = true
}

func (p *paths) keep(from, to api.Port, l []api.Path) {
	if p.known[from] == nil {
		p.known[from] = map[api.Port][]api.Path{}
	}
	p.known[from][to] = l
}

// pairs is how many pairs of a place and an input g has.
func pairs(g api.Graph) int {
	ins, outs := 0, 0
	for _, n := range g.Nodes {
		ins += n.Ins
		outs += n.Outs
	}
	return (ins + outs) * ins
}
