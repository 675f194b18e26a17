package measure

import (
	"slices"

	"culprit/api"
	"culprit/code"
	"culprit/machine"
	"culprit/play"
	"culprit/ratio"
)

const goesOn = -1 // the outcome of a run that is not over

// A graph has the states that can be reached, without their costs, and the
// alternatives that lead from one to another.
type graph struct {
	code    code.Code
	env     api.Env
	most    int // states that it may have
	nodes   []node
	numbers map[string]int // of the nodes, by the encodings of their states
}

// A node is a state, and the alternatives that lead to it.
type node struct {
	state machine.State
	from  []edge
}

// An edge is an alternative: the number of the node at which it is one, its
// measure, and what it adds to the cost of a run.
type edge struct {
	from int
	part api.Ratio
	cost api.Cost
}

// Costs have the measures of all that runs do until they come to a state, by
// the costs that they have there.
type costs map[api.Cost]api.Ratio

// A way is how a run ends, and with which cost: the outcome, the number of the
// name where, the site, the steps, the allocs and the waits.
type way [6]int

// Whole returns the shares of a test, and how many states can be reached.
func Whole(c code.Code, e api.Env, left []api.Cell, most int) ([]Share, int, api.Errno) {
	first, f := machine.Start(c, e, left)
	if f != api.OK {
		return nil, 0, f
	}
	if most < 1 || most > api.MaxGraph {
		return nil, 0, api.ErrRange
	}
	g := graph{code: c, env: e, most: most, numbers: map[string]int{}}
	if f := g.explore(first); f != api.OK {
		return nil, 0, f
	}
	return g.shares(first.Cost), len(g.nodes), api.OK
}

// explore finds the states that can be reached from a first one.
func (g *graph) explore(first machine.State) api.Errno {
	_, e := g.reach(first)
	for n := 0; e == api.OK && n < len(g.nodes); n++ {
		e = g.follow(n)
	}
	return e
}

// reach returns the number of the node of a state.
func (g *graph) reach(s machine.State) (int, api.Errno) {
	s.Cost = api.Cost{}
	key := string(machine.Encode(s))
	if n, known := g.numbers[key]; known {
		return n, api.OK
	}
	n := len(g.nodes)
	if n == g.most {
		return 0, api.ErrLimit
	}
	g.numbers[key] = n
	g.nodes = append(g.nodes, node{state: s})
	return n, api.OK
}

// follow reaches the states to which the alternatives at a node lead.
func (g *graph) follow(n int) api.Errno {
	s := g.nodes[n].state
	if s.Outcome != goesOn {
		return api.OK
	}
	p, e := machine.Next(g.code, g.env, s)
	if e != api.OK {
		return e
	}
	for k := range p.Parts {
		behind, _, e := machine.Do(g.code, g.env, s, k)
		if e != api.OK {
			return e
		}
		to, e := g.reach(behind)
		if e != api.OK {
			return e
		}
		x := edge{from: n, part: partOf(p, k), cost: behind.Cost}
		g.nodes[to].from = append(g.nodes[to].from, x)
	}
	return api.OK
}

// partOf returns the measure of an alternative at a point.
func partOf(p machine.Point, k int) api.Ratio {
	sum := 0
	for _, n := range p.Parts {
		sum += n
	}
	r, _ := ratio.Of(p.Parts[k], sum) // parts are positive
	return r
}

// shares returns the shares of the test, with the cost of the first state.
func (g *graph) shares(first api.Cost) []Share {
	names := append([]string{""}, g.code.Names...)
	var l []Share
	for w, r := range g.ends(first, names) {
		cost := api.Cost{Steps: w[3], Allocs: w[4], Waits: w[5]}
		l = append(l, Share{Outcome: w[0], Where: names[w[1]], Site: w[2], Cost: cost, Part: r})
	}
	slices.SortFunc(l, order)
	return l
}

// ends returns the measures of the ways in which runs end. No number here is
// too large: runs have at most 128 alternatives, and the denominators of the
// measures of these divide 240; so 240 to the power of 128, which is less than
// 2 to the power of 1013, is a common denominator of all.
func (g *graph) ends(first api.Cost, names []string) map[way]api.Ratio {
	found := make([]costs, len(g.nodes))
	found[0] = costs{first: one()}
	var find func(n int) costs // it ends, as no run comes to a state twice
	find = func(n int) costs {
		if found[n] != nil {
			return found[n]
		}
		here := costs{}
		for _, x := range g.nodes[n].from {
			for cost, r := range find(x.from) {
				r, _ = ratio.Mul(r, x.part)
				cost = plus(cost, x.cost)
				here[cost], _ = ratio.Add(here[cost], r)
			}
		}
		found[n] = here
		return here
	}
	parts := map[way]api.Ratio{}
	for n, x := range g.nodes {
		if x.state.Outcome == goesOn {
			continue
		}
		where := slices.Index(names, x.state.Where)
		for cost, r := range find(n) {
			w := way{x.state.Outcome, where, x.state.Site, cost.Steps, cost.Allocs, cost.Waits}
			parts[w], _ = ratio.Add(parts[w], r)
		}
	}
	return parts
}

func plus(a, b api.Cost) api.Cost {
	return api.Cost{Steps: a.Steps + b.Steps, Allocs: a.Allocs + b.Allocs, Waits: a.Waits + b.Waits}
}

// Of returns the measure of the run by a word.
func Of(c code.Code, e api.Env, left []api.Cell, word []int) (api.Ratio, api.Errno) {
	r, f := play.Play(c, e, left, word)
	if f != api.OK {
		return api.Ratio{}, f
	}
	part := one()
	for _, m := range r.Moves {
		part, _ = ratio.Mul(part, partOf(m.Point, m.K)) // nothing is too large, as in ends
	}
	return part, api.OK
}
