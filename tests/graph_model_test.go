package tests

import (
	"regexp"
	"slices"
	"sort"

	"loop.example/g00145/impl"
)

// The chapter said a second time, plainly, for comparison over many graphs.

var modelName = regexp.MustCompile(`\A[a-zA-Z]{1,12}\z`)

// modelGraphFaults asks every question of the graph by itself; a code's answer counts only where all ahead of it say no.
func modelGraphFaults(g []impl.Node) map[int]bool {
	found, names := map[int]bool{}, map[string]bool{}
	for _, n := range g {
		next := map[int]bool{}
		found[impl.GraphName] = found[impl.GraphName] || !modelName.MatchString(n.Name)
		found[impl.GraphTwice] = found[impl.GraphTwice] || names[n.Name]
		found[impl.GraphStage] = found[impl.GraphStage] || !modelGoodStage(n.Stage)
		found[impl.GraphCap] = found[impl.GraphCap] || !modelIsIn(3, n.Cap, 8)
		for _, k := range n.Next {
			found[impl.GraphEdge] = found[impl.GraphEdge] || next[k] || !modelIsIn(0, k, len(g)-1)
			next[k] = true
		}
		names[n.Name] = true
	}
	return found
}

// modelReached is what each node leads to by one edge or by many.
func modelReached(g []impl.Node) [][]bool {
	reached := make([][]bool, len(g))
	for k, n := range g {
		reached[k] = make([]bool, len(g))
		for _, next := range n.Next {
			reached[k][next] = true
		}
	}
	for via := range g {
		for from := range g {
			for to := range g {
				reached[from][to] = reached[from][to] || reached[from][via] && reached[via][to]
			}
		}
	}
	return reached
}

func modelCheckGraph(g []impl.Node) int {
	if len(g) == 0 || len(g) > 10 {
		return impl.GraphMany
	}
	found := modelGraphFaults(g)
	for code := impl.GraphName; code <= impl.GraphEdge; code++ {
		if found[code] {
			return code
		}
	}
	for k, row := range modelReached(g) {
		if row[k] {
			return impl.GraphCycle
		}
	}
	return impl.GraphOk
}

func modelOrderOf(g []impl.Node) ([]int, bool) {
	if modelCheckGraph(g) != 0 {
		return nil, false
	}
	lead := make([]int, len(g))
	for _, n := range g {
		for _, next := range n.Next {
			lead[next]++
		}
	}
	var order []int
	for len(order) < len(g) {
		k := slices.Index(lead, 0)
		order = append(order, k)
		lead[k] = -1
		for _, next := range g[k].Next {
			lead[next]--
		}
	}
	return order, true
}

func modelSourcesOf(g []impl.Node) ([]int, bool) {
	if modelCheckGraph(g) != 0 {
		return nil, false
	}
	sources := map[int]bool{}
	for k := range g {
		sources[k] = true
	}
	for _, n := range g {
		for _, next := range n.Next {
			delete(sources, next)
		}
	}
	var list []int
	for k := range g {
		if sources[k] {
			list = append(list, k)
		}
	}
	return list, true
}

// modelWidth goes every way to every end.
func modelWidth(g []impl.Node, node int) int {
	if len(g[node].Next) == 0 {
		return modelFactorOf(g[node].Stage)
	}
	all := 0
	for _, next := range g[node].Next {
		all += modelFactorOf(g[node].Stage) * modelWidth(g, next)
	}
	return all
}

func modelWidestOf(g []impl.Node) (int, bool) {
	if modelCheckGraph(g) != 0 {
		return 0, false
	}
	widest := 0
	for node := range g {
		widest = max(widest, modelWidth(g, node))
	}
	return widest, true
}

func modelRoomOf(g []impl.Node) (int, bool) {
	if modelCheckGraph(g) != 0 {
		return 0, false
	}
	room := 0
	for _, n := range g {
		room += n.Cap
	}
	return room, true
}

// modelEmits follows each value to the ends ahead of the next one.
func modelEmits(g []impl.Node, node, v int) []impl.Emit {
	out, fails, _ := modelApplyStage(g[node].Stage, v)
	if fails {
		out = []int{v}
	}
	var all []impl.Emit
	for _, one := range out {
		if len(g[node].Next) == 0 {
			all = append(all, impl.Emit{Node: node, Value: one})
		}
		for _, next := range g[node].Next {
			all = append(all, modelEmits(g, next, one)...)
		}
	}
	return all
}

func modelMeaningOf(g []impl.Node, node, v int) ([]impl.Emit, bool) {
	widest, good := modelWidestOf(g)
	if !good || widest > 100000 || !modelIsIn(0, node, len(g)-1) || !modelIsValue(v) {
		return nil, false
	}
	return modelSortEmits(modelEmits(g, node, v))
}

func modelSortEmits(l []impl.Emit) ([]impl.Emit, bool) {
	if len(l) > 400 {
		return nil, false
	}
	l = slices.Clone(l)
	sort.Slice(l, func(a, b int) bool {
		return l[a].Node < l[b].Node || l[a].Node == l[b].Node && l[a].Value < l[b].Value
	})
	return l, true
}
