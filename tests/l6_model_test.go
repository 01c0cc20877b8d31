package tests

import (
	"fmt"
	"math/rand"
	"slices"

	"loop.example/s01136/impl"
)

// asked is a path as a tree of its own, with the choice of a plan at every node.
type asked struct {
	kind   int64
	s, t   string
	kids   []*asked
	choice int64
}

func all() *asked                    { return &asked{kind: impl.PAll} }
func one(s string) *asked            { return &asked{kind: impl.POne, s: s} }
func (a *asked) out(s string) *asked { return &asked{kind: impl.POut, s: s, kids: []*asked{a}} }
func (a *asked) in(s string) *asked  { return &asked{kind: impl.PIn, s: s, kids: []*asked{a}} }
func (a *asked) has(s, t string) *asked {
	return &asked{kind: impl.PHas, s: s, t: t, kids: []*asked{a}}
}
func (a *asked) and(b *asked) *asked { return &asked{kind: impl.PAnd, kids: []*asked{a, b}} }
func (a *asked) or(b *asked) *asked  { return &asked{kind: impl.POr, kids: []*asked{a, b}} }
func (a *asked) not(b *asked) *asked { return &asked{kind: impl.PNot, kids: []*asked{a, b}} }
func graph(s string, a *asked) *asked {
	return &asked{kind: impl.PGraph, s: s, kids: []*asked{a}}
}

// clone shares no node with the tree.
func (a *asked) clone() *asked {
	c := *a
	c.kids = nil
	for _, kid := range a.kids {
		c.kids = append(c.kids, kid.clone())
	}
	return &c
}

// postfix are the nodes in the order of a path.
func (a *asked) postfix() []*asked {
	var nodes []*asked
	for _, kid := range a.kids {
		nodes = append(nodes, kid.postfix()...)
	}
	return append(nodes, a)
}

func (a *asked) path() impl.Path {
	var p impl.Path
	for _, n := range a.postfix() {
		p.Nodes = append(p.Nodes, impl.PNode{Kind: n.kind, S: n.s, T: n.t})
	}
	return p
}

func (a *asked) plan() []int64 {
	var plan []int64
	for _, n := range a.postfix() {
		plan = append(plan, n.choice)
	}
	return plan
}

func (a *asked) height() int {
	height := 0
	for _, kid := range a.kids {
		height = max(height, kid.height())
	}
	return height + 1
}

// print tells the rules of 6.3 one by one.
func (a *asked) print() string {
	bracketed := func(kid *asked, when ...int64) string {
		if slices.Contains(when, kid.kind) {
			return "(" + kid.print() + ")"
		}
		return kid.print()
	}
	switch a.kind {
	case impl.PAll:
		return "all"
	case impl.POne:
		return "v(" + quote(a.s) + ")"
	case impl.PGraph:
		return "graph " + quote(a.s) + " (" + a.kids[0].print() + ")"
	case impl.PAnd:
		return bracketed(a.kids[0], impl.POr, impl.PNot) + " & " + bracketed(a.kids[1], impl.POr, impl.PNot, impl.PAnd)
	case impl.POr:
		return bracketed(a.kids[0]) + " | " + bracketed(a.kids[1], impl.POr, impl.PNot)
	case impl.PNot:
		return bracketed(a.kids[0]) + " - " + bracketed(a.kids[1], impl.POr, impl.PNot)
	}
	x := bracketed(a.kids[0], impl.PAnd, impl.POr, impl.PNot)
	switch a.kind {
	case impl.POut:
		return x + ".out(" + quote(a.s) + ")"
	case impl.PIn:
		return x + ".in(" + quote(a.s) + ")"
	}
	return x + ".has(" + quote(a.s) + ", " + quote(a.t) + ")"
}

func quote(text string) string {
	told := `"`
	for i := range len(text) {
		c := text[i]
		switch {
		case c == '"':
			told += `\"`
		case c == '\\':
			told += `\\`
		case c < 32 || c > 126:
			told += fmt.Sprintf(`\x%02x`, c)
		default:
			told += string(rune(c))
		}
	}
	return told + `"`
}

// drawer draws paths of a few texts.
type drawer struct {
	r     *rand.Rand
	terms []string
}

func (w drawer) term() string { return w.terms[w.r.Intn(len(w.terms))] }

// path draws a path of at most so many nodes.
func (w drawer) path(nodes int) *asked {
	switch kind := w.r.Intn(10); {
	case nodes >= 3 && kind < 4:
		left := 1 + w.r.Intn(nodes-2)
		a, b := w.path(left), w.path(nodes-1-left)
		return []*asked{a.and(b), a.and(b), a.or(b), a.not(b)}[kind]
	case nodes >= 2 && kind < 9:
		x := w.path(nodes - 1)
		return []*asked{x.out(w.term()), x.in(w.term()), x.has(w.term(), w.term()), graph(w.term(), x), x.out(w.term())}[kind%5]
	case w.r.Intn(2) == 0:
		return all()
	}
	return one(w.term())
}

// soundPath says by another way whether a path is valid: it is read from its last node on.
func soundPath(p impl.Path) bool {
	if len(p.Nodes) > 100 {
		return false
	}
	height, rest := readBack(p.Nodes)
	return rest == 0 && height >= 1 && height <= 64
}

// readBack gives the height of the tree at the end of the nodes, and how many nodes stand ahead of it; the height is 0
// if there is none.
func readBack(nodes []impl.PNode) (int, int) {
	if len(nodes) == 0 {
		return 0, 0
	}
	rest := len(nodes) - 1
	n := nodes[rest]
	// How many operands, and what lengths S and T may have.
	rules := map[int64][3]int{
		1: {0, 0, 0}, 2: {0, 30, 0}, 3: {1, 30, 0}, 4: {1, 30, 0}, 5: {1, 30, 30}, 6: {2, 0, 0}, 7: {2, 0, 0}, 8: {2, 0, 0}, 9: {1, 30, 0},
	}
	rule, ok := rules[n.Kind]
	if !ok || len(n.S) > rule[1] || len(n.T) > rule[2] || n.S == "" && rule[1] > 0 || n.T == "" && rule[2] > 0 {
		return 0, 0
	}
	height := 0
	for range rule[0] {
		var below int
		below, rest = readBack(nodes[:rest])
		if below == 0 {
			return 0, 0
		}
		height = max(height, below)
	}
	return height + 1, rest
}

// counting are the facts that count in a context, which is none if it is nil.
func counting(facts []impl.Fact, label *string) []impl.Fact {
	var found []impl.Fact
	for _, f := range facts {
		if label == nil || *label == f.G {
			found = append(found, f)
		}
	}
	return found
}

// distinct sorts texts and leaves out what is there twice.
func distinct(texts []string) []string {
	slices.Sort(texts)
	return slices.Compact(texts)
}

// means tells the meaning by lists.
func (a *asked) means(facts []impl.Fact, label *string) []string {
	if a.kind == impl.PGraph {
		return a.kids[0].means(facts, &a.s)
	}
	var of [][]string
	for _, kid := range a.kids {
		of = append(of, kid.means(facts, label))
	}
	var found []string
	for _, f := range counting(facts, label) {
		switch a.kind {
		case impl.PAll:
			found = append(found, f.S, f.O)
		case impl.POne:
			if f.S == a.s || f.O == a.s {
				found = append(found, a.s)
			}
		case impl.POut:
			if f.P == a.s && slices.Contains(of[0], f.S) {
				found = append(found, f.O)
			}
		case impl.PIn:
			if f.P == a.s && slices.Contains(of[0], f.O) {
				found = append(found, f.S)
			}
		case impl.PHas:
			if f.P == a.s && f.O == a.t && slices.Contains(of[0], f.S) {
				found = append(found, f.S)
			}
		}
	}
	if len(of) == 2 {
		for _, term := range slices.Concat(of...) {
			inLeft, inRight := slices.Contains(of[0], term), slices.Contains(of[1], term)
			if a.kind == impl.POr || a.kind == impl.PAnd && inLeft && inRight || a.kind == impl.PNot && inLeft && !inRight {
				found = append(found, term)
			}
		}
	}
	return distinct(found)
}

// books are facts, and the terms that a dictionary has beside those of the facts.
type books struct {
	facts []impl.Fact
	more  []string
}

func (b books) terms() []string {
	terms := slices.Clone(b.more)
	for _, f := range b.facts {
		terms = append(terms, f.S, f.P, f.O, f.G)
	}
	return distinct(terms)
}

// world lays out the dictionary and the index of the facts; the numbers do not ascend as the texts do.
func (b books) world(r *rand.Rand) (impl.Dict, impl.Index) {
	terms := b.terms()
	d := impl.Dict{Next: int64(3*len(terms) + 2)}
	ids := map[string]int64{}
	for i, at := range r.Perm(len(terms)) {
		ids[terms[i]] = int64(3*at + 1)
	}
	for _, text := range terms {
		d.Terms = append(d.Terms, impl.Term{Id: ids[text], Text: text, Refs: 1 + int64(r.Intn(9))})
	}
	m := newSixLevels()
	put := map[impl.Fact]bool{}
	for _, i := range r.Perm(len(b.facts)) {
		f := b.facts[i]
		if !put[f] {
			m.insert(impl.Quad{S: ids[f.S], P: ids[f.P], O: ids[f.O], G: ids[f.G]})
		}
		put[f] = true
	}
	return d, m.index()
}

// count is how many facts have the texts that are not empty, in a context.
func (b books) count(like impl.Fact, label *string) int64 {
	n := int64(0)
	for _, f := range counting(b.facts, label) {
		if (like.S == "" || like.S == f.S) && (like.P == "" || like.P == f.P) && (like.O == "" || like.O == f.O) {
			n++
		}
	}
	return n
}

// reads tells what a plan reads, by 6.4 but for the orders; it gives the terms of the node too.
func (a *asked) reads(b books, label *string) ([]string, int64) {
	known := func(text string) bool { return slices.Contains(b.terms(), text) }
	switch a.kind {
	case impl.PAll:
		return a.means(b.facts, label), b.count(impl.Fact{}, label)
	case impl.POne:
		return a.means(b.facts, label), 0
	case impl.PGraph:
		return a.kids[0].reads(b, &a.s)
	case impl.PAnd, impl.POr, impl.PNot:
		order := []*asked{a.kids[0], a.kids[1]}
		if a.kind == impl.PAnd && a.choice == 1 {
			slices.Reverse(order)
		}
		first, n := order[0].reads(b, label)
		if len(first) > 0 || a.kind == impl.POr {
			_, more := order[1].reads(b, label)
			n += more
		}
		return a.means(b.facts, label), n
	}
	if !known(a.s) || a.kind == impl.PHas && !known(a.t) {
		return nil, 0
	}
	x, n := a.kids[0].reads(b, label)
	if a.choice >= 6 {
		return a.means(b.facts, label), n + b.count(impl.Fact{P: a.s, O: a.t}, label)
	}
	for _, v := range x {
		like := impl.Fact{S: v, P: a.s, O: a.t}
		if a.kind == impl.PIn {
			like = impl.Fact{O: v, P: a.s}
		}
		n += b.count(like, label)
	}
	return a.means(b.facts, label), n
}

// choices are those of 6.4 for a node, worked out by hand.
func (a *asked) choices(bound bool) []int64 {
	free := map[int64][]int64{
		impl.PAll: {0, 1, 2, 3, 4, 5}, impl.POut: {0, 7}, impl.PIn: {1, 7}, impl.PHas: {0, 1, 2, 7}, impl.PAnd: {0, 1},
	}
	inGraph := map[int64][]int64{
		impl.PAll: {3, 4, 5}, impl.POut: {3, 10}, impl.PIn: {4, 10}, impl.PHas: {0, 1, 2, 3, 4, 5, 10}, impl.PAnd: {0, 1},
	}
	list := free[a.kind]
	if bound {
		list = inGraph[a.kind]
	}
	if list == nil {
		list = []int64{0}
	}
	return list
}

// allChoices are the choices of every node, in the order of the path.
func (a *asked) allChoices(bound bool) [][]int64 {
	var lists [][]int64
	for _, kid := range a.kids {
		lists = append(lists, kid.allChoices(bound || a.kind == impl.PGraph)...)
	}
	return append(lists, a.choices(bound))
}

// setPlan gives the nodes the choices of a plan.
func (a *asked) setPlan(plan []int64) {
	for i, n := range a.postfix() {
		n.choice = plan[i]
	}
}

// settle gives every node the choice that DefaultPlan is to make, and tells the estimate.
func (a *asked) settle(b books, label *string) int64 {
	below := label
	if a.kind == impl.PGraph {
		below = &a.s
	}
	var of []int64
	for _, kid := range a.kids {
		of = append(of, kid.settle(b, below))
	}
	// The smallest order of way 0, and the choice of way 1.
	first := map[int64]int64{impl.PIn: 1}[a.kind]
	second := int64(7)
	if label != nil {
		first = map[int64]int64{impl.PAll: 3, impl.POut: 3, impl.PIn: 4, impl.PHas: 0}[a.kind]
		second = 10
	}
	a.choice = 0
	switch a.kind {
	case impl.PAll:
		a.choice = first
		return 2 * b.count(impl.Fact{}, label)
	case impl.POne:
		return 1
	case impl.PAnd:
		if of[0] > of[1] {
			a.choice = 1
		}
		return min(of[0], of[1])
	case impl.POr:
		return of[0] + of[1]
	case impl.PNot, impl.PGraph:
		return of[0]
	}
	n := b.count(impl.Fact{P: a.s, O: a.t}, label)
	a.choice = second
	if of[0] < n {
		a.choice = first
	}
	if a.kind == impl.PHas {
		return min(of[0], n)
	}
	return n
}

func (a *asked) String() string {
	return fmt.Sprintf("%s with %v", a.print(), a.plan())
}
