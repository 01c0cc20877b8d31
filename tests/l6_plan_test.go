package tests

import (
	"fmt"
	"math"
	"math/rand"
	"slices"
	"strings"
	"testing"

	"loop.example/s01136/impl"
)

// Promise 8: for a valid path, dictionary and index that fit together, every plan with a choice as 6.4 says for each
// node gives the same Terms, those of Meaning over the facts of the quads.
// Promise 9: DefaultPlan is a plan with eligible choices for every valid path, dictionary and index.

// fact takes its four texts with a space between.
func fact(told string) impl.Fact {
	texts := strings.Fields(told)
	return impl.Fact{S: texts[0], P: texts[1], O: texts[2], G: texts[3]}
}

func factsOf(told ...string) []impl.Fact {
	var facts []impl.Fact
	for _, one := range told {
		facts = append(facts, fact(one))
	}
	return facts
}

// drawnBooks has facts of few texts, and terms that are in none of them.
func drawnBooks(r *rand.Rand, n int) books {
	letters := []string{"a", "b", "c", "d", "p", "q", "g", "h"}
	draw := func(from, to int) string { return letters[from+r.Intn(to-from)] }
	b := books{more: []string{"unused", "b"}}
	for range n {
		f := impl.Fact{S: draw(0, 5), P: draw(4, 6), O: draw(0, 5), G: draw(6, 8)}
		if r.Intn(6) == 0 {
			f = impl.Fact{S: draw(0, 8), P: draw(0, 8), O: draw(0, 8), G: draw(0, 8)}
		}
		if !slices.Contains(b.facts, f) {
			b.facts = append(b.facts, f)
		}
	}
	return b
}

// asksOf draws from the texts of drawnBooks, and from two that it never has.
func asksOf(r *rand.Rand) drawer {
	return drawer{r: r, terms: []string{"a", "b", "c", "d", "p", "p", "p", "q", "g", "g", "h", "unused", "nowhere", "z"}}
}

// checkMeaning holds Meaning against the lists.
func checkMeaning(t *testing.T, a *asked, facts []impl.Fact) {
	t.Helper()
	p := a.path()
	wasPath, wasFacts := clonePath(p), slices.Clone(facts)
	want := a.means(facts, nil)
	got := impl.Meaning(p, facts)
	if !slices.Equal(got, want) {
		t.Fatalf("%s means %q, not %q, over %v", a.print(), got, want, facts)
	}
	if !samePath(p, wasPath) || !slices.Equal(facts, wasFacts) {
		t.Fatalf("%s: an argument is changed", a.print())
	}
}

// checkRun holds what RunPlan makes of the plan in the tree against the facts.
func checkRun(t *testing.T, a *asked, b books, d impl.Dict, ix impl.Index) {
	t.Helper()
	terms, reads := a.reads(b, nil)
	got := impl.RunPlan(a.path(), d, ix, a.plan())
	if got.Err != impl.RunOk || !slices.Equal(got.Terms, terms) || got.Reads != reads {
		t.Fatalf("%v: %+v, not %q with %d reads, over %v", a, got, terms, reads, b.facts)
	}
	if !slices.Equal(got.Terms, impl.Meaning(a.path(), b.facts)) {
		t.Fatalf("%v: %+v is not the meaning over %v", a, got, b.facts)
	}
}

// everyPlan goes through the plans of the lists of choices, at most so many.
func everyPlan(r *rand.Rand, lists [][]int64, most int, do func(plan []int64)) {
	count := 1
	for _, list := range lists {
		if count *= len(list); count > most {
			break
		}
	}
	plan := make([]int64, len(lists))
	for n := range min(count, most) {
		left := n
		for i, list := range lists {
			if count > most {
				left = r.Int()
			}
			plan[i] = list[left%len(list)]
			left /= len(list)
		}
		do(slices.Clone(plan))
	}
}

// checkPlans runs the plans of a path, and holds the default plan against the estimates.
func checkPlans(t *testing.T, r *rand.Rand, a *asked, b books, most int) {
	t.Helper()
	d, ix := b.world(r)
	lists := a.allChoices(false)
	checkMeaning(t, a, b.facts)
	everyPlan(r, lists, most, func(plan []int64) {
		a.setPlan(plan)
		checkRun(t, a, b, d, ix)
	})
	checkDefault(t, a, b, d, ix)
	checkRun(t, a, b, d, ix)
	for i, choice := range a.plan() {
		if !slices.Contains(lists[i], choice) {
			t.Fatalf("%v: choice %d is not eligible", a, i)
		}
	}
}

// checkDefault leaves the default plan in the tree.
func checkDefault(t *testing.T, a *asked, b books, d impl.Dict, ix impl.Index) {
	t.Helper()
	a.settle(b, nil)
	if got := impl.DefaultPlan(a.path(), d, ix); !slices.Equal(got, a.plan()) {
		t.Fatalf("%v: the default plan is %v, over %v", a, got, b.facts)
	}
}

func TestP8P9DrawnPaths(t *testing.T) {
	r := rand.New(rand.NewSource(80))
	found, empty := 0, 0
	for range 1500 {
		b := drawnBooks(r, r.Intn(16))
		a := asksOf(r).path(1 + r.Intn(9))
		checkPlans(t, r, a, b, 40)
		if len(a.means(b.facts, nil)) > 0 {
			found++
		} else {
			empty++
		}
	}
	if found < 300 || empty < 300 {
		t.Fatalf("%d paths find something, %d nothing", found, empty)
	}
}

func TestP8P9LongPaths(t *testing.T) {
	r := rand.New(rand.NewSource(81))
	for range 60 {
		a := asksOf(r).path(40 + r.Intn(61))
		if a.height() <= 64 {
			checkPlans(t, r, a, drawnBooks(r, 40), 10)
		}
	}
	high := one("a")
	for i := range 63 {
		high = high.out([]string{"p", "q"}[i%2])
	}
	checkPlans(t, r, high, books{facts: factsOf("a p b g", "b q a h")}, 50)
	checkPlans(t, r, rowOf(99).in("p"), drawnBooks(r, 20), 20)
}

// Every path of up to four nodes of a few texts, on facts of which it finds some.
func TestP8P9EveryShortPath(t *testing.T) {
	r := rand.New(rand.NewSource(82))
	b := books{facts: factsOf("a p b g", "b p c g", "a q c h", "c p a h", "a p b h", "c q c g"), more: []string{"m"}}
	d, ix := b.world(r)
	byNodes := [][]*asked{nil, {all(), one("a"), one("m"), one("z")}}
	for nodes := 2; nodes <= 4; nodes++ {
		var now []*asked
		for _, x := range byNodes[nodes-1] {
			if nodes == 4 && r.Intn(3) > 0 {
				continue
			}
			now = append(now, x.out("p"), x.out("z"), x.in("p"), x.in("m"), x.has("p", "b"), x.has("z", "b"), x.has("p", "z"), graph("g", x), graph("z", x), graph("m", x))
		}
		for left := 1; left < nodes-1; left++ {
			for _, x := range byNodes[left] {
				for _, y := range byNodes[nodes-1-left] {
					now = append(now, x.and(y), x.or(y), x.not(y))
				}
			}
		}
		byNodes = append(byNodes, now)
	}
	for _, list := range byNodes {
		for _, a := range list {
			a = a.clone() // a plan has a choice for each node, and here two may be one
			everyPlan(r, a.allChoices(false), 4, func(plan []int64) {
				a.setPlan(plan)
				checkRun(t, a, b, d, ix)
			})
			checkMeaning(t, a, b.facts)
			checkDefault(t, a, b, d, ix)
			checkRun(t, a, b, d, ix)
		}
	}
}

// What the document says of reads, row by row.
func TestP8Reads(t *testing.T) {
	facts := factsOf("a p b g", "a p c g", "b p c h", "c q a g", "a p b h", "d p d d")
	rows := []struct {
		a     *asked
		plan  []int64
		terms string
		reads int64
	}{
		{all(), []int64{4}, "a b c d", 6},
		{one("a"), []int64{0}, "a", 0},
		{one("p"), []int64{0}, "", 0},
		{one("z"), []int64{0}, "", 0},
		{one("a").out("p"), []int64{0, 0}, "b c", 3},
		{one("a").out("p"), []int64{0, 7}, "b c", 5},
		{one("z").out("p"), []int64{0, 0}, "", 0},
		{one("z").out("p"), []int64{0, 7}, "", 5},
		{all().out("p"), []int64{0, 0}, "b c d", 6 + 5},
		{all().out("z"), []int64{0, 7}, "", 0},
		{all().out("b"), []int64{0, 7}, "", 6},
		{all().out("b"), []int64{0, 0}, "", 6},
		{one("c").in("p"), []int64{0, 1}, "a b", 2},
		{one("c").in("p"), []int64{0, 7}, "a b", 5},
		{all().in("z"), []int64{0, 1}, "", 0},
		{all().has("p", "b"), []int64{0, 0}, "a", 6 + 2},
		{all().has("p", "b"), []int64{0, 7}, "a", 6 + 2},
		{one("b").has("p", "b"), []int64{0, 1}, "", 0},
		{one("b").has("p", "b"), []int64{0, 7}, "", 2},
		{all().has("z", "b"), []int64{0, 0}, "", 0},
		{all().has("p", "z"), []int64{0, 7}, "", 0},
		{all().has("q", "b"), []int64{0, 7}, "", 6},
		{all().and(one("z")), []int64{0, 0, 0}, "", 6},
		{all().and(one("z")), []int64{0, 0, 1}, "", 0},
		{one("z").and(all()), []int64{0, 0, 0}, "", 0},
		{one("z").and(all()), []int64{0, 0, 1}, "", 6},
		{all().and(all()), []int64{0, 5, 1}, "a b c d", 12},
		{one("z").or(all()), []int64{0, 0, 0}, "a b c d", 6},
		{one("z").not(all()), []int64{0, 0, 0}, "", 0},
		{one("a").not(all()), []int64{0, 0, 0}, "", 6},
		{all().not(one("z")), []int64{0, 0, 0}, "a b c d", 6},
		{graph("g", all()), []int64{3, 0}, "a b c", 3},
		{graph("z", all()), []int64{5, 0}, "", 0},
		{graph("p", all()), []int64{5, 0}, "", 0},
		{graph("h", one("a").out("p")), []int64{0, 3, 0}, "b", 1},
		{graph("h", one("a").out("p")), []int64{0, 10, 0}, "b", 2},
		{graph("d", one("d").in("p")), []int64{0, 4, 0}, "d", 1},
		{graph("z", graph("g", all())), []int64{3, 0, 0}, "a b c", 3},
		{graph("g", graph("z", all())), []int64{3, 0, 0}, "", 0},
		{graph("z", graph("g", all()).out("p")), []int64{3, 0, 3, 0}, "", 3},
		{graph("z", graph("g", all()).out("p")), []int64{3, 0, 10, 0}, "", 3},
		{graph("z", graph("g", all()).has("p", "b")), []int64{3, 0, 5, 0}, "", 3},
		{graph("z", graph("g", all()).in("z")), []int64{3, 0, 10, 0}, "", 0},
		{graph("g", all()).out("p"), []int64{4, 0, 0}, "b c", 3 + 4},
		{graph("g", graph("h", all()).out("p")), []int64{5, 0, 3, 0}, "b c", 2 + 2},
		{graph("h", all().has("p", "b")), []int64{3, 1, 0}, "a", 2 + 1},
		{graph("h", all().has("p", "b")), []int64{3, 10, 0}, "a", 2 + 1},
	}
	b := books{facts: facts}
	d, ix := b.world(rand.New(rand.NewSource(1)))
	for _, row := range rows {
		row.a.setPlan(row.plan)
		got := impl.RunPlan(row.a.path(), d, ix, row.plan)
		if got.Err != impl.RunOk || strings.Join(got.Terms, " ") != row.terms || got.Reads != row.reads {
			t.Errorf("%v: %+v, not %q with %d reads", row.a, got, row.terms, row.reads)
		}
		checkRun(t, row.a, b, d, ix)
		checkMeaning(t, row.a, facts)
	}
}

// What the document says of the default plan, row by row: n(p) is 5, n(p, b) is 2, n(q) is 1; in g they are 2, 1 and 1.
func TestP9Defaults(t *testing.T) {
	facts := factsOf("a p b g", "a p c g", "b p c h", "c q a g", "a p b h", "d p d d")
	rows := []struct {
		a    *asked
		plan []int64
	}{
		{all(), []int64{0}},
		{one("a"), []int64{0}},
		{graph("g", all()), []int64{3, 0}},
		{graph("z", all()), []int64{3, 0}},
		{graph("g", one("a")), []int64{0, 0}},
		{one("a").out("p"), []int64{0, 0}},
		{one("a").in("p"), []int64{0, 1}},
		{one("a").out("q"), []int64{0, 7}},
		{one("a").in("q"), []int64{0, 7}},
		{one("a").out("z"), []int64{0, 7}},
		{all().out("p"), []int64{0, 7}},
		{one("a").has("p", "b"), []int64{0, 0}},
		{one("a").has("q", "a"), []int64{0, 7}},
		{one("a").has("p", "z"), []int64{0, 7}},
		{one("a").has("z", "b"), []int64{0, 7}},
		{one("a").or(one("b")).has("p", "b"), []int64{0, 0, 0, 7}},
		{one("a").out("p").out("p"), []int64{0, 0, 7}},
		{one("a").has("p", "b").out("p"), []int64{0, 0, 0}},
		{all().and(one("b")), []int64{0, 0, 1}},
		{one("b").and(all()), []int64{0, 0, 0}},
		{one("b").and(one("a")), []int64{0, 0, 0}},
		{all().and(all()), []int64{0, 0, 0}},
		{one("a").or(one("b")).and(one("c")), []int64{0, 0, 0, 0, 1}},
		{one("a").not(all()).and(one("c")), []int64{0, 0, 0, 0, 0}},
		{all().not(one("a")).and(one("c")), []int64{0, 0, 0, 0, 1}},
		{one("c").and(one("a").out("z")), []int64{0, 0, 7, 1}},
		{one("c").and(one("a").out("q")), []int64{0, 0, 7, 0}},
		{one("c").and(one("a").has("p", "z")), []int64{0, 0, 7, 1}},
		{graph("g", one("a").out("p")), []int64{0, 3, 0}},
		{graph("g", one("a").in("p")), []int64{0, 4, 0}},
		{graph("h", one("a").out("q")), []int64{0, 10, 0}},
		{graph("d", one("a").out("p")), []int64{0, 10, 0}},
		{graph("z", one("a").in("p")), []int64{0, 10, 0}},
		{graph("g", one("a").has("p", "b")), []int64{0, 10, 0}},
		{graph("g", one("a").has("p", "b").not(all())), []int64{0, 10, 3, 0, 0}},
		{graph("z", one("a")).and(graph("z", all())), []int64{0, 0, 3, 0, 1}},
		{graph("g", one("a")).out("q"), []int64{0, 0, 7}},
		{graph("h", one("a").out("q")).has("p", "b"), []int64{0, 10, 0, 0}},
		{graph("g", graph("h", all()).has("p", "c")), []int64{3, 0, 10, 0}},
		{graph("g", graph("h", one("a").out("q")).has("p", "c")), []int64{0, 10, 0, 0, 0}},
	}
	b := books{facts: facts}
	d, ix := b.world(rand.New(rand.NewSource(1)))
	for _, row := range rows {
		if got := impl.DefaultPlan(row.a.path(), d, ix); !slices.Equal(got, row.plan) {
			t.Errorf("%s: %v, not %v", row.a.print(), got, row.plan)
		}
		checkDefault(t, row.a, b, d, ix)
		checkRun(t, row.a, b, d, ix)
	}
}

// manyFacts has so many facts of a few texts.
func manyFacts(n int) []impl.Fact {
	var facts []impl.Fact
	for i := range n {
		facts = append(facts, impl.Fact{S: fmt.Sprintf("s%d", i%20), P: fmt.Sprintf("p%d", i%3), O: fmt.Sprintf("s%d", (i/20+i)%23), G: fmt.Sprintf("g%d", i/150)})
	}
	return facts
}

func TestP8FactMax(t *testing.T) {
	r := rand.New(rand.NewSource(83))
	b := books{facts: manyFacts(300)}
	if d, ix := b.world(r); !impl.ValidDict(d) || impl.CountQuads(ix, impl.Quad{}, 0) != 300 {
		t.Fatalf("no 300 facts")
	}
	w := drawer{r: r, terms: []string{"s0", "s1", "s2", "s22", "p0", "p0", "p1", "g0", "g1", "g2"}}
	for _, a := range []*asked{all(), all().out("p0"), graph("g1", all().in("p1")), all().has("p2", "s2")} {
		checkPlans(t, r, a, b, 12)
	}
	for range 40 {
		checkPlans(t, r, w.path(12), b, 3)
	}
	for _, a := range []*asked{all(), one("s0"), all().out("p0")} {
		if len(impl.Meaning(a.path(), manyFacts(299))) == 0 || len(impl.Meaning(a.path(), manyFacts(300))) == 0 {
			t.Errorf("%s means nothing", a.print())
		}
		if got := impl.Meaning(a.path(), manyFacts(301)); len(got) != 0 {
			t.Errorf("%s means %q over 301 facts", a.print(), got)
		}
		if got := impl.Meaning(a.path(), append(manyFacts(300), manyFacts(1)...)); len(got) != 0 {
			t.Errorf("%s means %q over 301 facts of which one stands twice", a.print(), got)
		}
	}
}

// The facts are a set: what stands twice or in another order changes nothing. Their texts may be any.
func TestP8Meaning(t *testing.T) {
	r := rand.New(rand.NewSource(84))
	for range 300 {
		b := drawnBooks(r, 1+r.Intn(12))
		a := asksOf(r).path(1 + r.Intn(8))
		want := impl.Meaning(a.path(), b.facts)
		twice := append(slices.Clone(b.facts), b.facts[r.Intn(len(b.facts))])
		r.Shuffle(len(twice), func(i, k int) { twice[i], twice[k] = twice[k], twice[i] })
		checkMeaning(t, a, twice)
		if !slices.Equal(impl.Meaning(a.path(), twice), want) {
			t.Fatalf("%s hangs on the order of the facts", a.print())
		}
	}
	long := strings.Repeat("y", 40)
	odd := []impl.Fact{{}, {S: long, P: "p", O: "b"}, {S: "a", P: "p", O: long, G: long}, {S: "b", O: "", G: "g"}, {S: "\xff", P: "p", O: "\x00", G: "g"}}
	for _, a := range []*asked{all(), one("a"), one("b"), one("a").out("p"), all().in("p"), graph("g", all()), all().not(one("a")), graph("g", all().out("p"))} {
		checkMeaning(t, a, odd)
	}
	if got := impl.Meaning(all().path(), odd); !slices.Equal(got, []string{"", "\x00", "a", "b", long, "\xff"}) {
		t.Errorf("all means %q", got)
	}
	for _, a := range []*asked{all(), one("a"), all().or(all()), graph("g", all())} {
		checkMeaning(t, a, nil)
	}
}

// Contexts: the innermost graph counts, and only for what stands below it.
func TestP8Contexts(t *testing.T) {
	r := rand.New(rand.NewSource(85))
	b := books{facts: factsOf("a p b g", "b p c h", "c p d g", "g p g g", "a p h z"), more: []string{"m"}}
	labels := []string{"g", "h", "z", "m", "nowhere", "a"}
	for _, l := range labels {
		for _, k := range labels {
			checkPlans(t, r, graph(l, graph(k, all())), b, 100)
			checkPlans(t, r, graph(l, graph(k, all()).out("p")), b, 100)
			checkPlans(t, r, graph(l, graph(k, all().out("p")).in("p")), b, 100)
			checkPlans(t, r, graph(l, graph(k, all()).has("p", "b")).out("p"), b, 100)
			checkPlans(t, r, graph(l, all()).and(graph(k, all())), b, 100)
			checkPlans(t, r, graph(l, one("a").out("p")).or(all().in("p")), b, 100)
			checkPlans(t, r, graph(l, graph(k, one("a")).or(one("g"))).not(one("g")), b, 100)
			checkPlans(t, r, one("a").and(graph(l, one("b")).in("p")), b, 100)
		}
	}
}

// Texts at their bounds, terms with the highest numbers, and a dictionary with all the terms it can have.
func TestP8WideWorlds(t *testing.T) {
	long := strings.Repeat("\xff", 30)
	d := impl.Dict{Next: 2000000000, Terms: []impl.Term{
		{Id: 1999999999, Text: "\x00", Refs: 1}, {Id: 1, Text: "a", Refs: 2000000000}, {Id: 1999999998, Text: "a\x00", Refs: 1}, {Id: 16777216, Text: long, Refs: 1},
	}}
	quads := []impl.Quad{
		{S: 1999999999, P: 1999999999, O: 1999999999, G: 1999999999}, {S: 1, P: 1999999999, O: 1999999998, G: 16777216},
		{S: 16777216, P: 1, O: 1999999999, G: 1}, {S: 1999999998, P: 1999999999, O: 1, G: 16777216},
	}
	ix := indexOf(quads...)
	b := books{}
	for _, q := range quads {
		b.facts = append(b.facts, impl.Fact{S: impl.TermText(d, q.S), P: impl.TermText(d, q.P), O: impl.TermText(d, q.O), G: impl.TermText(d, q.G)})
	}
	r := rand.New(rand.NewSource(86))
	w := drawer{r: r, terms: []string{"\x00", "a", "a\x00", long, long[:29]}}
	for range 300 {
		a := w.path(1 + r.Intn(7))
		checkDefault(t, a, b, d, ix)
		checkRun(t, a, b, d, ix)
		everyPlan(r, a.allChoices(false), 10, func(plan []int64) {
			a.setPlan(plan)
			checkRun(t, a, b, d, ix)
		})
	}
	full := books{facts: factsOf("w00001 w00002 w00003 w00004")}
	for _, term := range manyWords(1200).Terms {
		full.more = append(full.more, term.Text)
	}
	checkPlans(t, r, graph("w00004", one("w00003").in("w00002")).or(one("w01199")), full, 20)
}

// An index with other shapes of its trees, and one that had more quads.
func TestP8OtherShapes(t *testing.T) {
	b := books{facts: manyFacts(40)}
	r := rand.New(rand.NewSource(87))
	d, ix := b.world(r)
	for _, f := range b.facts[20:] {
		id := func(text string) int64 { return impl.TermId(d, text) }
		ix = impl.IndexDel(ix, impl.Quad{S: id(f.S), P: id(f.P), O: id(f.O), G: id(f.G)}).Index
	}
	some := books{facts: b.facts[:20], more: b.terms()}
	w := drawer{r: r, terms: []string{"s0", "s1", "s2", "s22", "p0", "p1", "g0", "z"}}
	for range 300 {
		a := w.path(1 + r.Intn(9))
		checkDefault(t, a, some, d, ix)
		checkRun(t, a, some, d, ix)
	}
}

// refused says whether RunPlan answers nothing but an error.
func refused(got impl.RunRes, err int64) bool {
	return got.Err == err && len(got.Terms) == 0 && got.Reads == 0
}

func TestP8WrongPlans(t *testing.T) {
	r := rand.New(rand.NewSource(88))
	b := books{facts: factsOf("a p b g", "b p c g", "a q c h")}
	d, ix := b.world(r)
	numbers := slices.Concat(wildNumbers, []int64{4, 5, 6, 7, 10, 11, 12, 13, 18, -3, -6, -7, -12, math.MaxInt64 - 7, math.MinInt64 + 8})
	paths := []*asked{
		all(), one("a"), one("z"), all().out("p"), all().out("z"), all().in("p"), all().has("p", "b"), all().has("z", "z"), all().and(all()), one("z").and(all()),
		all().or(one("a")), one("z").not(all()), graph("g", all()), graph("g", all().out("p")), graph("z", all().in("p")), graph("g", all().has("p", "b")),
		graph("g", graph("h", all())), graph("g", all()).out("p"), graph("g", all().and(one("a").in("p"))),
	}
	for _, a := range paths {
		lists := a.allChoices(false)
		a.settle(b, nil)
		good := a.plan()
		for i := range good {
			for _, choice := range numbers {
				plan := slices.Clone(good)
				plan[i] = choice
				got := impl.RunPlan(a.path(), d, ix, plan)
				if slices.Contains(lists[i], choice) {
					a.setPlan(plan)
					checkRun(t, a, b, d, ix)
				} else if !refused(got, impl.RunBadPlan) {
					t.Fatalf("%s with %v: %+v", a.print(), plan, got)
				}
			}
		}
		for _, plan := range [][]int64{nil, {}, good[:len(good)-1], good[1:], append(slices.Clone(good), 0), append([]int64{0}, good...), append(slices.Clone(good), good...)} {
			if got := impl.RunPlan(a.path(), d, ix, plan); !refused(got, impl.RunBadPlan) {
				t.Fatalf("%s with %v: %+v", a.print(), plan, got)
			}
		}
	}
}

// unfitting are worlds that are valid but of which a part of a quad is no term.
func unfitting() map[string]impl.Index {
	worlds := map[string]impl.Index{}
	for _, letter := range []byte("SPOG") {
		for _, part := range []int64{5, 6, 2000000000} {
			q := impl.Quad{S: 1, P: 2, O: 3, G: 4}
			*partOf(&q, letter) = part
			worlds[fmt.Sprintf("%c is %d", letter, part)] = indexOf(impl.Quad{S: 1, P: 1, O: 1, G: 1}, q, impl.Quad{S: 4, P: 4, O: 4, G: 4})
			worlds[fmt.Sprintf("%c alone is %d", letter, part)] = indexOf(q)
		}
	}
	return worlds
}

func TestP8P9WrongWorlds(t *testing.T) {
	d := words("a", "b", "g", "p")
	ix := indexOf(impl.Quad{S: 1, P: 4, O: 2, G: 3})
	path := all().out("p").path()
	plan := []int64{0, 7}
	if got := impl.RunPlan(path, d, ix, plan); got.Err != impl.RunOk || !slices.Equal(got.Terms, []string{"b"}) || got.Reads != 2 {
		t.Fatalf("a good world: %+v", got)
	}
	for name, bad := range invalidDicts() {
		for _, index := range []impl.Index{ix, indexOf(), {}} {
			if got := impl.RunPlan(path, bad, index, plan); !refused(got, impl.RunBadStore) {
				t.Errorf("%s: %+v", name, got)
			}
			if got := impl.DefaultPlan(path, bad, index); len(got) != 0 {
				t.Errorf("%s: %v", name, got)
			}
		}
	}
	for name, bad := range invalidIndexes(t) {
		for _, dict := range []impl.Dict{manyWords(400), impl.DictNew(), {}} {
			if got := impl.RunPlan(path, dict, bad, plan); !refused(got, impl.RunBadStore) {
				t.Errorf("%s: %+v", name, got)
			}
			if got := impl.DefaultPlan(path, dict, bad); len(got) != 0 {
				t.Errorf("%s: %v", name, got)
			}
		}
	}
	gone := impl.Dict{Next: 9, Terms: slices.Clone(d.Terms)}
	for name, other := range unfitting() {
		if got := impl.RunPlan(path, gone, other, plan); !refused(got, impl.RunBadStore) {
			t.Errorf("%s: %+v", name, got)
		}
		// The default plan asks for no more than that both are valid.
		if got := impl.DefaultPlan(path, gone, other); len(got) != 2 {
			t.Errorf("%s: %v", name, got)
		}
	}
}

// The default plan counts by the numbers of the terms, whether the quads fit or not.
func TestP9Unfitting(t *testing.T) {
	d := words("a", "b", "g", "p")
	ix := indexOf(impl.Quad{S: 9, P: 4, O: 2, G: 3}, impl.Quad{S: 10, P: 4, O: 2, G: 3}, impl.Quad{S: 10, P: 4, O: 11, G: 12})
	rows := map[string][]int64{
		`v("a").out("p")`: {0, 0}, `v("a").has("p", "b")`: {0, 0}, `graph "g" (v("a").in("p"))`: {0, 4, 0}, `all.out("p")`: {0, 7},
		`graph "a" (v("a").in("p"))`: {0, 10, 0}, `graph "g" (all) & v("a").out("p")`: {3, 0, 0, 0, 1},
	}
	for text, want := range rows {
		path := impl.ParsePath([]byte(text)).Path
		if got := impl.DefaultPlan(path, d, ix); !slices.Equal(got, want) {
			t.Errorf("%s: %v, not %v", text, got, want)
		}
		if got := impl.RunPlan(path, d, ix, want); !refused(got, impl.RunBadStore) {
			t.Errorf("%s: %+v", text, got)
		}
	}
	if got := impl.RunPlan(all().path(), impl.DictNew(), impl.IndexNew(), []int64{0}); !refused(got, impl.RunOk) {
		t.Errorf("all of nothing: %+v", got)
	}
	if got := impl.DefaultPlan(all().path(), impl.DictNew(), impl.IndexNew()); !slices.Equal(got, []int64{0}) {
		t.Errorf("all of nothing: %v", got)
	}
}

// Where more than one thing is wrong, the path goes before the store, and the store before the plan.
func TestP8OrderOfErrors(t *testing.T) {
	d, ix := words("a", "b", "g", "p"), indexOf(impl.Quad{S: 1, P: 4, O: 2, G: 3})
	paths := map[string]impl.Path{"good": all().path()}
	for name, p := range invalidPaths() {
		paths[name] = p
	}
	stores := []struct {
		name string
		d    impl.Dict
		ix   impl.Index
	}{
		{"good", d, ix}, {"no dictionary", impl.Dict{}, ix}, {"no index", d, impl.Index{}}, {"neither", impl.Dict{}, impl.Index{}},
		{"unfitting", d, indexOf(impl.Quad{S: 1, P: 4, O: 2, G: 5})}, {"empty dictionary", impl.DictNew(), ix},
	}
	plans := map[string][]int64{"good": {5}, "empty": nil, "long": {0, 0}, "not eligible": {6}, "below": {-1}}
	for pathName, p := range paths {
		for _, store := range stores {
			for planName, plan := range plans {
				want := int64(impl.RunOk)
				switch {
				case pathName != "good":
					want = impl.RunBadPath
				case store.name != "good":
					want = impl.RunBadStore
				case planName != "good":
					want = impl.RunBadPlan
				}
				got := impl.RunPlan(p, store.d, store.ix, plan)
				if got.Err != want || want != impl.RunOk && !refused(got, want) {
					t.Errorf("path %s, store %s, plan %s: %+v", pathName, store.name, planName, got)
				}
			}
			if got := impl.DefaultPlan(p, store.d, store.ix); len(got) != 0 && pathName != "good" {
				t.Errorf("path %s, store %s: %v", pathName, store.name, got)
			}
		}
	}
}

// No argument is changed, and the answers have memory of their own.
func TestP8P9Memory(t *testing.T) {
	r := rand.New(rand.NewSource(89))
	for range 200 {
		b := drawnBooks(r, 12)
		d, ix := b.world(r)
		a := asksOf(r).path(1 + r.Intn(8))
		p := a.path()
		wasDict, wasIndex, wasPath := cloneDict(d), cloneIndex(ix), clonePath(p)
		plan := impl.DefaultPlan(p, d, ix)
		wasPlan := slices.Clone(plan)
		first := impl.RunPlan(p, d, ix, plan)
		second := impl.RunPlan(p, d, ix, plan)
		told := slices.Clone(second.Terms)
		for i := range first.Terms {
			first.Terms[i] = "spoilt"
		}
		if !slices.Equal(second.Terms, told) || !slices.Equal(plan, wasPlan) {
			t.Fatalf("%v: two answers share memory, or the plan is changed", a)
		}
		for i := range plan {
			plan[i] = -9
		}
		if !sameDict(d, wasDict) || !sameIndex(ix, wasIndex) || !samePath(p, wasPath) || !slices.Equal(impl.DefaultPlan(p, d, ix), wasPlan) {
			t.Fatalf("%v: an argument is changed", a)
		}
	}
}
