package tests

import (
	"bytes"
	"fmt"
	"math/rand"
	"slices"
	"strings"
	"testing"

	"loop.example/s01136/impl"
)

// Promise 7: every valid path whose print has at most PathTextMax bytes comes back from its print; ParsePath tells the
// first token in error.

// wildTexts are texts at the bounds of a term, and bytes that a STR tells in another way.
var wildTexts = []string{
	"a", " ", "\"", "\\", "\x00", "\x1f", "\x7f", "\xff", "\\x41", "\\\"", "\n", "ä", "~", "!", "#", "[", "]", "x\"y\\z\x80",
	strings.Repeat("x", 30), strings.Repeat("\xff", 30), strings.Repeat("\"", 29) + "\\", "all", "v(\"a\")", ") | (",
}

func clonePath(p impl.Path) impl.Path {
	return impl.Path{Nodes: slices.Clone(p.Nodes)}
}

func samePath(a, b impl.Path) bool {
	return slices.Equal(a.Nodes, b.Nodes)
}

// checkPrint holds the print of a tree, and what comes back from it, against the tree.
func checkPrint(t *testing.T, a *asked) {
	t.Helper()
	p := a.path()
	was := clonePath(p)
	want := a.print()
	got := impl.PrintPath(p)
	if string(got) != want {
		t.Fatalf("printed %q, not %q", got, want)
	}
	if len(want) <= 2000 {
		checkParse(t, want)
	} else if back := impl.ParsePath(got); back.Err != impl.PathLong || back.At != 0 || len(back.Path.Nodes) != 0 {
		t.Fatalf("a print of %d bytes: %+v", len(want), back)
	}
	invert(got)
	if !samePath(p, was) || string(impl.PrintPath(p)) != want {
		t.Fatalf("%q: the path is changed, or two prints share memory", want)
	}
}

// checkParse holds what ParsePath answers against the grammar.
func checkParse(t *testing.T, text string) {
	t.Helper()
	err, at, tree := wantParse(text)
	given := []byte(text)
	got := impl.ParsePath(given)
	if string(given) != text {
		t.Fatalf("%q: the text was changed", text)
	}
	invert(given)
	var want impl.Path
	if tree != nil {
		want = tree.path()
	}
	if got.Err != err || got.At != int64(at) || !samePath(got.Path, want) {
		t.Fatalf("%q: %+v, not error %d at %d and %v", text, got, err, at, want)
	}
	if impl.ValidPath(got.Path) != (err == 0) || soundPath(got.Path) != (err == 0) {
		t.Fatalf("%q: valid is %v", text, impl.ValidPath(got.Path))
	}
}

func TestP7DrawnPaths(t *testing.T) {
	r := rand.New(rand.NewSource(70))
	for i := range 5000 {
		w := drawer{r: r, terms: []string{"a", "b", "p"}}
		if i%3 == 0 {
			w.terms = wildTexts
		}
		a := w.path(1 + r.Intn(24))
		if i%50 == 0 {
			a = w.path(60 + r.Intn(41))
		}
		if a.height() <= 64 {
			checkPrint(t, a)
		}
	}
}

func TestP7EveryPairOfOperators(t *testing.T) {
	under := []func(x *asked) *asked{
		func(x *asked) *asked { return x.out("p") },
		func(x *asked) *asked { return x.in("p") },
		func(x *asked) *asked { return x.has("p", "o") },
		func(x *asked) *asked { return graph("g", x) },
		func(x *asked) *asked { return x.and(one("y")) },
		func(x *asked) *asked { return one("y").and(x) },
		func(x *asked) *asked { return x.or(one("y")) },
		func(x *asked) *asked { return one("y").or(x) },
		func(x *asked) *asked { return x.not(one("y")) },
		func(x *asked) *asked { return one("y").not(x) },
	}
	for _, outer := range under {
		for _, middle := range under {
			for _, inner := range under {
				checkPrint(t, outer(middle(inner(all()))))
			}
			checkPrint(t, outer(middle(all())))
		}
		checkPrint(t, outer(all()))
	}
	checkPrint(t, all())
	checkPrint(t, one("x"))
}

func TestP7Prints(t *testing.T) {
	rows := map[string]*asked{
		`all`:                                     all(),
		`v("a")`:                                  one("a"),
		`v("\"\\\x00 ~\x7f\xff")`:                 one("\"\\\x00 ~\x7f\xff"),
		`all.out("p").in("q").has("r", "o")`:      all().out("p").in("q").has("r", "o"),
		`graph "g" (all - v("a")).out("p")`:       graph("g", all().not(one("a"))).out("p"),
		`graph "g" (graph "h" (all))`:             graph("g", graph("h", all())),
		`(all & v("a")).out("p")`:                 all().and(one("a")).out("p"),
		`(all | v("a")).in("p")`:                  all().or(one("a")).in("p"),
		`(all - v("a")).has("p", "o")`:            all().not(one("a")).has("p", "o"),
		`(all | v("a")) & (all - v("b"))`:         all().or(one("a")).and(all().not(one("b"))),
		`all & v("a") & (v("b") & v("c"))`:        all().and(one("a")).and(one("b").and(one("c"))),
		`all | v("a") - v("b")`:                   all().or(one("a")).not(one("b")),
		`all - (v("a") | v("b"))`:                 all().not(one("a").or(one("b"))),
		`all | (v("a") - v("b"))`:                 all().or(one("a").not(one("b"))),
		`all & v("a") | v("b") & v("c")`:          all().and(one("a")).or(one("b").and(one("c"))),
		`all - v("a") & v("b")`:                   all().not(one("a").and(one("b"))),
		`all & v("b").out("p") & graph "g" (all)`: all().and(one("b").out("p")).and(graph("g", all())),
	}
	for want, a := range rows {
		if got := string(impl.PrintPath(a.path())); got != want {
			t.Errorf("printed %s, not %s", got, want)
		}
		if got := impl.ParsePath([]byte(want)); got.Err != 0 || got.At != 0 || !samePath(got.Path, a.path()) {
			t.Errorf("%s: %+v", want, got)
		}
	}
}

// Every byte alone, and its STR.
func TestP7EveryByte(t *testing.T) {
	for c := range 256 {
		text := string([]byte{byte(c)})
		checkPrint(t, one(text))
		checkPrint(t, all().has(text+"p", "o"+text))
		checkPrint(t, graph(text+text, all()))
		checkParse(t, fmt.Sprintf(`v("\x%02x")`, c))
		checkParse(t, fmt.Sprintf(`v("\x%02X")`, c))
		for _, place := range []string{"%s", "%sall", "all%s", "v(%s)", `v("%s")`, `v("a%s")`, `v("\%s")`, `v("\x%s")`, `v("\x4%s")`, `v("\x%s0")`, `all.out("p"%s`, "graph%s", `all.has("p"%s "o")`} {
			checkParse(t, fmt.Sprintf(place, text))
		}
	}
}

func TestP7Strings(t *testing.T) {
	rows := []struct {
		str, content string
		good         bool
	}{
		{`"a"`, "a", true}, {`""`, "", false}, {`"`, "", false}, {`"a`, "", false}, {`"\"`, "", false}, {`"\`, "", false},
		{`"\\"`, `\`, true}, {`"\""`, `"`, true}, {`"\x"`, "", false}, {`"\x4"`, "", false}, {`"\x41"`, "A", true},
		{`"\x4a"`, "J", true}, {`"\x4A"`, "", false}, {`"\X41"`, "", false}, {`"\x411"`, "A1", true}, {`"\xg0"`, "", false},
		{`"\x0g"`, "", false}, {`"\n"`, "", false}, {`"\a"`, "", false}, {"\"\n\"", "", false}, {"\"\x1f\"", "", false},
		{"\"\x7f\"", "", false}, {"\"\x80\"", "", false}, {`" "`, " ", true}, {`"~"`, "~", true}, {`"\x00"`, "\x00", true},
		{`"` + strings.Repeat("x", 30) + `"`, strings.Repeat("x", 30), true}, {`"` + strings.Repeat("x", 31) + `"`, "", false},
		{`"` + strings.Repeat(`\x78`, 30) + `"`, strings.Repeat("x", 30), true}, {`"` + strings.Repeat(`\\`, 31) + `"`, "", false},
		{`"` + strings.Repeat(`\"`, 29) + `\x22"`, strings.Repeat(`"`, 30), true}, {`"` + strings.Repeat("x", 30) + `\"`, "", false},
	}
	for _, row := range rows {
		for _, place := range []string{"v(%s)", " v ( %s ) ", "all.out(%s)", "all.in(%s)", `all.has(%s,"o")`, `all.has("p",%s)`, "graph %s (all)", "graph%s(all)"} {
			text := fmt.Sprintf(place, row.str)
			checkParse(t, text)
			if !row.good && strings.HasSuffix(place, `"o")`) {
				continue // what opens here may find its end there
			}
			got := impl.ParsePath([]byte(text))
			want := impl.PathRes{Err: impl.PathLex, At: int64(strings.Index(place, "%"))}
			if row.good {
				want = impl.PathRes{}
			}
			if got.Err != want.Err || got.At != want.At {
				t.Fatalf("%q: error %d at %d", text, got.Err, got.At)
			}
			if row.good && !slices.ContainsFunc(got.Path.Nodes, func(n impl.PNode) bool { return n.S == row.content || n.T == row.content }) {
				t.Fatalf("%q: %+v", text, got)
			}
		}
	}
}

// sample is a token of a kind.
func sample(kind string) string {
	if kind == "STR" {
		return `"a"`
	}
	return kind
}

// All rows of tokens up to a length that the grammar lets go on: behind each, every token, what is no token, and the
// end of the text.
func TestP7EveryShortText(t *testing.T) {
	rows := 0
	var walk func(text string, c chart, deep int)
	walk = func(text string, c chart, deep int) {
		rows++
		checkParse(t, text)
		checkParse(t, text+"  ")
		for _, bad := range []string{"$", "al", "allv", `"`, `""`, "A", "\t"} {
			checkParse(t, text+" "+bad)
			checkParse(t, text+" "+bad+" all")
		}
		for _, kind := range tokenKinds {
			more := text + " " + sample(kind)
			if next := c.feed(kind); !next.viable() {
				checkParse(t, more)
				checkParse(t, more+" $")
			} else if deep > 0 {
				walk(more, next, deep-1)
			}
		}
	}
	walk("", newChart(), 6)
	if rows != 805 {
		t.Fatalf("%d rows", rows)
	}
}

// loosely prints a tree with needless parentheses, spaces and pieces, or without the spaces that may go.
func (a *asked) loosely(r *rand.Rand) string {
	space := func() string { return strings.Repeat(" ", r.Intn(3)*r.Intn(2)) }
	str := func(text string) string {
		told := `"`
		for i := range len(text) {
			if one := quote(text[i : i+1]); r.Intn(3) > 0 {
				told += one[1 : len(one)-1]
			} else {
				told += fmt.Sprintf(`\x%02x`, text[i])
			}
		}
		return told + `"`
	}
	call := func(tokens ...string) string { return strings.Join(tokens, space()) }
	kid := func(i int, when ...int64) string {
		if told := a.kids[i].loosely(r); !slices.Contains(when, a.kids[i].kind) && r.Intn(4) > 0 {
			return told
		} else {
			return call("(", told, ")")
		}
	}
	operand := func() string { return kid(0, impl.PAnd, impl.POr, impl.PNot) }
	switch a.kind {
	case impl.PAll:
		return "all"
	case impl.POne:
		return call("v", "(", str(a.s), ")")
	case impl.POut:
		return call(operand(), ".", "out", "(", str(a.s), ")")
	case impl.PIn:
		return call(operand(), ".", "in", "(", str(a.s), ")")
	case impl.PHas:
		return call(operand(), ".", "has", "(", str(a.s), ",", str(a.t), ")")
	case impl.PAnd:
		return call(kid(0, impl.POr, impl.PNot), "&", kid(1, impl.POr, impl.PNot, impl.PAnd))
	case impl.POr:
		return call(kid(0), "|", kid(1, impl.POr, impl.PNot))
	case impl.PNot:
		return call(kid(0), "-", kid(1, impl.POr, impl.PNot))
	}
	return call("graph", str(a.s), "(", a.kids[0].loosely(r), ")")
}

func TestP7LooseTexts(t *testing.T) {
	r := rand.New(rand.NewSource(71))
	for range 3000 {
		a := drawer{r: r, terms: wildTexts}.path(1 + r.Intn(20))
		text := " " + a.loosely(r) + " "
		if len(text) > 2000 {
			continue
		}
		checkParse(t, text)
		if got := impl.ParsePath([]byte(text)); !samePath(got.Path, a.path()) {
			t.Fatalf("%q: %+v", text, got)
		}
	}
}

// Texts of the grammar with a byte changed, taken out or put in, and with a piece moved.
func TestP7SpoiltTexts(t *testing.T) {
	r := rand.New(rand.NewSource(72))
	bytesOf := "allvgraphoutinhas\"\"\"\\\\x09afAF().,.&|- \x00\n\x7f\x80\xff$"
	for range 20000 {
		text := []byte(drawer{r: r, terms: wildTexts[:17]}.path(1 + r.Intn(9)).loosely(r))
		for range 1 + r.Intn(2) {
			at := r.Intn(len(text) + 1)
			end := min(len(text), at+r.Intn(4))
			switch r.Intn(4) {
			case 0:
				text = slices.Concat(text[:at], text[end:])
			case 1:
				text = slices.Concat(text[:at], []byte{bytesOf[r.Intn(len(bytesOf))]}, text[at:])
			case 2:
				text = slices.Concat(text[:at], []byte{bytesOf[r.Intn(len(bytesOf))]}, text[end:])
			case 3:
				text = slices.Concat(text[:at], text[at:end], text[at:])
			}
		}
		checkParse(t, string(text))
	}
}

func TestP7RandomBytes(t *testing.T) {
	r := rand.New(rand.NewSource(73))
	for range 3000 {
		checkParse(t, string(randomBytes(r, r.Intn(12))))
	}
	for _, text := range []string{"", " ", "  ", "\"", "(", ")", "all", "all ", " all", "v", "graph", "."} {
		checkParse(t, text)
	}
	if got := impl.ParsePath(nil); got.Err != impl.PathToken || got.At != 0 {
		t.Errorf("nil: %+v", got)
	}
}

// An error of each kind at the first, a middle and the last token, and at the end of the text.
func TestP7FirstError(t *testing.T) {
	good := []string{"graph", `"g"`, "(", "all", "-", "v", "(", `"a"`, ")", ")", ".", "has", "(", `"p"`, ",", `"o"`, ")"}
	for i := range good {
		for _, bad := range []string{"$", "alls", `"`, `"\q"`, "=", "0"} {
			text := strings.Join(good[:i], " ")
			at := len(text)
			if i > 0 {
				at++
				text += " "
			}
			for _, behind := range []string{"", " $", " all all", " " + strings.Join(good[i+1:], " ")} {
				got := impl.ParsePath([]byte(text + bad + behind))
				// What opens a STR may find its end in another one.
				if bad == `"` && strings.Contains(behind, `"`) {
					continue
				}
				if got.Err != impl.PathLex || got.At != int64(at) || len(got.Path.Nodes) != 0 {
					t.Fatalf("%q: %+v", text+bad+behind, got)
				}
			}
			checkParse(t, text)
		}
		for _, wrong := range tokenKinds {
			changed := slices.Clone(good)
			changed[i] = sample(wrong)
			checkParse(t, strings.Join(changed, " "))
			checkParse(t, strings.Join(changed, "  ")+" $")
			checkParse(t, strings.Join(changed[:i+1], " "))
		}
	}
	rows := []struct {
		text string
		err  int64
		at   int64
	}{
		{"$", impl.PathLex, 0}, {")", impl.PathToken, 0}, {") $", impl.PathToken, 0}, {"$ )", impl.PathLex, 0}, {"all $ )", impl.PathLex, 4},
		{"all ) $", impl.PathToken, 4}, {"all . $", impl.PathLex, 6}, {"all . all $", impl.PathToken, 6}, {"", impl.PathToken, 0}, {"   ", impl.PathToken, 3},
		{"all .  ", impl.PathToken, 7}, {"all.out(\"p\")  x", impl.PathLex, 14}, {"all.out(\"p\")  in", impl.PathToken, 14}, {"all \"p", impl.PathLex, 4},
		{"all \"p\"", impl.PathToken, 4}, {"v(\"a\"", impl.PathToken, 5}, {"graph \"g\" (all", impl.PathToken, 14}, {"all.has(\"p\" \"o\")", impl.PathToken, 12},
	}
	for _, row := range rows {
		if got := impl.ParsePath([]byte(row.text)); got.Err != row.err || got.At != row.at || len(got.Path.Nodes) != 0 {
			t.Errorf("%q: %+v", row.text, got)
		}
		checkParse(t, row.text)
	}
}

// rowOf is a path of an odd number of nodes, all of them in a row of ors.
func rowOf(nodes int) *asked {
	a := all()
	for range nodes / 2 {
		a = a.or(all())
	}
	return a
}

func TestP7PathMax(t *testing.T) {
	row := rowOf(99)
	checkPrint(t, row.out("p"))
	checkPrint(t, graph("g", row))
	if got := impl.PrintPath(row.or(all()).path()); len(got) != 0 {
		t.Errorf("101 nodes: %q", got)
	}
	hundred := row.in("p").print()
	ends := []string{" & all", " | all", "- all", ".out(\"p\")", ".in(\"p\")", ".has(\"p\", \"o\")", "|v(\"a\")", "|graph \"g\" (all)", " & $", " &", " & )", ".", ". $", ".all", ") |", " |", "$", " all"}
	for _, end := range ends {
		checkParse(t, hundred+end)
		checkParse(t, row.print()+end)
		checkParse(t, "("+hundred+")"+end)
		checkParse(t, "("+hundred+end+")")
	}
	// The 101st node may be any of those of a token.
	for _, front := range []string{"all|", "all-", "all&"} {
		for _, end := range []string{"all", "v(\"a\")", "graph \"g\" (all)", "(all", "((v", "v", "graph", "graph $"} {
			text := strings.Repeat(front, 50) + end
			checkParse(t, text)
			if got := impl.ParsePath([]byte(text)); got.Err != impl.PathNodes || got.At != int64(200+len(end)-len(strings.TrimLeft(end, "("))) {
				t.Errorf("%q: %+v", text, got)
			}
		}
	}
	if got := impl.ParsePath([]byte(hundred + " & $")); got.Err != impl.PathNodes || got.At != int64(len(hundred)+1) {
		t.Errorf("a 101st node ahead of what is no token: %+v", got)
	}
}

func TestP7HeightMax(t *testing.T) {
	grow := map[string]func(a *asked) *asked{
		"out":       func(a *asked) *asked { return a.out("p") },
		"in":        func(a *asked) *asked { return a.in("p") },
		"has":       func(a *asked) *asked { return a.has("p", "o") },
		"graph":     func(a *asked) *asked { return graph("g", a) },
		"first out": func(a *asked) *asked { return a.out("first") },
	}
	for name, more := range grow {
		a := one("a")
		for range 63 {
			a = more(a)
		}
		checkPrint(t, a)
		checkPrint(t, all().or(one("b")).out("p").not(a.kids[0]))
		tall := more(a)
		if len(impl.PrintPath(tall.path())) != 0 || impl.ValidPath(tall.path()) {
			t.Errorf("%s: a height of 65 is printed", name)
		}
		for _, text := range []string{tall.print(), tall.print() + "  ", "(" + tall.print() + ")", "all | " + a.print(), a.print() + " & all"} {
			checkParse(t, text)
			if got := impl.ParsePath([]byte(text)); got.Err != impl.PathTall || got.At != int64(len(text)) || len(got.Path.Nodes) != 0 {
				t.Errorf("%s: %+v", name, got)
			}
		}
		checkParse(t, tall.print()+" $")
		checkParse(t, tall.print()+" all")
		checkParse(t, "("+tall.print())
	}
	// Parentheses are no nodes.
	checkParse(t, strings.Repeat("(", 990)+"all"+strings.Repeat(")", 990))
	checkParse(t, strings.Repeat("(", 990)+"all"+strings.Repeat(")", 991))
	checkParse(t, strings.Repeat("(", 2000))
	checkParse(t, strings.Repeat("(", 1000)+"all"+strings.Repeat(")", 997))
}

func TestP7PathTextMax(t *testing.T) {
	// Twelve steps of 156 bytes, and what is left.
	a := all()
	for range 12 {
		a = a.in(strings.Repeat("\xff", 30)).out("abcdefghijklmnop")
	}
	for len(a.print()) < 1980 {
		a = a.in("p")
	}
	for n := len(a.print()) + 8; n <= 2002; n++ {
		if size := n - len(a.print()) - 7; size <= 30 {
			long := a.in(strings.Repeat("y", size))
			if got := len(long.print()); got != n {
				t.Fatalf("%d bytes, not %d", got, n)
			}
			checkPrint(t, long)
		}
	}
	for _, n := range []int{1999, 2000, 2001, 2002, 5000, 100000} {
		for _, text := range []string{"all", "$", ""} {
			checkParse(t, text+strings.Repeat(" ", n-len(text)))
			checkParse(t, strings.Repeat(" ", n-len(text))+text)
		}
		checkParse(t, strings.Repeat("$", n))
	}
	// A print may be far longer than a text that is read.
	long := all()
	for range 60 {
		long = long.has(strings.Repeat("\x00", 30), strings.Repeat("\xff", 30))
	}
	checkPrint(t, long)
}

// invalidPaths breaks each rule of ValidPath alone, by one where it is a bound.
func invalidPaths() map[string]impl.Path {
	with := func(a *asked, at int, change func(n *impl.PNode)) impl.Path {
		p := a.path()
		change(&p.Nodes[at])
		return p
	}
	high := all()
	for range 64 {
		high = high.out("p")
	}
	right := all()
	for range 48 {
		right = one("a").or(right)
	}
	long := strings.Repeat("x", 31)
	paths := map[string]impl.Path{
		"no nodes":           {},
		"101 nodes":          rowOf(101).path(),
		"height 65":          high.path(),
		"height 65, an or":   all().or(high.kids[0]).path(),
		"two trees":          {Nodes: []impl.PNode{{Kind: impl.PAll}, {Kind: impl.PAll}}},
		"two trees, a step":  {Nodes: []impl.PNode{{Kind: impl.PAll}, {Kind: impl.PAll}, {Kind: impl.POut, S: "p"}}},
		"no operand":         {Nodes: []impl.PNode{{Kind: impl.POut, S: "p"}}},
		"no operand, graph":  {Nodes: []impl.PNode{{Kind: impl.PGraph, S: "p"}}},
		"one operand":        {Nodes: []impl.PNode{{Kind: impl.PAll}, {Kind: impl.PAnd}}},
		"no operands":        {Nodes: []impl.PNode{{Kind: impl.POr}}},
		"operator first":     {Nodes: []impl.PNode{{Kind: impl.PNot}, {Kind: impl.PAll}, {Kind: impl.PAll}}},
		"operator too early": {Nodes: []impl.PNode{{Kind: impl.PAll}, {Kind: impl.PNot}, {Kind: impl.PAll}}},
	}
	for _, kind := range []int64{-1 << 63, -9, -1, 0, 10, 11, 1<<63 - 1} {
		paths[fmt.Sprintf("kind %d", kind)] = with(all(), 0, func(n *impl.PNode) { n.Kind = kind })
		paths[fmt.Sprintf("kind %d in the middle", kind)] = with(all().out("p").in("q"), 1, func(n *impl.PNode) { n.Kind = kind })
	}
	for name, a := range map[string]*asked{"one": one("a"), "out": all().out("p"), "in": all().in("p"), "graph": graph("g", all())} {
		at := len(a.path().Nodes) - 1
		paths[name+" without S"] = with(a, at, func(n *impl.PNode) { n.S = "" })
		paths[name+" with a long S"] = with(a, at, func(n *impl.PNode) { n.S = long })
		paths[name+" with a T"] = with(a, at, func(n *impl.PNode) { n.T = "x" })
	}
	for name, a := range map[string]*asked{"all": all(), "and": all().and(all()), "or": all().or(all()), "not": all().not(all())} {
		at := len(a.path().Nodes) - 1
		paths[name+" with an S"] = with(a, at, func(n *impl.PNode) { n.S = "x" })
		paths[name+" with a T"] = with(a, at, func(n *impl.PNode) { n.T = "x" })
	}
	has := all().has("p", "o")
	paths["has without S"] = with(has, 1, func(n *impl.PNode) { n.S = "" })
	paths["has without T"] = with(has, 1, func(n *impl.PNode) { n.T = "" })
	paths["has with a long S"] = with(has, 1, func(n *impl.PNode) { n.S = long })
	paths["has with a long T"] = with(has, 1, func(n *impl.PNode) { n.T = long })
	paths["deep inside"] = with(right, 40, func(n *impl.PNode) { n.T = "x" })
	return paths
}

func TestP7InvalidPaths(t *testing.T) {
	for name, p := range invalidPaths() {
		if impl.ValidPath(p) || soundPath(p) {
			t.Errorf("%s: valid", name)
		}
		if got := impl.PrintPath(p); len(got) != 0 {
			t.Errorf("%s: printed %q", name, got)
		}
		if got := impl.Meaning(p, []impl.Fact{{S: "a", P: "p", O: "o", G: "g"}}); len(got) != 0 {
			t.Errorf("%s: means %q", name, got)
		}
	}
}

func TestP7ValidPaths(t *testing.T) {
	long := strings.Repeat("\x00", 30)
	high := one(long)
	for range 63 {
		high = graph(long, high)
	}
	wide := all()
	for range 33 {
		wide = all().not(wide)
	}
	for name, a := range map[string]*asked{
		"one node": all(), "one term": one("a"), "30 bytes": all().has(long, long), "100 nodes": rowOf(99).in("p"), "height 64": high,
		"height 64, 100 nodes": high.kids[0].or(rowOf(35)), "to the right": wide,
	} {
		if !impl.ValidPath(a.path()) || !soundPath(a.path()) {
			t.Errorf("%s: not valid", name)
		}
		checkPrint(t, a)
	}
}

// One thing of a valid path changed: it is valid as the second way of reading it says.
func TestP7SpoiltPaths(t *testing.T) {
	r := rand.New(rand.NewSource(74))
	texts := []string{"", "x", strings.Repeat("y", 30), strings.Repeat("z", 31)}
	valid := 0
	for range 30000 {
		p := drawer{r: r, terms: texts[1:3]}.path(1 + r.Intn(8)).path()
		i := r.Intn(len(p.Nodes))
		switch n := &p.Nodes[i]; r.Intn(5) {
		case 0:
			n.Kind = int64(r.Intn(12) - 1)
		case 1:
			n.S = texts[r.Intn(4)]
		case 2:
			n.T = texts[r.Intn(4)]
		case 3:
			p.Nodes = slices.Delete(p.Nodes, i, i+1)
		case 4:
			p.Nodes = slices.Insert(p.Nodes, i, impl.PNode{Kind: int64(r.Intn(11)), S: texts[r.Intn(3)], T: texts[r.Intn(2)]})
		}
		want := soundPath(p)
		if got := impl.ValidPath(p); got != want {
			t.Fatalf("valid %v: %+v", got, p)
		}
		if got := impl.PrintPath(p); (len(got) > 0) != want {
			t.Fatalf("printed %q: %+v", got, p)
		}
		if want {
			valid++
			if back := impl.ParsePath(impl.PrintPath(p)); !samePath(back.Path, p) {
				t.Fatalf("%+v came back as %+v", p, back)
			}
		}
	}
	if valid < 1000 || valid > 29000 {
		t.Fatalf("%d valid paths", valid)
	}
}

// What is parsed has no memory of the text, and two answers have none in common.
func TestP7ParseMemory(t *testing.T) {
	text := []byte(`graph "label" (v("term").has("pred", "obj"))`)
	first := impl.ParsePath(text)
	second := impl.ParsePath(bytes.Clone(text))
	copy(text, bytes.Repeat([]byte{'#'}, len(text)))
	if !samePath(first.Path, second.Path) {
		t.Fatalf("%+v hangs on its text", first)
	}
	first.Path.Nodes[0] = impl.PNode{}
	if second.Path.Nodes[0].S != "term" {
		t.Fatalf("two answers share memory")
	}
}
