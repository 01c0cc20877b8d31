package tests

import (
	"fmt"
	"math"
	"math/rand"
	"slices"
	"strings"
	"testing"

	"loop.example/s01136/impl"
)

// Promise 5: Intern and Release keep valid dictionaries valid, and never give a number twice.

func cloneDict(d impl.Dict) impl.Dict {
	return impl.Dict{Next: d.Next, Terms: slices.Clone(d.Terms)}
}

func sameDict(a, b impl.Dict) bool {
	return a.Next == b.Next && slices.Equal(a.Terms, b.Terms)
}

// spoilDict writes into all terms, also into the room behind them, to show who else holds their memory.
func spoilDict(d impl.Dict) {
	for i := range d.Terms[:cap(d.Terms)] {
		d.Terms[:cap(d.Terms)][i] = impl.Term{Id: -9, Text: "spoilt", Refs: -9}
	}
}

// soundDict says by another way whether a dictionary is valid: every two terms are held against each other.
func soundDict(d impl.Dict) bool {
	if d.Next < 1 || d.Next > 2000000000 || len(d.Terms) > 1200 {
		return false
	}
	for i, a := range d.Terms {
		if len(a.Text) < 1 || len(a.Text) > 30 || a.Id < 1 || a.Id > d.Next-1 || a.Refs < 1 || a.Refs > 2000000000 {
			return false
		}
		for _, b := range d.Terms[i+1:] {
			if strings.Compare(a.Text, b.Text) >= 0 || a.Id == b.Id {
				return false
			}
		}
	}
	return true
}

// words makes a dictionary of terms with these texts, each used once, numbered from 1 on; Next is behind them.
func words(texts ...string) impl.Dict {
	d := impl.Dict{Next: 1}
	for _, text := range texts {
		d.Terms = append(d.Terms, impl.Term{Id: d.Next, Text: text, Refs: 1})
		d.Next++
	}
	return d
}

// manyWords has n terms.
func manyWords(n int) impl.Dict {
	var texts []string
	for i := range n {
		texts = append(texts, fmt.Sprintf("w%05d", i))
	}
	return words(texts...)
}

// checkDict holds what Intern or Release make of a dictionary against what is wanted, and looks whose memory the
// answer has. It gives the dictionary of the answer.
func checkDict(t *testing.T, name string, d impl.Dict, change func(d impl.Dict) impl.DictRes, want impl.DictRes) impl.Dict {
	t.Helper()
	was := cloneDict(d)
	got := change(d)
	if got.Ok != want.Ok || got.Id != want.Id || !sameDict(got.Dict, want.Dict) {
		t.Fatalf("%s: %+v, not %+v", name, got, want)
	}
	told := cloneDict(got.Dict)
	spoilDict(got.Dict)
	if !sameDict(d, was) {
		t.Fatalf("%s: the argument is changed or shares memory with the answer: %+v", name, d)
	}
	if impl.ValidDict(told) != soundDict(was) {
		t.Fatalf("%s: valid is %v: %+v", name, !soundDict(was), told)
	}
	return told
}

func checkIntern(t *testing.T, d impl.Dict, text string, want impl.DictRes) impl.Dict {
	t.Helper()
	return checkDict(t, fmt.Sprintf("intern %q", text), d, func(d impl.Dict) impl.DictRes { return impl.Intern(d, text) }, want)
}

func checkRelease(t *testing.T, d impl.Dict, id int64, want impl.DictRes) impl.Dict {
	t.Helper()
	return checkDict(t, fmt.Sprintf("release %d", id), d, func(d impl.Dict) impl.DictRes { return impl.Release(d, id) }, want)
}

func refusedDict(d impl.Dict) impl.DictRes {
	return impl.DictRes{Dict: cloneDict(d)}
}

func TestP5DictNew(t *testing.T) {
	d := impl.DictNew()
	if d.Next != 1 || len(d.Terms) != 0 || !impl.ValidDict(d) {
		t.Fatalf("new: %+v", d)
	}
	if impl.TermId(d, "a") != 0 || impl.TermText(d, 1) != "" || impl.TermText(d, 0) != "" {
		t.Errorf("a new dictionary tells terms")
	}
	checkRelease(t, d, 1, refusedDict(d))
	checkIntern(t, d, "a", impl.DictRes{Ok: true, Id: 1, Dict: words("a")})
}

// validDicts stand at the bounds of ValidDict.
func validDicts() map[string]impl.Dict {
	long := strings.Repeat("x", 30)
	return map[string]impl.Dict{
		"none, next NumMax":  {Next: 2000000000},
		"last number":        {Next: 2, Terms: []impl.Term{{Id: 1, Text: "a", Refs: 1}}},
		"highest number":     {Next: 2000000000, Terms: []impl.Term{{Id: 1999999999, Text: "a", Refs: 1}, {Id: 1, Text: "b", Refs: 1}}},
		"refs NumMax":        {Next: 7, Terms: []impl.Term{{Id: 3, Text: "a", Refs: 2000000000}}},
		"30 bytes":           words(long),
		"1 byte":             words("\x00", "\x01", "\xff"),
		"a shorter first":    words("a", "a\x00", "aa", "ab", "b"),
		"bytes, not letters": words("\x00", "A", "a", "z", "\x7f", "\x80", "\xc3\xa4", "\xff"),
		"numbers descend":    {Next: 9, Terms: []impl.Term{{Id: 8, Text: "a", Refs: 1}, {Id: 7, Text: "b", Refs: 2}, {Id: 1, Text: "c", Refs: 3}}},
		"1200 terms":         manyWords(1200),
		"an empty list":      {Next: 1, Terms: []impl.Term{}},
	}
}

// invalidDicts breaks each rule of ValidDict alone, by one where it is a bound.
func invalidDicts() map[string]impl.Dict {
	with := func(change func(d *impl.Dict)) impl.Dict {
		d := words("a", "c", "e")
		d.Next = 10
		change(&d)
		return d
	}
	return map[string]impl.Dict{
		"zero":                   {},
		"next -1":                {Next: -1},
		"next far below":         {Next: math.MinInt64},
		"next above NumMax":      {Next: 2000000001},
		"next far above":         with(func(d *impl.Dict) { d.Next = math.MaxInt64 }),
		"1201 terms":             manyWords(1201),
		"texts descend":          with(func(d *impl.Dict) { d.Terms[0].Text, d.Terms[1].Text = "c", "a" }),
		"texts descend at last":  with(func(d *impl.Dict) { d.Terms[2].Text = "b" }),
		"a text twice":           with(func(d *impl.Dict) { d.Terms[1].Text = "a" }),
		"a longer one first":     with(func(d *impl.Dict) { d.Terms[0].Text, d.Terms[1].Text = "aa", "a" }),
		"letters, not bytes":     with(func(d *impl.Dict) { d.Terms[0].Text, d.Terms[1].Text = "a", "B" }),
		"bytes above 127 first":  with(func(d *impl.Dict) { d.Terms[0].Text = "\x80" }),
		"an empty text":          with(func(d *impl.Dict) { d.Terms[0].Text = "" }),
		"31 bytes":               with(func(d *impl.Dict) { d.Terms[1].Text = strings.Repeat("c", 31) }),
		"number 0":               with(func(d *impl.Dict) { d.Terms[0].Id = 0 }),
		"number -1":              with(func(d *impl.Dict) { d.Terms[2].Id = -1 }),
		"number next":            with(func(d *impl.Dict) { d.Terms[1].Id = 10 }),
		"number above next":      with(func(d *impl.Dict) { d.Terms[1].Id = math.MaxInt64 }),
		"number next, next 1":    {Next: 1, Terms: []impl.Term{{Id: 1, Text: "a", Refs: 1}}},
		"a number twice":         with(func(d *impl.Dict) { d.Terms[1].Id = 1 }),
		"a number twice, apart":  with(func(d *impl.Dict) { d.Terms[2].Id = 1 }),
		"refs 0":                 with(func(d *impl.Dict) { d.Terms[0].Refs = 0 }),
		"refs -1":                with(func(d *impl.Dict) { d.Terms[2].Refs = -1 }),
		"refs above NumMax":      with(func(d *impl.Dict) { d.Terms[1].Refs = 2000000001 }),
		"refs far above at last": with(func(d *impl.Dict) { d.Terms[2].Refs = math.MaxInt64 }),
	}
}

func TestP5ValidDicts(t *testing.T) {
	for name, d := range validDicts() {
		if !impl.ValidDict(d) || !soundDict(d) {
			t.Errorf("%s: not valid", name)
		}
		for _, term := range d.Terms {
			if impl.TermId(d, term.Text) != term.Id || impl.TermText(d, term.Id) != term.Text {
				t.Errorf("%s: %+v is not found", name, term)
			}
		}
		was := cloneDict(d)
		for _, id := range wildNumbers {
			if text := impl.TermText(d, id); text != "" && impl.TermId(d, text) != id {
				t.Errorf("%s: number %d is %q", name, id, text)
			}
		}
		if !sameDict(d, was) {
			t.Errorf("%s: changed by asking", name)
		}
	}
}

func TestP5InvalidDicts(t *testing.T) {
	for name, d := range invalidDicts() {
		if impl.ValidDict(d) || soundDict(d) {
			t.Errorf("%s: valid", name)
		}
		for _, text := range []string{"", "a", "c", "e", "x", "w00000"} {
			checkIntern(t, d, text, refusedDict(d))
			if id := impl.TermId(d, text); id != 0 {
				t.Errorf("%s: %q is %d", name, text, id)
			}
		}
		for _, id := range []int64{-1, 0, 1, 2, 3, 10, 1201, math.MaxInt64} {
			checkRelease(t, d, id, refusedDict(d))
			if text := impl.TermText(d, id); text != "" {
				t.Errorf("%s: %d is %q", name, id, text)
			}
		}
	}
}

func TestP5TwiceAndBack(t *testing.T) {
	d := words("a", "c")
	a, c := d.Terms[0], d.Terms[1]
	dict := func(next int64, terms ...impl.Term) impl.Dict { return impl.Dict{Next: next, Terms: terms} }
	b1, b2 := impl.Term{Id: 3, Text: "b", Refs: 1}, impl.Term{Id: 3, Text: "b", Refs: 2}
	d = checkIntern(t, d, "b", impl.DictRes{Ok: true, Id: 3, Dict: dict(4, a, b1, c)})
	d = checkIntern(t, d, "b", impl.DictRes{Ok: true, Id: 3, Dict: dict(4, a, b2, c)})
	d = checkRelease(t, d, 3, impl.DictRes{Ok: true, Id: 3, Dict: dict(4, a, b1, c)})
	if impl.TermId(d, "b") != 3 || impl.TermText(d, 3) != "b" {
		t.Errorf("b is gone while it is used")
	}
	d = checkRelease(t, d, 3, impl.DictRes{Ok: true, Id: 3, Dict: dict(4, a, c)})
	if impl.TermId(d, "b") != 0 || impl.TermText(d, 3) != "" {
		t.Errorf("b is told while it is not used")
	}
	d = checkRelease(t, d, 3, refusedDict(d))
	back := impl.Term{Id: 4, Text: "b", Refs: 1}
	d = checkIntern(t, d, "b", impl.DictRes{Ok: true, Id: 4, Dict: dict(5, a, back, c)})
	d = checkRelease(t, d, 3, refusedDict(d))
	d = checkRelease(t, d, 2, impl.DictRes{Ok: true, Id: 2, Dict: dict(5, a, back)})
	d = checkRelease(t, d, 4, impl.DictRes{Ok: true, Id: 4, Dict: dict(5, a)})
	d = checkRelease(t, d, 1, impl.DictRes{Ok: true, Id: 1, Dict: dict(5)})
	checkIntern(t, d, "a", impl.DictRes{Ok: true, Id: 5, Dict: dict(6, impl.Term{Id: 5, Text: "a", Refs: 1})})
}

func TestP5TextLengths(t *testing.T) {
	d := words("m")
	for _, n := range []int{0, 1, 2, 29, 30, 31, 32, 256, 286, 100000} {
		text := strings.Repeat("\x00", n)
		want := refusedDict(d)
		if n >= 1 && n <= 30 {
			want = impl.DictRes{Ok: true, Id: 2, Dict: impl.Dict{Next: 3, Terms: []impl.Term{{Id: 2, Text: text, Refs: 1}, d.Terms[0]}}}
		}
		checkIntern(t, d, text, want)
		if impl.TermId(d, text) != 0 {
			t.Errorf("%d bytes are there", n)
		}
	}
}

func TestP5MissingNumbers(t *testing.T) {
	for _, d := range []impl.Dict{impl.DictNew(), words("a"), {Next: 2000000000, Terms: []impl.Term{{Id: 5, Text: "a", Refs: 2}}}} {
		for _, id := range wildNumbers {
			if len(d.Terms) == 0 || d.Terms[0].Id != id {
				checkRelease(t, d, id, refusedDict(d))
				if impl.TermText(d, id) != "" {
					t.Errorf("%d has a text", id)
				}
			}
		}
	}
}

func TestP5DictMax(t *testing.T) {
	d := manyWords(1200)
	checkIntern(t, d, "new", refusedDict(d))
	more := cloneDict(d)
	more.Terms[7].Refs = 2
	checkIntern(t, d, d.Terms[7].Text, impl.DictRes{Ok: true, Id: 8, Dict: more})
	less := cloneDict(d)
	less.Terms = slices.Delete(less.Terms, 7, 8)
	d = checkRelease(t, d, 8, impl.DictRes{Ok: true, Id: 8, Dict: less})
	full := cloneDict(less)
	full.Next = 1202
	full.Terms = append([]impl.Term{{Id: 1201, Text: "new", Refs: 1}}, full.Terms...)
	d = checkIntern(t, d, "new", impl.DictRes{Ok: true, Id: 1201, Dict: full})
	checkIntern(t, d, "w00007", refusedDict(d))
}

func TestP5NextMax(t *testing.T) {
	d := words("a")
	d.Next = 1999999999
	last := impl.Dict{Next: 2000000000, Terms: []impl.Term{d.Terms[0], {Id: 1999999999, Text: "b", Refs: 1}}}
	d = checkIntern(t, d, "b", impl.DictRes{Ok: true, Id: 1999999999, Dict: last})
	d = checkIntern(t, d, "c", refusedDict(d))
	again := cloneDict(d)
	again.Terms[1].Refs = 2
	checkIntern(t, d, "b", impl.DictRes{Ok: true, Id: 1999999999, Dict: again})
	one := impl.Dict{Next: 2000000000, Terms: d.Terms[:1]}
	d = checkRelease(t, d, 1999999999, impl.DictRes{Ok: true, Id: 1999999999, Dict: one})
	checkIntern(t, d, "b", refusedDict(d))
}

func TestP5RefsMax(t *testing.T) {
	d := words("a", "b")
	at := func(refs int64) impl.Dict {
		c := cloneDict(d)
		c.Terms[1].Refs = refs
		return c
	}
	checkIntern(t, at(1999999998), "b", impl.DictRes{Ok: true, Id: 2, Dict: at(1999999999)})
	checkIntern(t, at(1999999999), "b", impl.DictRes{Ok: true, Id: 2, Dict: at(2000000000)})
	checkIntern(t, at(2000000000), "b", refusedDict(at(2000000000)))
	checkRelease(t, at(2000000000), 2, impl.DictRes{Ok: true, Id: 2, Dict: at(1999999999)})
	other := at(2000000000)
	other.Terms[0].Refs = 2
	checkIntern(t, at(2000000000), "a", impl.DictRes{Ok: true, Id: 1, Dict: other})
}

// usage is a term as the model of the long rows has it.
type usage struct{ id, refs int64 }

// Long rows of interns and releases, held against a plain table.
func TestP5LongRows(t *testing.T) {
	for seed, width := range []int{3, 12, 60, 400} {
		r := rand.New(rand.NewSource(int64(seed)))
		model := map[string]usage{}
		given := map[int64]string{}
		next := int64(1)
		d := impl.DictNew()
		for step := range 1500 {
			text := randomKey(r, width)
			id := r.Int63n(next + 1)
			if r.Intn(3) > 0 && len(d.Terms) > 0 {
				id = d.Terms[r.Intn(len(d.Terms))].Id
			}
			name := given[id]
			want := impl.DictRes{}
			// Rising and falling, so that terms go away and come back.
			intern := r.Intn(10) < 7
			if step/200%2 == 1 {
				intern = r.Intn(10) < 3
			}
			switch use, there := model[text]; {
			case intern && text == "":
			case intern && there:
				want.Ok, want.Id = true, use.id
				model[text] = usage{use.id, use.refs + 1}
			case intern:
				want.Ok, want.Id = true, next
				model[text] = usage{next, 1}
				if given[next] != "" {
					t.Fatalf("number %d is given twice", next)
				}
				given[next] = text
				next++
			default:
				if use, there := model[name]; there && use.id == id {
					want.Ok, want.Id = true, id
					model[name] = usage{id, use.refs - 1}
					if use.refs == 1 {
						delete(model, name)
					}
				}
			}
			want.Dict = modelDict(model, next)
			if intern {
				d = checkIntern(t, d, text, want)
			} else {
				d = checkRelease(t, d, id, want)
			}
			checkLookUps(t, d, model, given, text)
		}
	}
}

func modelDict(model map[string]usage, next int64) impl.Dict {
	d := impl.Dict{Next: next}
	for text, use := range model {
		d.Terms = append(d.Terms, impl.Term{Id: use.id, Text: text, Refs: use.refs})
	}
	slices.SortFunc(d.Terms, func(a, b impl.Term) int { return strings.Compare(a.Text, b.Text) })
	return d
}

func checkLookUps(t *testing.T, d impl.Dict, model map[string]usage, given map[int64]string, text string) {
	t.Helper()
	use := model[text]
	if got := impl.TermId(d, text); got != use.id {
		t.Fatalf("%q is %d, not %d", text, got, use.id)
	}
	for id := int64(1); id < d.Next; id += 1 + d.Next/20 {
		want := given[id]
		if model[want].id != id {
			want = ""
		}
		if got := impl.TermText(d, id); got != want {
			t.Fatalf("%d is %q, not %q", id, got, want)
		}
	}
}

// One thing of a valid dictionary changed at random; mostly it is not valid then.
func TestP5SpoiltDicts(t *testing.T) {
	r := rand.New(rand.NewSource(5))
	for range 20000 {
		d := manyWords(1 + r.Intn(6))
		term := &d.Terms[r.Intn(len(d.Terms))]
		wild := wildNumbers[r.Intn(len(wildNumbers))]
		switch r.Intn(6) {
		case 0:
			d.Next = wild
		case 1:
			term.Id = wild
		case 2:
			term.Refs = wild
		case 3:
			term.Text = fmt.Sprintf("w%05d", r.Intn(6))
		case 4:
			term.Text = strings.Repeat("w", r.Intn(33))
		case 5:
			d.Terms = append(d.Terms, *term)
		}
		want := soundDict(d)
		if got := impl.ValidDict(d); got != want {
			t.Fatalf("valid %v: %+v", got, d)
		}
		last := d.Terms[len(d.Terms)-1]
		if got := impl.TermId(d, last.Text); want && got != last.Id || !want && got != 0 {
			t.Fatalf("%q is %d: %+v", last.Text, got, d)
		}
	}
}
