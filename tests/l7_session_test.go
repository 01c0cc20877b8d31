package tests

import (
	"bytes"
	"fmt"
	"math/rand"
	"regexp"
	"strconv"
	"strings"
	"testing"

	"loop.example/s01136/impl"
)

// Promise 16: Session answers every text of at most SessionMax bytes, one line for each line.

// sessionModel answers lines by patterns of whole lines, and by the ledger.
type sessionModel struct {
	store   impl.Store
	has     bool
	waiting []impl.Change
}

var (
	formatLine = regexp.MustCompile(`\Aformat (0|[1-9][0-9]{0,6})\z`)
	powerLine  = regexp.MustCompile(`\Apower (0|[1-9][0-9]{0,5}|1000000)\z`)
	changeLine = regexp.MustCompile(`(?s)\A(add|del) ([^ ]+) ([^ ]+) ([^ ]+) ([^ ]+)\z`)
	queryLine  = regexp.MustCompile(`(?s)\Aquery (.*)\z`)
	crashLine  = regexp.MustCompile(`\Acrash (-|[01]+)\z`)
)

var codeNames = map[int64]string{
	impl.StOk: "ok", impl.StFull: "full", impl.StLost: "lost", impl.StBatch: "batch", impl.StTerm: "term", impl.StExists: "exists",
	impl.StMissing: "missing", impl.StMany: "many", impl.StCorrupt: "corrupt",
}

func (m *sessionModel) answer(line string) string {
	if f := formatLine.FindStringSubmatch(line); f != nil {
		n, _ := strconv.Atoi(f[1])
		if n < 16 || n > 1024 {
			return "bad"
		}
		d := layLog(n, impl.Super{First: 1}, newLedger().snapshot())
		*m = sessionModel{store: wantOpen(d).Store, has: true}
		return "ok"
	}
	if !m.has {
		return "none"
	}
	if c := crashLine.FindStringSubmatch(line); c != nil {
		var keep []bool
		for _, bit := range strings.Trim(c[1], "-") {
			keep = append(keep, bit == '1')
		}
		res := wantOpen(impl.DiskCrash(m.store.Disk, keep))
		*m = sessionModel{store: res.Store, has: res.Code == impl.StOk}
		return codeNames[res.Code]
	}
	if m.store.Disk.Dead {
		return "lost"
	}
	return m.liveAnswer(line)
}

// liveAnswer is the answer to any other line, of a store whose disk has power.
func (m *sessionModel) liveAnswer(line string) string {
	if p := powerLine.FindStringSubmatch(line); p != nil {
		fuel, _ := strconv.Atoi(p[1])
		m.store.Disk.Fuel = int64(fuel)
		return "ok"
	}
	if c := changeLine.FindStringSubmatch(line); c != nil {
		m.waiting = append(m.waiting, impl.Change{Add: c[1] == "add", Fact: impl.Fact{S: c[2], P: c[3], O: c[4], G: c[5]}})
		return "ok"
	}
	if q := queryLine.FindStringSubmatch(line); q != nil {
		p := impl.ParsePath([]byte(q[1]))
		if p.Err != impl.PathOk {
			return "bad path"
		}
		run := impl.RunPlan(p.Path, m.store.Dict, m.store.Index, impl.DefaultPlan(p.Path, m.store.Dict, m.store.Index))
		told := fmt.Sprint("reads ", run.Reads)
		for _, term := range impl.Meaning(p.Path, validLedger(m.store).facts) {
			told += " " + term
		}
		return told
	}
	switch line {
	case "facts":
		return fmt.Sprint("facts ", len(validLedger(m.store).facts))
	case "checkpoint":
		res := wantCheckpoint(m.store)
		m.store = res.Store
		return codeNames[res.Code]
	case "commit":
		res := wantApply(m.store, m.waiting)
		m.store, m.waiting = res.Store, nil
		if res.Code >= impl.StTerm && res.Code <= impl.StMany {
			return fmt.Sprint(codeNames[res.Code], " ", res.At)
		}
		return codeNames[res.Code]
	}
	return "bad"
}

func wantSession(text string) string {
	if len(text) > 5000 {
		return "long\n"
	}
	var m sessionModel
	var told strings.Builder
	for text != "" {
		line, rest, _ := strings.Cut(text, "\n")
		told.WriteString(m.answer(line) + "\n")
		text = rest
	}
	return told.String()
}

func checkSession(t *testing.T, text string) string {
	t.Helper()
	arg := []byte(text)
	got := string(impl.Session(arg))
	if want := wantSession(text); got != want {
		t.Fatalf("session %q:\n%q, not\n%q", text, got, want)
	}
	lines := strings.Count(text, "\n")
	if text != "" && !strings.HasSuffix(text, "\n") {
		lines++
	}
	if len(text) <= impl.SessionMax && strings.Count(got, "\n") != lines {
		t.Fatalf("session %q: %d lines for %d", text, strings.Count(got, "\n"), lines)
	}
	if !bytes.Equal(arg, []byte(text)) {
		t.Fatalf("session %q: the text is changed", text)
	}
	return got
}

// talk is a session line by line, each with its answer behind " => ".
func talk(t *testing.T, told string) {
	t.Helper()
	var text, want []string
	for _, line := range strings.Split(strings.TrimSpace(told), "\n") {
		said, answer, ok := strings.Cut(line, " => ")
		if !ok {
			t.Fatalf("no answer in %q", line)
		}
		text, want = append(text, strings.TrimLeft(said, "\t")), append(want, answer)
	}
	got := strings.Split(checkSession(t, strings.Join(text, "\n")+"\n"), "\n")
	for i := range want {
		if got[i] != want[i] {
			t.Errorf("line %d, %q: %q, not %q", i, text[i], got[i], want[i])
		}
	}
}

func TestP16Talk(t *testing.T) {
	talk(t, `
		format 64 => ok
		facts => facts 0
		query all => reads 0
		add ann knows bob work => ok
		add bob knows cy work => ok
		add ann knows cy home => ok
		facts => facts 0
		commit => ok
		facts => facts 3
		query all => reads 3 ann bob cy
		query   all  => reads 3 ann bob cy
		query v("ann").out("knows") => reads 2 bob cy
		query graph "home" (all) => reads 1 ann cy
		query all - all => reads 6
		query v("dan") => reads 0
		checkpoint => ok
		del ann knows bob work => ok
		del ann knows bob work => ok
		commit => missing 1
		commit => batch
		facts => facts 3
		add ann knows cy home => ok
		commit => exists 0
		del ann knows bob work => ok
		add 0123456789012345678901234567890 p o g => ok
		commit => term 1
		del ann knows bob work => ok
		format 15 => bad
		commit => ok
		facts => facts 2
		add x y z w => ok
		format 16 => ok
		commit => batch
		facts => facts 0
	`)
}

func TestP16Power(t *testing.T) {
	talk(t, `
		format 16 => ok
		add a p b g => ok
		power 1 => ok
		commit => lost
		facts => lost
		commit => lost
		checkpoint => lost
		power 5 => lost
		add a p b g => lost
		del a p b g => lost
		query all => lost
		query => lost
		nonsense => lost
		format => lost
		format x => lost
		format 016 => lost
		crash => lost
		crash 2 => lost
		crash 1 1 => lost
		 => lost
		format 15 => bad
		format 1025 => bad
		facts => lost
		crash 1 => ok
		facts => facts 1
		commit => batch
		add b p c g => ok
		crash - => ok
		commit => batch
		power 1 => ok
		add b p c g => ok
		commit => lost
		crash 0 => ok
		facts => facts 1
		power 0 => ok
		facts => facts 1
		query all => reads 1 a b
		checkpoint => lost
		crash 111 => ok
		facts => facts 1
		power 0 => ok
		checkpoint => lost
		format 17 => ok
		facts => facts 0
		checkpoint => ok
		power 3 => ok
		checkpoint => lost
		crash 1 => ok
		add a p b g => ok
		power 2 => ok
		commit => ok
		add c p d g => ok
		commit => lost
		crash 1 => ok
		facts => facts 1
	`)
}

func TestP16WithoutStore(t *testing.T) {
	talk(t, `
		facts => none
		 => none
		commit => none
		checkpoint => none
		power 1 => none
		add a p b g => none
		query all => none
		query v( => none
		crash - => none
		crash 1 => none
		nonsense => none
		format => none
		format x => none
		format  16 => none
		format 16  => none
		format 016 => none
		format 15 => bad
		format 0 => bad
		format 9999999 => bad
		format 10000000 => none
		facts => none
		format 16 => ok
		facts => facts 0
	`)
}

// Lines that are not as said, of a store with power and of one without: they change nothing.
func TestP16WrongLines(t *testing.T) {
	wrong := []string{
		"", " ", "  ", "format", "format ", "format  16", "format 16 ", " format 16", "format 16 16", "format +16", "format -16", "format 0x10", "format 016",
		"format 00", "format 10000000", "format 00000016", "format 1\xef\xbc\x96", "Format 16", "FORMAT 16", "format\t16", "format 16\r",
		"power", "power ", "power 01", "power -1", "power 1000001", "power 9999999", "power 00", "power x", "power 1 1", "power 1 ", "power  1", "power 1.0",
		"add", "add ", "add a", "add a p b", "add a p b ", "add  a p b g", "add a  b g", "add a p b  g", "add a p b g ", "add a p b g h", "add    ", " add a p b g", "adda p b g",
		"del", "del a p b", "del a p b g h", "del a  b g", "del a p b g ", "delete a p b g",
		"commit ", " commit", "commit 1", "commits", "Commit", "commit\r", "checkpoint ", "checkpoint 1", "check", "facts ", "facts 1", " facts", "fact", "facts\x00",
		"query", "Query all", " query all", "queryall", "query\tall",
		"crash", "crash ", "crash 2", "crash 012", "crash 1 ", "crash  1", "crash 1 1", "crash --", "crash -1", "crash 1-", "crash x", " crash 1", "crash 1\r",
		"none", "ok", "\x00", "\xff\xfe", "long", "session",
	}
	for _, line := range wrong {
		got := checkSession(t, "format 16\nadd a p b g\n"+line+"\ncommit\nfacts\npower 0\ncheckpoint\n"+line+"\ncrash -\nfacts")
		if got != "ok\nok\nbad\nok\nfacts 1\nok\nlost\nlost\nok\nfacts 1\n" {
			t.Errorf("%q: %q", line, got)
		}
		if got := checkSession(t, line+"\n"); got != "none\n" {
			t.Errorf("%q without a store: %q", line, got)
		}
	}
	for _, path := range []string{"", " ", "v(", "all all", "all\r", "query all", "\x00", strings.Repeat("a", 2001)} {
		if got := checkSession(t, "format 16\nquery "+path+"\nfacts"); got != "ok\nbad path\nfacts 0\n" {
			t.Errorf("path %q: %q", path, got)
		}
	}
}

// twentyLines are lines of this word about facts whose objects are numbers from this one on.
func twentyLines(word string, from int) string {
	var told strings.Builder
	for i := range 20 {
		fmt.Fprintf(&told, "%s s p %d g\n", word, from+i)
	}
	return told.String()
}

// What a commit tells, at the edges of a batch and of a text.
func TestP16Commits(t *testing.T) {
	long := func(size int) string {
		return "add " + strings.Repeat("a", size) + " " + strings.Repeat("b", 30) + " " + strings.Repeat("c", 30) + " " + strings.Repeat("d", 30) + "\n"
	}
	rows := []struct{ text, last string }{
		{"format 1024\n" + twentyLines("add", 0) + "commit", "ok"},
		{"format 1024\n" + twentyLines("add", 0) + "add a b c d\ncommit", "batch"},
		{"format 1024\n" + twentyLines("add", 0) + "add a b c d\ncommit\nfacts", "facts 0"},
		{"format 16\n" + long(30) + long(29) + "commit", "ok"},
		{"format 16\n" + long(30) + long(29) + long(28) + "commit", "full"},
		{"format 16\n" + long(30) + long(29) + long(28) + "commit\ncommit", "batch"},
		{"format 1024\n" + twentyLines("add", 0) + "commit\n" + twentyLines("add", 19) + "commit", "exists 0"},
		{"format 1024\n" + twentyLines("add", 0) + "commit\n" + twentyLines("del", 1) + "commit", "missing 19"},
		{"format 1024\n" + twentyLines("add", 0) + "commit\n" + twentyLines("del", 0) + "commit\nfacts", "facts 0"},
		{"format 16\n" + long(30) + "commit", "ok"},
		{"format 16\n" + long(31) + "commit", "term 0"},
		{"format 16\nadd a b c d\n" + long(31) + "commit", "term 1"},
		{"format 16\npower 1000000\nadd a b c d\ncommit\ncrash " + strings.Repeat("01", 2000), "ok"},
	}
	for i, row := range rows {
		if got := checkSession(t, row.text); !strings.HasSuffix(got, "\n"+row.last+"\n") {
			t.Errorf("row %d: %q", i, got)
		}
	}
}

// A change of four new terms takes less of a batch than of a snapshot: the batch has room, the snapshot has none.
func TestP16Full(t *testing.T) {
	text := "format 16\n"
	for i := range 12 {
		text += fmt.Sprintf("add s%d p%d o%d g%d\n", i, i, i, i)
	}
	got := checkSession(t, text+"commit\ncheckpoint\nfacts\nadd x p y g\ncommit\nadd x p z g\ncommit\nadd x p w g\ncommit\nfacts\n")
	if !strings.HasSuffix(got, "ok\nfull\nfacts 12\nok\nok\nok\nok\nok\nfull\nfacts 14\n") {
		t.Errorf("full: %q", got)
	}
}

// 300 facts and one more: the text just holds them.
func TestP16Many(t *testing.T) {
	var text strings.Builder
	text.WriteString("format 1024\n")
	letters := "abcdefghijklmnopqrst"
	for i := range 301 {
		fmt.Fprintf(&text, "add %c %c a a\n", letters[i/20], letters[i%20])
		if i%20 == 19 || i == 300 {
			text.WriteString("commit\n")
		}
	}
	text.WriteString("facts")
	if text.Len() > impl.SessionMax {
		t.Fatalf("%d bytes", text.Len())
	}
	if got := checkSession(t, text.String()); !strings.HasSuffix(got, "\nok\nmany 0\nfacts 300\n") {
		t.Errorf("many: %q", got)
	}
}

func TestP16Lengths(t *testing.T) {
	for _, row := range []struct{ text, want string }{
		{"", ""}, {"\n", "none\n"}, {"\n\n", "none\nnone\n"}, {"x", "none\n"}, {"format 16", "ok\n"}, {"format 16\n", "ok\n"},
		{"format 16\n\n", "ok\nbad\n"}, {"format 16\n\nfacts", "ok\nbad\nfacts 0\n"}, {"\nformat 16\nfacts", "none\nok\nfacts 0\n"},
	} {
		if got := checkSession(t, row.text); got != row.want {
			t.Errorf("%q: %q", row.text, got)
		}
	}
	for _, n := range []int{4999, 5000, 5001, 5002, 20001} {
		for _, text := range []string{
			strings.Repeat("\n", n),
			strings.Repeat("x", n),
			("format 16\n" + strings.Repeat("facts\n", n))[:n],
			strings.Repeat(" ", n-1) + "\n",
			"format 16\nquery " + strings.Repeat(" ", n-19) + "all",
		} {
			got := checkSession(t, text)
			if (got == "long\n") != (n > impl.SessionMax) {
				t.Errorf("%d bytes, %q..: %q..", n, text[:12], got[:min(len(got), 12)])
			}
		}
	}
	if got := impl.Session(nil); len(got) != 0 {
		t.Errorf("nil: %q", got)
	}
}

// Sessions by chance: lines as said, over a few terms, with some that are not.
func TestP16DrawnSessions(t *testing.T) {
	for seed := range int64(150) {
		r := rand.New(rand.NewSource(700 + seed))
		text := drawnSession(r)
		if r.Intn(3) == 0 {
			b := []byte(text)
			for range 1 + r.Intn(4) {
				b[r.Intn(len(b))] = []byte{' ', '\n', '0', '1', '-', 'a', 0, 0xff, byte(r.Intn(256))}[r.Intn(9)]
			}
			text = string(b)
		}
		checkSession(t, text)
	}
	r := rand.New(rand.NewSource(699))
	for range 100 {
		checkSession(t, string(randomBytes(r, r.Intn(5003))))
	}
}

func drawnSession(r *rand.Rand) string {
	terms := []string{"a", "b", "p", "g", "\xe9", strings.Repeat("t", 28+r.Intn(4))}
	term := func() string { return terms[r.Intn(len(terms))] }
	text := fmt.Sprintf("format %d\n", 15+r.Intn(30))
	size := 200 + r.Intn(4700)
	for len(text) < size {
		switch r.Intn(14) {
		case 0:
			text += "checkpoint"
		case 1:
			text += fmt.Sprint("power ", r.Intn(40))
		case 2, 3:
			text += "crash " + []string{"-", "0", "1", "11", "0101", "1111111", "2"}[r.Intn(7)]
		case 4:
			text += "query " + asksOf(r).path(1+r.Intn(5)).print()
		case 5:
			text += "facts"
		case 6, 7:
			text += "commit"
		default:
			text += fmt.Sprintf("%s %s %s %s %s", []string{"add", "add", "del"}[r.Intn(3)], term(), term(), term(), term())
		}
		text += "\n"
	}
	return text[:min(len(text), 5000)]
}
