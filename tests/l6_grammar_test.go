package tests

import (
	"regexp"
	"slices"
	"strconv"
	"strings"

	"loop.example/s01136/impl"
)

// grammar is that of 6.3, with the repetitions told by what stands to their left.
var grammar = map[string][][]string{
	"path": {{"meet"}, {"path", "|", "meet"}, {"path", "-", "meet"}},
	"meet": {{"step"}, {"meet", "&", "step"}},
	"step": {
		{"prim"}, {"step", ".", "out", "(", "STR", ")"}, {"step", ".", "in", "(", "STR", ")"},
		{"step", ".", "has", "(", "STR", ",", "STR", ")"},
	},
	"prim": {{"all"}, {"v", "(", "STR", ")"}, {"graph", "STR", "(", "path", ")"}, {"(", "path", ")"}},
}

var makers = []string{"all", "v", "graph", "out", "in", "has", "&", "|", "-"}

var tokenKinds = append([]string{"STR", ".", "(", ")", ","}, makers...)

// item is a rule of the grammar of which what stands ahead of the dot was read, from the token number from on.
type item struct {
	rule            string
	body, dot, from int
}

func (i item) wants() string {
	body := grammar[i.rule][i.body]
	if i.dot == len(body) {
		return ""
	}
	return body[i.dot]
}

// chart is a reader after Earley: as long as its last set is not empty, some text of the grammar begins with the
// tokens that it was fed.
type chart [][]item

func newChart() chart {
	return chart{}.closed([]item{{rule: "path", body: 0}, {rule: "path", body: 1}, {rule: "path", body: 2}})
}

func (c chart) closed(items []item) chart {
	here := len(c)
	c = append(c[:here:here], nil)
	seen := map[item]bool{}
	for len(items) > 0 {
		next := items[0]
		items = items[1:]
		if seen[next] {
			continue
		}
		seen[next] = true
		c[here] = append(c[here], next)
		for body := range grammar[next.wants()] {
			items = append(items, item{rule: next.wants(), body: body, from: here})
		}
		if next.wants() == "" {
			for _, waiting := range c[next.from] {
				if waiting.wants() == next.rule {
					waiting.dot++
					items = append(items, waiting)
				}
			}
		}
	}
	return c
}

// feed is empty at the end if no text of the grammar goes on with this token.
func (c chart) feed(kind string) chart {
	var items []item
	for _, waiting := range c[len(c)-1] {
		if waiting.wants() == kind {
			waiting.dot++
			items = append(items, waiting)
		}
	}
	return c.closed(items)
}

func (c chart) viable() bool {
	return len(c[len(c)-1]) > 0
}

func (c chart) complete() bool {
	for _, done := range c[len(c)-1] {
		if done.rule == "path" && done.from == 0 && done.wants() == "" {
			return true
		}
	}
	return false
}

// lexeme is a token of a text.
type lexeme struct {
	kind, content string
	at            int
}

const piece = `[ !#-\[\]-~]|\\["\\]|\\x[0-9a-f]{2}`

var (
	wordShape  = regexp.MustCompile(`^[a-z]+`)
	strShape   = regexp.MustCompile(`^"(` + piece + `)*"`)
	pieceShape = regexp.MustCompile(piece)
)

// lex gives the token at the beginning of a text, and its length; 0 if it is none.
func lex(text string) (lexeme, int) {
	if word := wordShape.FindString(text); word != "" {
		for _, known := range []string{"all", "v", "graph", "out", "in", "has"} {
			if word == known {
				return lexeme{kind: word}, len(word)
			}
		}
		return lexeme{}, 0
	}
	if str := strShape.FindString(text); str != "" {
		content := ""
		for _, told := range pieceShape.FindAllString(str[1:len(str)-1], -1) {
			content += unquotePiece(told)
		}
		if len(content) < 1 || len(content) > 30 {
			return lexeme{}, 0
		}
		return lexeme{kind: "STR", content: content}, len(str)
	}
	if strings.IndexByte(".(),&|-", text[0]) >= 0 {
		return lexeme{kind: text[:1]}, 1
	}
	return lexeme{}, 0
}

func unquotePiece(told string) string {
	if strings.HasPrefix(told, `\x`) {
		n, _ := strconv.ParseUint(told[2:], 16, 8)
		return string([]byte{byte(n)})
	}
	return told[len(told)-1:]
}

// wantParse tells by the grammar what ParsePath is to answer; the tree is nil with an error.
func wantParse(text string) (int64, int, *asked) {
	if len(text) > 2000 {
		return impl.PathLong, 0, nil
	}
	var tokens []lexeme
	c := newChart()
	made := 0
	for at := 0; ; {
		for at < len(text) && text[at] == ' ' {
			at++
		}
		if at == len(text) {
			break
		}
		next, length := lex(text[at:])
		if length == 0 {
			return impl.PathLex, at, nil
		}
		if c = c.feed(next.kind); !c.viable() {
			return impl.PathToken, at, nil
		}
		if slices.Contains(makers, next.kind) {
			if made++; made > 100 {
				return impl.PathNodes, at, nil
			}
		}
		next.at = at
		tokens = append(tokens, next)
		at += length
	}
	if !c.complete() {
		return impl.PathToken, len(text), nil
	}
	tree := parted(tokens)
	if tree.height() > 64 {
		return impl.PathTall, len(text), nil
	}
	return impl.PathOk, 0, tree
}

// parted reads the tokens of a text of the grammar: they are parted at the last operator of the weakest kind that
// stands in no parentheses.
func parted(tokens []lexeme) *asked {
	for _, weak := range []string{"|-", "&", "."} {
		deep := 0
		for i := len(tokens) - 1; i >= 0; i-- {
			switch kind := tokens[i].kind; {
			case kind == ")":
				deep++
			case kind == "(":
				deep--
			case deep == 0 && strings.Contains(weak, kind):
				return joined(tokens[:i], tokens[i], tokens[i+1:])
			}
		}
	}
	switch tokens[0].kind {
	case "all":
		return all()
	case "v":
		return one(tokens[2].content)
	case "graph":
		return graph(tokens[1].content, parted(tokens[3:len(tokens)-1]))
	}
	return parted(tokens[1 : len(tokens)-1])
}

func joined(left []lexeme, operator lexeme, right []lexeme) *asked {
	a := parted(left)
	switch operator.kind {
	case "|":
		return a.or(parted(right))
	case "-":
		return a.not(parted(right))
	case "&":
		return a.and(parted(right))
	}
	switch right[0].kind {
	case "out":
		return a.out(right[2].content)
	case "in":
		return a.in(right[2].content)
	}
	return a.has(right[2].content, right[4].content)
}
