package source_test

import (
	"math/rand/v2"
	"regexp"
	"slices"
	"strconv"
	"strings"

	"culprit/api"
	"culprit/source"
)

// grammarText is the grammar as the document writes it, with the bounds of numerals behind them.
const grammarText = `
DEF    = "var" NAME "=" NUMBER ";" | "rec" NAME "{" { NAME "=" NUMBER ";" } "}"
       | "chan" NAME NUMERAL:0:3 ";" | "lock" NAME ";" | "file" NAME ";"
       | "proc" NAME BLOCK | "test" NAME BLOCK ;
NUMBER = [ "-" ] NUMERAL:0:999 ;
BLOCK  = "{" { STMT } "}" ;
STMT   = LOCAL "=" EXPR ";" | PLACE "=" EXPR ";"
       | "if" EXPR BLOCK [ "else" BLOCK ] | "while" EXPR BLOCK
       | "go" NAME ";" | "call" NAME ";" | "acquire" NAME ";" | "release" NAME ";"
       | "send" NAME EXPR ";" | "recv" NAME LOCAL ";" | "write" NAME EXPR ";" | "read" NAME LOCAL ";"
       | "draw" LOCAL NUMERAL:2:6 ";" | "now" LOCAL ";" | "sleep" NUMERAL:1:9 ";" | "alloc" NUMERAL:1:99 ";" | "check" EXPR ";" ;
PLACE  = NAME [ "." NAME ] ;
EXPR   = SUM [ ( "<" | "<=" | "==" ) SUM ] ;
SUM    = PROD { ( "+" | "-" ) PROD } ;
PROD   = FACT { "*" FACT } ;
FACT   = NUMERAL:0:999 | LOCAL | PLACE | "kind" | "(" EXPR ")" ;
`

var reserved = []string{"acquire", "alloc", "call", "chan", "check", "draw", "else", "file", "go", "if", "kind", "lock", "now", "proc", "read", "rec", "recv", "release", "send", "sleep", "test", "var", "while", "write"}

var (
	blankPattern   = regexp.MustCompile(`^[ \n]+`)
	tokenPattern   = regexp.MustCompile(`^(?:[a-z][a-z0-9]*|[0-9]+|\$[a-z][a-z0-9]*|<=|==|[(){}=+*<;.-])`)
	wordPattern    = regexp.MustCompile(`^[a-z][a-z0-9]{0,15}$`)
	numeralPattern = regexp.MustCompile(`^[0-9]{1,3}$`)
)

func isWord(s string) bool { return wordPattern.MatchString(s) }

func isName(s string) bool { return isWord(s) && !slices.Contains(reserved, s) }

// refTokens returns the tokens of a text and their offsets; the last offset is the one behind them, where s ends or no token begins.
func refTokens(s string) ([]string, []int) {
	var tokens []string
	var offsets []int
	at := 0
	for {
		at += len(blankPattern.FindString(s[at:]))
		t := tokenPattern.FindString(s[at:])
		offsets = append(offsets, at)
		if t == "" || !isWord(strings.TrimPrefix(t, "$")) && !numeralPattern.MatchString(t) && len(t) > 2 {
			return tokens, offsets
		}
		tokens = append(tokens, t)
		at += len(t)
	}
}

// A rule reads tokens from an index on, and goes on with next behind them, in all ways that there are.
type rule func(at int, next func(at int) bool) bool

// A grammar keeps how far its rules have ever looked: there stands the first token that cannot stand there.
type grammar struct {
	rules  map[string]rule
	words  []string
	tokens []string
	most   int
	e      api.Errno
}

func newGrammar() *grammar {
	g := &grammar{rules: map[string]rule{}, words: strings.Fields(grammarText)}
	for len(g.words) > 0 {
		name := g.words[0]
		g.words = g.words[2:]
		g.rules[name] = g.alternatives()
		g.words = g.words[1:]
	}
	return g
}

func (g *grammar) alternatives() rule {
	l := []rule{g.row()}
	for g.words[0] == "|" {
		g.words = g.words[1:]
		l = append(l, g.row())
	}
	return func(at int, next func(int) bool) bool {
		return slices.ContainsFunc(l, func(r rule) bool { return r(at, next) })
	}
}

func (g *grammar) row() rule {
	all := rule(func(at int, next func(int) bool) bool { return next(at) })
	for !slices.Contains([]string{"|", "]", "}", ")", ";"}, g.words[0]) {
		before, last := all, g.item()
		all = func(at int, next func(int) bool) bool {
			return before(at, func(at int) bool { return last(at, next) })
		}
	}
	return all
}

func (g *grammar) item() rule {
	w := g.words[0]
	g.words = g.words[1:]
	switch {
	case w == "[" || w == "{" || w == "(":
		inner := g.alternatives()
		g.words = g.words[1:]
		return map[string]rule{"[": optional(inner), "{": repeated(inner), "(": inner}[w]
	case w[0] == '"':
		return g.terminal(func(t string) api.Errno { return formUnless(t == w[1:len(w)-1]) })
	case w == "NAME":
		return g.terminal(func(t string) api.Errno { return formUnless(isName(t)) })
	case w == "LOCAL":
		return g.terminal(func(t string) api.Errno { return formUnless(t[0] == '$') })
	case strings.HasPrefix(w, "NUMERAL:"):
		bounds := strings.Split(w, ":")
		return g.terminal(func(t string) api.Errno { return bounded(t, bounds[1], bounds[2]) })
	}
	return func(at int, next func(int) bool) bool { return g.rules[w](at, next) }
}

func optional(inner rule) rule {
	return func(at int, next func(int) bool) bool { return inner(at, next) || next(at) }
}

func repeated(inner rule) rule {
	var again rule
	again = func(at int, next func(int) bool) bool {
		return inner(at, func(at int) bool { return again(at, next) }) || next(at)
	}
	return again
}

func formUnless(fits bool) api.Errno {
	if fits {
		return api.OK
	}
	return api.ErrForm
}

func bounded(t, low, high string) api.Errno {
	if !numeralPattern.MatchString(t) {
		return api.ErrForm
	}
	n, _ := strconv.Atoi(t)
	from, _ := strconv.Atoi(low)
	to, _ := strconv.Atoi(high)
	if n < from || n > to {
		return api.ErrRange
	}
	return api.OK
}

func (g *grammar) terminal(fits func(string) api.Errno) rule {
	return func(at int, next func(int) bool) bool {
		e := api.ErrForm
		if at < len(g.tokens) {
			e = fits(g.tokens[at])
		}
		if e == api.OK {
			return next(at + 1)
		}
		if at > g.most {
			g.most, g.e = at, api.ErrForm
		}
		if at == g.most && e == api.ErrRange {
			g.e = e
		}
		return false
	}
}

// refError returns the offset and the error of a text by the grammar alone.
func (g *grammar) refError(s string) (int, api.Errno) {
	tokens, offsets := refTokens(s)
	g.tokens, g.most, g.e = tokens, 0, api.ErrForm
	ends := func(at int) bool {
		if at > g.most {
			g.most, g.e = at, api.ErrForm
		}
		return at == len(tokens) && offsets[at] == len(s)
	}
	if g.rules["DEF"](0, ends) {
		return 0, api.OK
	}
	return offsets[g.most], g.e
}

// minus is the token "-" of a NUMBER.
const minus = "~"

func numberTokens(n int) []string {
	if n < 0 {
		return []string{minus, strconv.Itoa(-n)}
	}
	return []string{strconv.Itoa(n)}
}

var keywords = map[int]string{source.Var: "var", source.Rec: "rec", source.Chan: "chan", source.Lock: "lock", source.File: "file", source.Proc: "proc", source.Test: "test", source.If: "if", source.While: "while", source.Go: "go", source.Call: "call", source.Send: "send", source.Recv: "recv", source.Acquire: "acquire", source.Release: "release", source.Draw: "draw", source.Now: "now", source.Sleep: "sleep", source.Write: "write", source.Read: "read", source.Check: "check", source.Alloc: "alloc"}

var operators = map[int]string{source.Less: "<", source.Most: "<=", source.Equal: "==", source.Add: "+", source.Sub: "-", source.Mul: "*"}

// outTokens returns the tokens of a valid tree. Where more says so, there are parentheses around an expression that could do without.
func outTokens(n api.Node, more func() bool) []string {
	out := func(l ...api.Node) []string {
		var all []string
		for _, k := range l {
			all = append(all, outTokens(k, more)...)
		}
		return all
	}
	expr := func(n api.Node) []string { return outExpr(n, 0, more) }
	word := keywords[n.Kind]
	switch n.Kind {
	case source.Var:
		return slices.Concat([]string{word, n.Text, "="}, numberTokens(n.N), []string{";"})
	case source.Item:
		return slices.Concat([]string{n.Text, "="}, numberTokens(n.N), []string{";"})
	case source.Rec:
		return slices.Concat([]string{word, n.Text, "{"}, out(n.Kids...), []string{"}"})
	case source.Block:
		return slices.Concat([]string{"{"}, out(n.Kids...), []string{"}"})
	case source.Chan:
		return []string{word, n.Text, strconv.Itoa(n.N), ";"}
	case source.Lock, source.File, source.Go, source.Call, source.Acquire, source.Release:
		return []string{word, n.Text, ";"}
	case source.Proc, source.Test:
		return append([]string{word, n.Text}, out(n.Kids...)...)
	case source.Let:
		return slices.Concat([]string{"$" + n.Text, "="}, expr(n.Kids[0]), []string{";"})
	case source.Set:
		return slices.Concat(placeTokens(n.Kids[0]), []string{"="}, expr(n.Kids[1]), []string{";"})
	case source.If, source.While:
		l := slices.Concat([]string{word}, expr(n.Kids[0]), out(n.Kids[1]))
		if len(n.Kids) > 2 {
			l = append(append(l, "else"), out(n.Kids[2])...)
		}
		return l
	case source.Send, source.Write:
		return slices.Concat([]string{word, n.Text}, expr(n.Kids[0]), []string{";"})
	case source.Recv, source.Read:
		return []string{word, n.Text, "$" + n.Kids[0].Text, ";"}
	case source.Draw:
		return []string{word, "$" + n.Text, strconv.Itoa(n.N), ";"}
	case source.Now:
		return []string{word, "$" + n.Text, ";"}
	case source.Sleep, source.Alloc:
		return []string{word, strconv.Itoa(n.N), ";"}
	}
	return slices.Concat([]string{word}, expr(n.Kids[0]), []string{";"})
}

func placeTokens(n api.Node) []string {
	first, second, two := strings.Cut(n.Text, ".")
	if two {
		return []string{first, ".", second}
	}
	return []string{first}
}

// outExpr returns the tokens of an expression where operations of at least a level need no parentheses.
func outExpr(n api.Node, least int, more func() bool) []string {
	if more() {
		return slices.Concat([]string{"("}, outExpr(n, 0, more), []string{")"})
	}
	switch n.Kind {
	case source.Num:
		return []string{strconv.Itoa(n.N)}
	case source.Local:
		return []string{"$" + n.Text}
	case source.Name, source.Field:
		return placeTokens(n)
	case source.Kind:
		return []string{"kind"}
	}
	var own, left, right int
	switch n.Kind {
	case source.Less, source.Most, source.Equal:
		own, left, right = 1, 2, 2
	case source.Add, source.Sub:
		own, left, right = 2, 2, 3
	case source.Mul:
		own, left, right = 3, 3, 4
	}
	l := slices.Concat(outExpr(n.Kids[0], left, more), []string{operators[n.Kind]}, outExpr(n.Kids[1], right, more))
	if own < least {
		return slices.Concat([]string{"("}, l, []string{")"})
	}
	return l
}

func never() bool { return false }

// refPrint returns the text of a valid tree.
func refPrint(n api.Node) string {
	var b strings.Builder
	before := "("
	for _, t := range outTokens(n, never) {
		if before != "(" && before != "." && before != minus && t != "." && t != ";" && t != ")" {
			b.WriteByte(' ')
		}
		b.WriteString(strings.ReplaceAll(t, minus, "-"))
		before = t
	}
	return b.String()
}

// loose returns a text of a valid tree with other blanks, further parentheses, and leading noughts.
func loose(n api.Node, r *rand.Rand) string {
	var b strings.Builder
	b.WriteString(blanks(r, 2))
	before := " "
	for _, t := range outTokens(n, func() bool { return r.IntN(8) == 0 }) {
		least := 0
		if isAlnum(before[len(before)-1]) && isAlnum(t[0]) {
			least = 1
		}
		for s := blanks(r, 3); ; s = blanks(r, 3) {
			if len(s) >= least {
				b.WriteString(s)
				break
			}
		}
		if numeralPattern.MatchString(t) {
			b.WriteString(strings.Repeat("0", r.IntN(4-len(t))))
		}
		b.WriteString(strings.ReplaceAll(t, minus, "-"))
		before = t
	}
	b.WriteString(blanks(r, 2))
	return b.String()
}

func isAlnum(c byte) bool { return 'a' <= c && c <= 'z' || '0' <= c && c <= '9' }

func blanks(r *rand.Rand, most int) string {
	s := ""
	for range r.IntN(most + 1) {
		s += string(" \n"[r.IntN(2)])
	}
	return s
}

func refDepth(n api.Node) int {
	d := 0
	for _, k := range n.Kids {
		d = max(d, refDepth(k))
	}
	return d + 1
}

func isExpr(n api.Node) bool {
	first, second, two := strings.Cut(n.Text, ".")
	leaf := n.N == 0 && len(n.Kids) == 0
	switch n.Kind {
	case source.Num:
		return n.Text == "" && n.N >= 0 && n.N <= 999 && len(n.Kids) == 0
	case source.Local:
		return isWord(n.Text) && leaf
	case source.Name:
		return isName(n.Text) && leaf
	case source.Field:
		return two && isName(first) && isName(second) && leaf
	case source.Kind:
		return n.Text == "" && leaf
	case source.Less, source.Most, source.Equal, source.Add, source.Sub, source.Mul:
		return n.Text == "" && n.N == 0 && areKids(n, isExpr, isExpr)
	}
	return false
}

func areKids(n api.Node, tests ...func(api.Node) bool) bool {
	if len(n.Kids) != len(tests) {
		return false
	}
	for i, test := range tests {
		if !test(n.Kids[i]) {
			return false
		}
	}
	return true
}

func areAll(n api.Node, test func(api.Node) bool) bool {
	return !slices.ContainsFunc(n.Kids, func(k api.Node) bool { return !test(k) })
}

func isPlace(n api.Node) bool {
	return (n.Kind == source.Name || n.Kind == source.Field) && isExpr(n)
}

func isLocal(n api.Node) bool { return n.Kind == source.Local && isExpr(n) }

func isItem(n api.Node) bool {
	return n.Kind == source.Item && isName(n.Text) && n.N >= -999 && n.N <= 999 && len(n.Kids) == 0
}

func isBlock(n api.Node) bool {
	return n.Kind == source.Block && n.Text == "" && n.N == 0 && areAll(n, isStatement)
}

func isStatement(n api.Node) bool {
	named, local, bare := isName(n.Text) && n.N == 0, isWord(n.Text), n.Text == "" && n.N == 0
	switch n.Kind {
	case source.Let:
		return local && n.N == 0 && areKids(n, isExpr)
	case source.Set:
		return bare && areKids(n, isPlace, isExpr)
	case source.If:
		return bare && (areKids(n, isExpr, isBlock) || areKids(n, isExpr, isBlock, isBlock))
	case source.While:
		return bare && areKids(n, isExpr, isBlock)
	case source.Go, source.Call, source.Acquire, source.Release:
		return named && areKids(n)
	case source.Send, source.Write:
		return named && areKids(n, isExpr)
	case source.Recv, source.Read:
		return named && areKids(n, isLocal)
	case source.Draw:
		return local && n.N >= 2 && n.N <= 6 && areKids(n)
	case source.Now:
		return local && n.N == 0 && areKids(n)
	case source.Sleep:
		return n.Text == "" && n.N >= 1 && n.N <= 9 && areKids(n)
	case source.Alloc:
		return n.Text == "" && n.N >= 1 && n.N <= 99 && areKids(n)
	case source.Check:
		return bare && areKids(n, isExpr)
	}
	return false
}

func isDefinition(n api.Node) bool {
	if !isName(n.Text) {
		return false
	}
	switch n.Kind {
	case source.Var:
		return n.N >= -999 && n.N <= 999 && areKids(n)
	case source.Rec:
		return n.N == 0 && areAll(n, isItem)
	case source.Chan:
		return n.N >= 0 && n.N <= 3 && areKids(n)
	case source.Lock, source.File:
		return n.N == 0 && areKids(n)
	case source.Proc, source.Test:
		return n.N == 0 && areKids(n, isBlock)
	}
	return false
}

// refValid reports whether a tree is valid by a list of what the document says of each kind.
func refValid(n api.Node) bool {
	return isDefinition(n) && refDepth(n) <= 24 && len(refPrint(n)) <= 1024
}

// A maker makes valid trees by chance.
type maker struct{ *rand.Rand }

func newMaker(seed uint64) maker { return maker{rand.New(rand.NewPCG(6, seed))} }

func (m maker) pick(l ...int) int { return l[m.IntN(len(l))] }

func (m maker) name() string {
	l := []string{"a", "b", "x", "q7", "z99", "iff", "go2", "kinds", "abcdefghijklmnop", "p000000000000000"}
	return l[m.IntN(len(l))]
}

func (m maker) local() string {
	l := []string{"a", "y2", "if", "kind", "else", "abcdefghijklmnop"}
	return l[m.IntN(len(l))]
}

func (m maker) place() api.Node {
	if m.IntN(3) == 0 {
		return api.Node{Kind: source.Field, Text: m.name() + "." + m.name()}
	}
	return api.Node{Kind: source.Name, Text: m.name()}
}

func (m maker) expr(depth int) api.Node {
	if depth > 0 && m.IntN(3) > 0 {
		return api.Node{Kind: m.pick(source.Less, source.Most, source.Equal, source.Add, source.Add, source.Sub, source.Sub, source.Mul, source.Mul), Kids: []api.Node{m.expr(depth - 1), m.expr(depth - 1)}}
	}
	switch m.IntN(4) {
	case 0:
		return api.Node{Kind: source.Num, N: m.pick(0, 1, 7, 10, 99, 100, 999)}
	case 1:
		return api.Node{Kind: source.Local, Text: m.local()}
	case 2:
		return api.Node{Kind: source.Kind}
	}
	return m.place()
}

func (m maker) block(depth int) api.Node {
	n := api.Node{Kind: source.Block}
	for range m.IntN(4) {
		n.Kids = append(n.Kids, m.statement(depth))
	}
	return n
}

func (m maker) statement(depth int) api.Node {
	n := api.Node{Kind: source.Let + m.IntN(source.Alloc-source.Let+1)}
	for depth == 0 && (n.Kind == source.If || n.Kind == source.While) {
		n.Kind = source.Let + m.IntN(source.Alloc-source.Let+1)
	}
	switch n.Kind {
	case source.Let:
		n.Text, n.Kids = m.local(), []api.Node{m.expr(3)}
	case source.Set:
		n.Kids = []api.Node{m.place(), m.expr(3)}
	case source.If, source.While:
		n.Kids = []api.Node{m.expr(2), m.block(depth - 1)}
		if n.Kind == source.If && m.IntN(2) == 0 {
			n.Kids = append(n.Kids, m.block(depth-1))
		}
	case source.Go, source.Call, source.Acquire, source.Release:
		n.Text = m.name()
	case source.Send, source.Write:
		n.Text, n.Kids = m.name(), []api.Node{m.expr(3)}
	case source.Recv, source.Read:
		n.Text, n.Kids = m.name(), []api.Node{{Kind: source.Local, Text: m.local()}}
	case source.Draw:
		n.Text, n.N = m.local(), 2+m.IntN(5)
	case source.Now:
		n.Text = m.local()
	case source.Sleep:
		n.N = 1 + m.IntN(9)
	case source.Alloc:
		n.N = 1 + m.IntN(99)
	case source.Check:
		n.Kids = []api.Node{m.expr(3)}
	}
	return n
}

// definition returns a tree that is valid, if its text is short enough.
func (m maker) definition() api.Node {
	n := api.Node{Kind: m.pick(source.Var, source.Rec, source.Chan, source.Lock, source.File, source.Proc, source.Proc, source.Proc, source.Test, source.Test), Text: m.name()}
	switch n.Kind {
	case source.Var:
		n.N = m.IntN(1999) - 999
	case source.Rec:
		for range m.IntN(4) {
			n.Kids = append(n.Kids, api.Node{Kind: source.Item, Text: m.name(), N: m.IntN(1999) - 999})
		}
	case source.Chan:
		n.N = m.IntN(4)
	case source.Proc, source.Test:
		n.Kids = []api.Node{m.block(2)}
	}
	return n
}

// valid returns some valid trees.
func (m maker) valid(count int) []api.Node {
	var l []api.Node
	for len(l) < count {
		if n := m.definition(); refValid(n) {
			l = append(l, n)
		}
	}
	return l
}
