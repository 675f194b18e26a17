package typing_test

import (
	"math/rand/v2"
	"regexp"
	"slices"
	"strconv"
	"strings"

	"culprit/api"
	"culprit/hash"
	"culprit/source"
)

// The reference knows the tokens of texts, not their trees.

var tokenPattern = regexp.MustCompile(`[a-z][a-z0-9]*|[0-9]+|\$[a-z][a-z0-9]*|<=|==|[^ \n]`)

var namePattern = regexp.MustCompile(`^[a-z][a-z0-9]*$`)

// fitting has the word of the definition that fits what a word uses.
var fitting = map[string]string{"go": "proc", "call": "proc", "acquire": "lock", "release": "lock", "send": "chan", "recv": "chan", "write": "file", "read": "file"}

// others are the further words of the grammar.
var others = []string{"var", "rec", "chan", "lock", "file", "proc", "test", "if", "else", "while", "draw", "now", "sleep", "alloc", "check", "kind"}

// A refUse is a use of a name, the word of the definition that fits it, and the word that uses it, if there is one.
type refUse struct{ name, fits, field, by string }

func refTokens(text string) []string { return tokenPattern.FindAllString(text, -1) }

// refUses returns what a text uses that can be read.
func refUses(text string) []refUse {
	tokens := refTokens(text)
	if tokens[0] != "proc" && tokens[0] != "test" {
		return nil
	}
	var l []refUse
	for i := 2; i < len(tokens); i++ {
		t, before := tokens[i], tokens[i-1]
		switch {
		case !namePattern.MatchString(t) || fitting[t] != "" || slices.Contains(others, t):
		case fitting[before] != "":
			l = append(l, refUse{t, fitting[before], "", before})
		case tokens[i+1] == ".":
			l = append(l, refUse{t, "rec", tokens[i+2], ""})
			i += 2
		default:
			l = append(l, refUse{t, "var", "", ""})
		}
	}
	return l
}

// refFields returns the names of the fields of a text that can be read.
func refFields(text string) []string {
	tokens := refTokens(text)
	if tokens[0] != "rec" {
		return nil
	}
	var l []string
	for i := 3; i < len(tokens); i++ {
		if namePattern.MatchString(tokens[i]) {
			l = append(l, tokens[i])
		}
	}
	return l
}

func refError(text string) api.Errno {
	_, _, e := source.Parse(text)
	return e
}

// indexOf returns the index of the first definition with a name, or -1.
func indexOf(l []api.Def, name string) int {
	return slices.IndexFunc(l, func(d api.Def) bool { return d.Name == name })
}

func isRepeated(l []string) bool {
	sorted := slices.Sorted(slices.Values(l))
	return len(slices.Compact(sorted)) < len(l)
}

func refOwn(l []api.Def, i int) api.Errno {
	d := l[i]
	switch {
	case refError(d.Text) != api.OK:
		return refError(d.Text)
	case refTokens(d.Text)[1] != d.Name:
		return api.ErrName
	case indexOf(l, d.Name) < i || isRepeated(refFields(d.Text)):
		return api.ErrTwice
	}
	return api.OK
}

func refFit(l []api.Def, i int) api.Errno {
	var none, misfit, noField bool
	for _, u := range refUses(l[i].Text) {
		at := indexOf(l, u.name)
		switch {
		case at < 0:
			none = true
		case refTokens(l[at].Text)[0] != u.fits:
			misfit = true
		case u.field != "" && !slices.Contains(refFields(l[at].Text), u.field):
			noField = true
		}
	}
	switch {
	case none:
		return api.ErrNone
	case misfit:
		return api.ErrType
	case noField:
		return api.ErrNone
	}
	return api.OK
}

// closure returns whether one definition leads to another in at least one step, for all of them.
func closure(l []api.Def, is func(u refUse) bool) [][]bool {
	leads := make([][]bool, len(l))
	for i, d := range l {
		leads[i] = make([]bool, len(l))
		for _, u := range refUses(d.Text) {
			if is(u) {
				leads[i][indexOf(l, u.name)] = true
			}
		}
	}
	for k := range l {
		for i := range l {
			for j := range l {
				leads[i][j] = leads[i][j] || leads[i][k] && leads[k][j]
			}
		}
	}
	return leads
}

func isCall(u refUse) bool { return u.by == "call" }

func refCheck(l []api.Def) (int, api.Errno) {
	if len(l) > 24 {
		return 0, api.ErrLimit
	}
	for _, stage := range []func(l []api.Def, i int) api.Errno{refOwn, refFit} {
		for i := range l {
			if e := stage(l, i); e != api.OK {
				return i, e
			}
		}
	}
	calls := closure(l, isCall)
	for i := range l {
		if calls[i][i] {
			return i, api.ErrCycle
		}
	}
	return len(l), api.OK
}

func refTests(l []api.Def) []string {
	if _, e := refCheck(l); e != api.OK {
		return nil
	}
	var names []string
	for _, d := range l {
		if refTokens(d.Text)[0] == "test" {
			names = append(names, d.Name)
		}
	}
	slices.Sort(names)
	return names
}

func refUsed(l []api.Def, name string) ([]string, api.Errno) {
	at := indexOf(l, name)
	if at < 0 {
		return nil, api.ErrNone
	}
	if e := refError(l[at].Text); e != api.OK {
		return nil, e
	}
	names := map[string]bool{}
	for _, u := range refUses(l[at].Text) {
		names[u.name] = true
	}
	var sorted []string
	for n := range names {
		sorted = append(sorted, n)
	}
	slices.Sort(sorted)
	return sorted, api.OK
}

func refSlice(l []api.Def, name string) ([]api.Def, api.Errno) {
	if _, e := refCheck(l); e != api.OK {
		return nil, e
	}
	at := indexOf(l, name)
	if at < 0 {
		return nil, api.ErrNone
	}
	leads := closure(l, func(refUse) bool { return true })
	var slice []api.Def
	for _, d := range refSort(l) {
		if d.Name == name || leads[at][indexOf(l, d.Name)] {
			slice = append(slice, d)
		}
	}
	return slice, api.OK
}

// refSort sorts by insertion behind all that are not greater.
func refSort(l []api.Def) []api.Def {
	var sorted []api.Def
	for _, d := range l {
		at := len(sorted)
		for at > 0 && sorted[at-1].Name > d.Name {
			at--
		}
		sorted = slices.Insert(sorted, at, d)
	}
	return sorted
}

func refMeaning(text string) string {
	n, _, e := source.Parse(text)
	if e != api.OK {
		return text
	}
	return source.Print(n)
}

// refParts returns the parts of the digest.
func refParts(l []api.Def) []string {
	var parts []string
	for _, d := range refSort(l) {
		parts = append(parts, d.Name, refMeaning(d.Text))
	}
	return parts
}

func refDigest(l []api.Def) api.Digest { return hash.Of(api.TagProgram, refParts(l)...) }

// Marks around an expression that may have further parentheses.
const (
	mayOpen  = "["
	mayClose = "]"
)

// A draft is a definition as tokens, with marks; render makes texts of it.
type draft struct {
	name   string
	tokens []string
}

// A maker makes definitions by chance. A name that is used is mostly that of a definition that fits.
type maker struct {
	*rand.Rand
	names  []string
	kinds  map[string]string
	fields map[string][]string
	wrong  float64 // how often a name is a wrong one
	cyclic float64 // how often a call may lead anywhere
}

func newRand(seed uint64) *rand.Rand { return rand.New(rand.NewPCG(7, seed)) }

var allNames = []string{"a", "b", "c", "d", "e", "f", "g", "h", "aa", "a1", "b2", "z", "y10", "y9", "x", "q"}

// newMaker takes some names for definitions, and a kind for each of them.
func newMaker(r *rand.Rand, wrong, cyclic float64) maker {
	m := maker{r, slices.Clone(allNames), map[string]string{}, map[string][]string{}, wrong, cyclic}
	r.Shuffle(len(m.names), func(i, j int) { m.names[i], m.names[j] = m.names[j], m.names[i] })
	m.names = m.names[:r.IntN(len(m.names)+1)]
	words := []string{"var", "var", "rec", "chan", "lock", "file", "proc", "proc", "proc", "proc", "test", "test"}
	for _, n := range m.names {
		m.kinds[n] = words[r.IntN(len(words))]
		if m.kinds[n] == "rec" {
			m.fields[n] = []string{"a", "b", "x", "n1"}[:r.IntN(5)]
		}
	}
	return m
}

func (m maker) chance(p float64) bool { return m.Float64() < p }

// name returns a name of a kind, mostly of a definition, or "" if there is none.
func (m maker) name(kind string) string {
	if m.chance(m.wrong) {
		return allNames[m.IntN(len(allNames))]
	}
	var l []string
	for _, n := range m.names {
		if m.kinds[n] == kind {
			l = append(l, n)
		}
	}
	if len(l) == 0 {
		return ""
	}
	return l[m.IntN(len(l))]
}

func (m maker) local() string { return []string{"$a", "$go", "$x", "$call"}[m.IntN(4)] }

// place returns a variable or a field, or nothing if there is none.
func (m maker) place() []string {
	if m.IntN(2) == 0 {
		if n := m.name("var"); n != "" {
			return []string{n}
		}
	}
	n := m.name("rec")
	if n == "" || len(m.fields[n]) == 0 && !m.chance(m.wrong) {
		return nil
	}
	fields := m.fields[n]
	if len(fields) == 0 || m.chance(m.wrong) {
		fields = allNames
	}
	return []string{n, ".", fields[m.IntN(len(fields))]}
}

func (m maker) factor(depth int) []string {
	switch m.IntN(6) {
	case 0:
		return []string{"kind"}
	case 1:
		return []string{m.local()}
	case 2:
		if depth > 0 {
			return slices.Concat([]string{"("}, m.expr(depth-1), []string{")"})
		}
	case 3, 4:
		if p := m.place(); p != nil {
			return p
		}
	}
	return []string{strconv.Itoa(m.IntN(1000))}
}

// expr returns an expression. Each operand, and all of it, may have further parentheses.
func (m maker) expr(depth int) []string {
	marked := func(l []string) []string { return slices.Concat([]string{mayOpen}, l, []string{mayClose}) }
	l := marked(m.factor(depth))
	for range m.IntN(3) {
		l = slices.Concat(l, []string{[]string{"+", "-", "*"}[m.IntN(3)]}, marked(m.factor(depth)))
	}
	if m.IntN(3) == 0 {
		l = slices.Concat(l, []string{[]string{"<", "<=", "=="}[m.IntN(3)]}, marked(m.factor(depth)))
	}
	return marked(l)
}

func (m maker) block(depth int, self string) []string {
	l := []string{"{"}
	for range m.IntN(5) {
		l = append(l, m.statement(depth, self)...)
	}
	return append(l, "}")
}

// callee returns a procedure ahead in the list of names, so that there is no cycle, if calls may not lead anywhere.
func (m maker) callee(self string) string {
	n := m.name("proc")
	if m.chance(m.cyclic) || m.chance(m.wrong) || slices.Index(m.names, n) < slices.Index(m.names, self) {
		return n
	}
	return ""
}

func (m maker) statement(depth int, self string) []string {
	named := func(word, name string, more ...string) []string {
		if name == "" {
			return []string{"alloc", "1", ";"}
		}
		return slices.Concat([]string{word, name}, more, []string{";"})
	}
	switch m.IntN(18) {
	case 0:
		return slices.Concat([]string{m.local(), "="}, m.expr(2), []string{";"})
	case 1, 2:
		if p := m.place(); p != nil {
			return slices.Concat(p, []string{"="}, m.expr(2), []string{";"})
		}
	case 3, 4:
		if depth > 0 {
			l := slices.Concat([]string{"if"}, m.expr(1), m.block(depth-1, self))
			if m.IntN(2) == 0 {
				l = slices.Concat(l, []string{"else"}, m.block(depth-1, self))
			}
			return l
		}
	case 5:
		if depth > 0 {
			return slices.Concat([]string{"while"}, m.expr(1), m.block(depth-1, self))
		}
	case 6:
		return named("go", m.name("proc"))
	case 7, 8, 15, 16:
		return named("call", m.callee(self))
	case 9:
		return named([]string{"acquire", "release"}[m.IntN(2)], m.name("lock"))
	case 10:
		return named("send", m.name("chan"), m.expr(1)...)
	case 11:
		return named("recv", m.name("chan"), m.local())
	case 12:
		return named("write", m.name("file"), m.expr(1)...)
	case 13:
		return named("read", m.name("file"), m.local())
	case 14:
		return [][]string{{"draw", m.local(), "3", ";"}, {"now", m.local(), ";"}, {"sleep", "9", ";"}}[m.IntN(3)]
	}
	return slices.Concat([]string{"check"}, m.expr(2), []string{";"})
}

func (m maker) definition(name string) []string {
	word := m.kinds[name]
	l := []string{word, name}
	switch word {
	case "var":
		return append(l, "=", strconv.Itoa(m.IntN(9)), ";")
	case "rec":
		l = append(l, "{")
		for _, f := range m.fields[name] {
			l = append(l, f, "=", "-", strconv.Itoa(m.IntN(9)), ";")
		}
		return append(l, "}")
	case "chan":
		return append(l, strconv.Itoa(m.IntN(4)), ";")
	case "proc", "test":
		return append(l, m.block(2, name)...)
	}
	return append(l, ";")
}

// drafts returns definitions, in any order, with short texts.
func (m maker) drafts() []draft {
	var l []draft
	for _, n := range m.names {
		d := draft{n, m.definition(n)}
		for len(strings.Join(d.tokens, "")) > 400 {
			d.tokens = m.definition(n)
		}
		l = append(l, d)
	}
	m.Shuffle(len(l), func(i, j int) { l[i], l[j] = l[j], l[i] })
	return l
}

// spoil makes one thing wrong, or leaves all as it is.
func (m maker) spoil(l []draft) []draft {
	if len(l) == 0 {
		return l
	}
	i, j := m.IntN(len(l)), m.IntN(len(l))
	tokens := slices.Clone(l[i].tokens)
	switch m.IntN(8) {
	case 0:
		return slices.Delete(l, i, i+1)
	case 1:
		return slices.Insert(l, i, l[j])
	case 2:
		l[i].name = l[j].name
	case 3:
		l[i].tokens = tokens[:m.IntN(len(tokens))]
	case 4:
		tokens[1] = allNames[m.IntN(len(allNames))]
		l[i].tokens = tokens
	case 5:
		return slices.Insert(l, i, draft{"q", []string{"rec", "q", "{", "a", "=", "1", ";", "b", "=", "1", ";", "a", "=", "2", ";", "}"}})
	case 6:
		return slices.Insert(l, i, draft{"c", []string{"chan", "c", "4", ";"}})
	}
	return l
}

// plain returns texts with a blank between tokens, without further parentheses.
func plain(l []draft) []api.Def {
	return render(l, func(string) string { return " " }, func() bool { return false })
}

// loose returns texts with other blanks and further parentheses.
func loose(l []draft, r *rand.Rand) []api.Def {
	blanks := func(least string) string {
		s := least
		for range max(0, r.IntN(5)-2) {
			s += string(" \n"[r.IntN(2)])
		}
		if least != "" && r.IntN(2) == 0 {
			return "\n" + s[1:]
		}
		return s
	}
	return render(l, blanks, func() bool { return r.IntN(4) == 0 })
}

// render returns the texts of drafts. Between two tokens there is what blanks makes of the least that must be there.
func render(l []draft, blanks func(least string) string, more func() bool) []api.Def {
	var defs []api.Def
	for _, d := range l {
		var b strings.Builder
		var open []bool
		before := ""
		for _, t := range d.tokens {
			switch t {
			case mayOpen:
				open = append(open, more())
				t = "("
				if !open[len(open)-1] {
					continue
				}
			case mayClose:
				is := open[len(open)-1]
				open = open[:len(open)-1]
				t = ")"
				if !is {
					continue
				}
			}
			least := ""
			if before != "" && isAlnum(before[len(before)-1]) && isAlnum(t[0]) {
				least = " "
			}
			b.WriteString(blanks(least))
			b.WriteString(t)
			before = t
		}
		b.WriteString(blanks(""))
		defs = append(defs, api.Def{Name: d.name, Text: b.String()})
	}
	return defs
}

func isAlnum(c byte) bool { return 'a' <= c && c <= 'z' || '0' <= c && c <= '9' }
