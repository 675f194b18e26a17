package code_test

import (
	"math/rand/v2"
	"slices"
	"strconv"
	"strings"

	"culprit/api"
	"culprit/code"
)

// The reference makes definitions by chance, together with the instructions that these have to become, so that it reads no texts.

// words has the words of the operations, in their order.
var words = strings.Fields("push load store machine add sub mul less most equal jump zero call back check alloc get put go send recv acquire release draw now sleep write read end")

// listOf has the kind of what an instruction names by its word.
var listOf = map[string]string{"get": "var", "put": "var", "send": "chan", "recv": "chan", "acquire": "lock", "release": "lock", "write": "file", "read": "file", "call": "proc", "go": "proc"}

// A definition is one with the tokens of its text. The lines of a proc or a test are its instructions with names in place of numbers; a line that begins with "@" is a label, "#" stands ahead of each statement.
type definition struct {
	kind, name string
	cells      []api.Cell // of a var, a rec or a chan
	tokens     []string
	lines      []string
}

// Marks around an expression that may have further parentheses.
const (
	mayOpen  = "["
	mayClose = "]"
)

// A reference is the code of a test, and the indexes at which statements begin.
type reference struct {
	code       code.Code
	statements []int
}

func sortedCells(l []api.Cell) []api.Cell {
	l = slices.Clone(l)
	slices.SortFunc(l, func(a, b api.Cell) int { return strings.Compare(a.Name, b.Name) })
	return l
}

// namesIn returns the names of the definitions that some lines name.
func namesIn(lines []string) []string {
	var l []string
	for _, s := range lines {
		f := strings.Fields(s)
		if listOf[f[0]] != "" {
			name, _, _ := strings.Cut(f[1], ".")
			l = append(l, name)
		}
	}
	return l
}

// rests returns the definitions on which a test rests, sorted.
func rests(l []definition, test string) []definition {
	need := []string{test}
	var out []definition
	for i := 0; i < len(need); i++ {
		if slices.Contains(need[:i], need[i]) {
			continue
		}
		for _, d := range l {
			if d.name == need[i] {
				out = append(out, d)
				need = append(need, namesIn(d.lines)...)
			}
		}
	}
	slices.SortFunc(out, func(a, b definition) int { return strings.Compare(a.name, b.name) })
	return out
}

// refCompile returns the code of a test of definitions that build.
func refCompile(l []definition, test string) reference {
	var r reference
	c := &r.code
	var procs []definition
	var last definition
	for _, d := range rests(l, test) {
		switch {
		case d.name == test:
			last = d
		case d.kind == "proc":
			procs = append(procs, d)
		case d.kind == "var" || d.kind == "rec":
			c.Vars = sortedCells(append(c.Vars, d.cells...))
		case d.kind == "chan":
			c.Chans = append(c.Chans, d.cells...)
		case d.kind == "lock":
			c.Locks = append(c.Locks, d.name)
		case d.kind == "file":
			c.Files = append(c.Files, d.name)
		}
	}
	procs = append(procs, last)
	for _, d := range procs {
		c.Names = append(c.Names, d.name)
	}
	for i, d := range procs {
		r.assemble(i, d)
	}
	return r
}

// assemble appends the instructions of a procedure.
func (r *reference) assemble(number int, d definition) {
	c := &r.code
	var locals []string
	for _, t := range d.tokens {
		if strings.HasPrefix(t, "$") && !slices.Contains(locals, t) {
			locals = append(locals, t)
		}
	}
	labels := map[string]int{}
	at := len(c.Instrs)
	c.Begins = append(c.Begins, at)
	c.Locals = append(c.Locals, len(locals))
	for _, s := range d.lines {
		switch {
		case s[0] == '@':
			labels[s] = at
		case s == "#":
			r.statements = append(r.statements, at)
		default:
			at++
		}
	}
	checks := 0
	for _, s := range d.lines {
		if s[0] == '@' || s == "#" {
			continue
		}
		f := strings.Fields(s)
		x := api.Instr{Op: slices.Index(words, f[0])}
		if f[0] == "check" {
			x.A, x.B = checks, number
			checks++
		}
		for i, field := range []*int{&x.A, &x.B} {
			if i+1 < len(f) {
				*field = r.number(f[0], f[i+1], locals, labels)
			}
		}
		c.Instrs = append(c.Instrs, x)
	}
}

// number returns the number for which a word of a line stands.
func (r *reference) number(op, word string, locals []string, labels map[string]int) int {
	named := func(c api.Cell) bool { return c.Name == word }
	if n, e := strconv.Atoi(word); e == nil {
		return n
	}
	switch word[0] {
	case '$':
		return slices.Index(locals, word)
	case '@':
		return labels[word]
	}
	switch listOf[op] {
	case "var":
		return slices.IndexFunc(r.code.Vars, named)
	case "chan":
		return slices.IndexFunc(r.code.Chans, named)
	case "lock":
		return slices.Index(r.code.Locks, word)
	case "file":
		return slices.Index(r.code.Files, word)
	}
	return slices.Index(r.code.Names, word)
}

func newRand(seed uint64) *rand.Rand { return rand.New(rand.NewPCG(8, seed)) }

// A maker makes definitions by chance that build.
type maker struct {
	*rand.Rand
	names  map[string][]string // by kind; those of vars with the fields of recs
	called []string            // the procs that may be called, so that no calls lead back
	labels int
}

var allNames = []string{"a", "b", "c", "d", "e", "f", "g", "h", "i", "aa", "a1", "b2", "z", "y10", "y9", "x", "q", "g1", "ga", "g0"}

// program returns definitions, in any order, and the names of the tests.
func (m *maker) program() ([]definition, []string) {
	names := slices.Clone(allNames)
	m.Shuffle(len(names), func(i, j int) { names[i], names[j] = names[j], names[i] })
	kinds := []string{"var", "var", "rec", "rec", "chan", "chan", "lock", "lock", "file", "file", "proc", "proc", "proc", "proc"}
	m.names = map[string][]string{"test": {names[0], names[1]}}
	var l []definition
	for _, n := range names[2 : 3+m.IntN(len(names)-2)] {
		l = append(l, m.plain(kinds[m.IntN(len(kinds))], n))
	}
	for i := range l {
		if l[i].kind == "proc" {
			m.fill(&l[i])
			m.called = append(m.called, l[i].name)
		}
	}
	for _, n := range names[:2] {
		d := definition{kind: "test", name: n}
		m.fill(&d)
		l = append(l, d)
	}
	m.Shuffle(len(l), func(i, j int) { l[i], l[j] = l[j], l[i] })
	return l, names[:2]
}

// plain returns a definition of a kind, that of a proc without its block.
func (m *maker) plain(kind, name string) definition {
	d := definition{kind: kind, name: name, tokens: []string{kind, name}}
	switch kind {
	case "var":
		d.cells = []api.Cell{m.cell(name)}
		d.tokens = append(d.tokens, "=")
		d.tokens = append(d.tokens, numberTokens(d.cells[0].N)...)
		m.names["var"] = append(m.names["var"], name)
	case "rec":
		d.tokens = append(d.tokens, "{")
		for _, i := range m.Perm(4)[:1+m.IntN(4)] {
			f := []string{"a", "b", "a1", "x"}[i]
			c := m.cell(name + "." + f)
			d.cells = append(d.cells, c)
			d.tokens = append(append(d.tokens, f, "="), numberTokens(c.N)...)
			m.names["var"] = append(m.names["var"], c.Name)
		}
		d.tokens = append(d.tokens, "}")
	case "chan":
		d.cells = []api.Cell{{Name: name, N: m.IntN(4)}}
		d.tokens = append(d.tokens, strconv.Itoa(d.cells[0].N), ";")
	case "lock", "file":
		d.tokens = append(d.tokens, ";")
	}
	if kind != "var" && kind != "rec" {
		m.names[kind] = append(m.names[kind], name)
	}
	return d
}

func (m *maker) cell(name string) api.Cell { return api.Cell{Name: name, N: m.IntN(1999) - 999} }

func numberTokens(n int) []string {
	if n < 0 {
		return []string{"-", strconv.Itoa(-n), ";"}
	}
	return []string{strconv.Itoa(n), ";"}
}

// fill gives a proc or a test its block. Its text is short enough for further blanks and parentheses.
func (m *maker) fill(d *definition) {
	for {
		tokens, lines := m.block(3)
		if len(strings.Join(tokens, " ")) < 500 {
			d.tokens = append([]string{d.kind, d.name}, tokens...)
			d.lines = append(lines, map[string]string{"proc": "back", "test": "end"}[d.kind])
			return
		}
	}
}

func (m *maker) local() string { return []string{"$a", "$b", "$x", "$go", "$kind"}[m.IntN(5)] }

func (m *maker) label() string {
	m.labels++
	return "@" + strconv.Itoa(m.labels)
}

func (m *maker) block(depth int) (tokens, lines []string) {
	tokens = []string{"{"}
	for range m.IntN(6) {
		t, l := m.statement(depth)
		tokens = append(tokens, t...)
		lines = slices.Concat(lines, []string{"#"}, l)
	}
	return append(tokens, "}"), lines
}

// operations has the word and the level of each operation of two values.
var operations = map[string]struct {
	word        string
	level, left int
}{"<": {"less", 1, 2}, "<=": {"most", 1, 2}, "==": {"equal", 1, 2}, "+": {"add", 2, 2}, "-": {"sub", 2, 2}, "*": {"mul", 3, 3}}

const atomLevel = 4

func (m *maker) expr(depth int) (tokens, lines []string, level int) {
	if depth == 0 || m.IntN(3) == 0 {
		tokens, line := m.atom()
		return tokens, []string{line}, atomLevel
	}
	sign := []string{"<", "<=", "==", "+", "-", "*"}[m.IntN(6)]
	o := operations[sign]
	leftTokens, left := m.operand(depth-1, o.left)
	rightTokens, right := m.operand(depth-1, o.level+1)
	return slices.Concat(leftTokens, []string{sign}, rightTokens), slices.Concat(left, right, []string{o.word}), o.level
}

// operand returns an expression, with parentheses if its level is less than some level.
func (m *maker) operand(depth, least int) (tokens, lines []string) {
	tokens, lines, level := m.expr(depth)
	if level < least {
		return slices.Concat([]string{"("}, tokens, []string{")"}), lines
	}
	return slices.Concat([]string{mayOpen}, tokens, []string{mayClose}), lines
}

func (m *maker) atom() (tokens []string, line string) {
	switch m.IntN(6) {
	case 0:
		return []string{"kind"}, "machine"
	case 1, 2:
		s := m.local()
		return []string{s}, "load " + s
	case 3, 4:
		if n := m.pick("var"); n != "" {
			return placeTokens(n), "get " + n
		}
	}
	s := strconv.Itoa(m.IntN(1000))
	return []string{s}, "push " + s
}

func placeTokens(name string) []string {
	if rec, field, is := strings.Cut(name, "."); is {
		return []string{rec, ".", field}
	}
	return []string{name}
}

// pick returns a name of a kind, or "" if there is none.
func (m *maker) pick(kind string) string {
	if l := m.names[kind]; len(l) > 0 {
		return l[m.IntN(len(l))]
	}
	return ""
}

func (m *maker) statement(depth int) (tokens, lines []string) {
	kind := []string{"let", "set", "if", "ifelse", "while", "go", "call", "send", "recv", "acquire", "release", "draw", "now", "sleep", "write", "read", "check", "alloc"}[m.IntN(18)]
	switch kind {
	case "if", "ifelse", "while":
		if depth > 0 {
			return m.branch(kind, depth-1)
		}
	case "draw":
		n, local := strconv.Itoa(2+m.IntN(5)), m.local()
		return []string{"draw", local, n, ";"}, []string{"draw " + n + " " + local}
	case "now":
		local := m.local()
		return []string{"now", local, ";"}, []string{"now " + local}
	case "sleep", "alloc":
		n := strconv.Itoa(1 + m.IntN(9))
		return []string{kind, n, ";"}, []string{kind + " " + n}
	case "let":
		local := m.local()
		t, l := m.operand(2, 0)
		return slices.Concat([]string{local, "="}, t, []string{";"}), append(l, "store "+local)
	case "set":
		if n := m.pick("var"); n != "" {
			t, l := m.operand(2, 0)
			return slices.Concat(placeTokens(n), []string{"="}, t, []string{";"}), append(l, "put "+n)
		}
	case "go", "call", "send", "recv", "acquire", "release", "write", "read":
		if n := m.subject(kind); n != "" {
			return m.named(kind, n)
		}
	}
	t, l := m.operand(2, 0)
	return slices.Concat([]string{"check"}, t, []string{";"}), append(l, "check")
}

// subject returns a name that a statement with a word can have, or "".
func (m *maker) subject(word string) string {
	if word != "call" {
		return m.pick(listOf[word])
	}
	if len(m.called) == 0 {
		return ""
	}
	return m.called[m.IntN(len(m.called))]
}

// named returns a statement with a name.
func (m *maker) named(word, name string) (tokens, lines []string) {
	line := word + " " + name
	tokens = []string{word, name}
	switch word {
	case "send", "write":
		t, l := m.operand(1, 0)
		tokens, lines = append(tokens, t...), l
	case "recv", "read":
		local := m.local()
		tokens, line = append(tokens, local), line+" "+local
	}
	return append(tokens, ";"), append(lines, line)
}

func (m *maker) branch(kind string, depth int) (tokens, lines []string) {
	begin, middle, end := m.label(), m.label(), m.label()
	t, e := m.operand(1, 0)
	bt, b := m.block(depth)
	switch kind {
	case "if":
		return slices.Concat([]string{"if"}, t, bt), slices.Concat(e, []string{"zero " + end}, b, []string{end})
	case "while":
		return slices.Concat([]string{"while"}, t, bt), slices.Concat([]string{begin}, e, []string{"zero " + end}, b, []string{"jump " + begin, end})
	}
	ct, c := m.block(depth)
	return slices.Concat([]string{"if"}, t, bt, []string{"else"}, ct), slices.Concat(e, []string{"zero " + middle}, b, []string{"jump " + end, middle}, c, []string{end})
}

// texts returns the definitions for Compile, with one blank between tokens.
func texts(l []definition) []api.Def {
	var out []api.Def
	for _, d := range l {
		out = append(out, api.Def{Name: d.name, Text: render(d.tokens, nil)})
	}
	return out
}

// looseTexts returns them with other blanks and further parentheses.
func looseTexts(l []definition, r *rand.Rand) []api.Def {
	var out []api.Def
	for _, d := range l {
		out = append(out, api.Def{Name: d.name, Text: render(d.tokens, r)})
	}
	return out
}

// render returns the text of tokens; with a source of chance, one with other blanks and further parentheses.
func render(tokens []string, r *rand.Rand) string {
	var b strings.Builder
	var open []bool
	before := ";"
	for _, t := range tokens {
		switch t {
		case mayOpen:
			open = append(open, r != nil && r.IntN(4) == 0)
			t = "("
			if !open[len(open)-1] {
				continue
			}
		case mayClose:
			is := open[len(open)-1]
			open = open[:len(open)-1]
			t = ")"
			if !is {
				continue
			}
		}
		b.WriteString(blanks(before, t, r))
		b.WriteString(t)
		before = t
	}
	return b.String() + blanks(before, ";", r)
}

// blanks returns what stands between two tokens.
func blanks(before, behind string, r *rand.Rand) string {
	if r == nil {
		return " "
	}
	s := strings.Repeat("\n", max(0, r.IntN(4)-2)) + strings.Repeat(" ", max(0, r.IntN(4)-2))
	if s == "" && isAlnum(before[len(before)-1]) && isAlnum(behind[0]) {
		return string(" \n"[r.IntN(2)])
	}
	return s
}

func isAlnum(c byte) bool { return 'a' <= c && c <= 'z' || '0' <= c && c <= '9' }
