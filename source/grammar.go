package source

import "culprit/api"

// A shape tells what the text of a node consists of: a word, if it begins with
// one, and the parts behind it. A numeral in it is from low to high. Texts are
// read and written by the same shapes, so that both ways fit together.
type shape struct {
	word, parts string
	low, high   int
}

// Parts of shapes. Small letters stand for what is kept in the node itself,
// capital letters for its kids, and signs for themselves.
const (
	namePart    = 'n' // a NAME, as the Text
	localPart   = 'l' // a LOCAL, whose word is the Text
	numeralPart = 'd' // a NUMERAL, as the N
	numberPart  = 'z' // a NUMBER, as the N
	exprKid     = 'E'
	blockKid    = 'B'
	localKid    = 'L'
	placeKid    = 'P'
	elseKid     = 'O' // the word "else" and a BLOCK, or nothing
	itemKids    = 'I' // any number of Items
	stmtKids    = 'S' // any number of statements
)

// none is the kind where there is no node.
const none = -1

const elseWord = "else"

// Bounds of numerals.
const (
	maxDigits   = 3
	maxNumeral  = 999
	maxCapacity = 3 // of a channel
	minDraw     = 2
	maxDraw     = 6
	maxAlloc    = 99
)

// shapes has a shape for each kind that is not an operation.
var shapes = []shape{
	Var:     {word: "var", parts: "n=z;", high: maxNumeral},
	Rec:     {word: "rec", parts: "n{I}"},
	Chan:    {word: "chan", parts: "nd;", high: maxCapacity},
	Lock:    {word: "lock", parts: "n;"},
	File:    {word: "file", parts: "n;"},
	Proc:    {word: "proc", parts: "nB"},
	Test:    {word: "test", parts: "nB"},
	Item:    {parts: "n=z;", high: maxNumeral},
	Block:   {parts: "{S}"},
	Let:     {parts: "l=E;"},
	Set:     {parts: "P=E;"},
	If:      {word: "if", parts: "EBO"},
	While:   {word: "while", parts: "EB"},
	Go:      {word: "go", parts: "n;"},
	Call:    {word: "call", parts: "n;"},
	Send:    {word: "send", parts: "nE;"},
	Recv:    {word: "recv", parts: "nL;"},
	Acquire: {word: "acquire", parts: "n;"},
	Release: {word: "release", parts: "n;"},
	Draw:    {word: "draw", parts: "ld;", low: minDraw, high: maxDraw},
	Now:     {word: "now", parts: "l;"},
	Sleep:   {word: "sleep", parts: "d;", low: 1, high: api.MaxSleep},
	Write:   {word: "write", parts: "nE;"},
	Read:    {word: "read", parts: "nL;"},
	Check:   {word: "check", parts: "E;"},
	Alloc:   {word: "alloc", parts: "d;", low: 1, high: maxAlloc},
	Num:     {parts: "d", high: maxNumeral},
	Local:   {parts: "l"},
	Name:    {parts: "n"},
	Field:   {parts: "n"},
	Kind:    {word: "kind"},
}

// Levels of operations. Those of a higher level bind their operands first.
const (
	comparing = iota + 1
	adding
	multiplying
)

// A sign is a token. If it stands for an operation, it has a level, and the
// kind of its nodes.
type sign struct {
	text        string
	level, kind int
}

// signs has those signs first that begin with others, as these would be found
// in their place.
var signs = []sign{
	{"<=", comparing, Most},
	{"==", comparing, Equal},
	{"<", comparing, Less},
	{"+", adding, Add},
	{"-", adding, Sub},
	{"*", multiplying, Mul},
	{text: "="},
	{text: ";"},
	{text: "."},
	{text: "("},
	{text: ")"},
	{text: "{"},
	{text: "}"},
}

// operationOf returns the sign of an operation by the kind of its nodes. The
// level is 0 if there is none.
func operationOf(kind int) sign {
	for _, x := range signs {
		if x.level > 0 && x.kind == kind {
			return x
		}
	}
	return sign{}
}
