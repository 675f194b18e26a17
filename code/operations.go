package code

// An operation has the word with which it is printed, and a meaning for each
// field of its instructions.
type operation struct {
	word string
	a, b int
}

// Meanings of fields. Each of them allows numbers from one to another.
const (
	nothing = iota // the field is 0
	anything
	local
	target // an instruction of the same procedure
	procedure
	procedureItself
	checkNumber
	variable
	channel
	lock
	file
	drawNumeral
	sleepNumeral
	allocNumeral
)

var operations = []operation{
	Push:    {word: "push", a: anything},
	Load:    {word: "load", a: local},
	Store:   {word: "store", a: local},
	Machine: {word: "machine"},
	Add:     {word: "add"},
	Sub:     {word: "sub"},
	Mul:     {word: "mul"},
	Less:    {word: "less"},
	Most:    {word: "most"},
	Equal:   {word: "equal"},
	Jump:    {word: "jump", a: target},
	Zero:    {word: "zero", a: target},
	Call:    {word: "call", a: procedure},
	Back:    {word: "back"},
	Check:   {word: "check", a: checkNumber, b: procedureItself},
	Alloc:   {word: "alloc", a: allocNumeral},
	Get:     {word: "get", a: variable},
	Put:     {word: "put", a: variable},
	Go:      {word: "go", a: procedure},
	Send:    {word: "send", a: channel},
	Recv:    {word: "recv", a: channel, b: local},
	Acquire: {word: "acquire", a: lock},
	Release: {word: "release", a: lock},
	Draw:    {word: "draw", a: drawNumeral, b: local},
	Now:     {word: "now", a: local},
	Sleep:   {word: "sleep", a: sleepNumeral},
	Write:   {word: "write", a: file},
	Read:    {word: "read", a: file, b: local},
	End:     {word: "end"},
}
