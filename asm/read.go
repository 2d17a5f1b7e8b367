package asm

import (
	"iter"
	"strconv"
	"strings"

	"trunnion/api"
	"trunnion/cpu"
	"trunnion/isa"
	"trunnion/word"
)

const (
	registers = 16
	returning = 15 // the register that keeps where a call came from
)

// value is what a source has for a number: known, or named.
type value interface {
	plus(n int) value
}

// known is a value that hangs on nothing.
type known int

func (k known) plus(n int) value { return k + known(n) }

// named is what a name stands for, and so many more.
type named struct {
	name string
	more int
}

func (v named) plus(n int) value { return named{v.name, v.more + n} }

// turn tells what comes of a value into an image at an address; false: it does not fit.
type turn func(v, at int) (int, bool)

// cell is so many bytes of an image, the lowest first.
type cell struct {
	size  int
	value value
	turn  turn
}

// statement is what a line says.
type statement struct {
	line   int
	labels []string
	verb   string // its directive or instruction; empty, if it has none
	name   string // that an .equ gives a value
	value  value  // of .org, .space, .align, .equ, .entry
	cells  []cell // of all others
	isCode bool   // the cells are instructions
	at     int    // where it stands, which the first pass finds
}

// reader reads the tokens of a line, the last of which is its end.
type reader struct{ tokens []api.Token }

// lines goes over the tokens line by line.
func lines(tokens []api.Token) iter.Seq[[]api.Token] {
	return func(yield func([]api.Token) bool) {
		from := 0
		for k, t := range tokens {
			if !isEnd(t) {
				continue
			}
			if !yield(tokens[from : k+1]) {
				return
			}
			from = k + 1
		}
	}
}

func isEnd(t api.Token) bool { return t.Kind == api.TLine || t.Kind == api.TEnd }

func isSign(t api.Token, text string) bool { return t.Kind == api.TSign && t.Text == text }

// registerOf tells the register of that name.
func registerOf(name string) (int, bool) {
	for n := range registers {
		if name == "r"+strconv.Itoa(n) {
			return n, true
		}
	}
	return 0, false
}

// read tells what a line says.
func read(line []api.Token) statement {
	r := reader{line}
	s := statement{line: r.now().Line, labels: r.labels()}
	if r.now().Kind == api.TName {
		s.verb = r.take(api.TName).Text
		r.rest(&s)
	}
	if !isEnd(r.now()) {
		r.wrong()
	}
	return s
}

// wrong lets it go up that the line is none.
func (r *reader) wrong() { panic(fault{r.now().Line, api.ErrSyntax}) }

// now tells the first token that is not read yet.
func (r *reader) now() api.Token { return r.tokens[0] }

// then tells the token behind now's; behind the end there is nothing but the end.
func (r *reader) then() api.Token { return r.tokens[min(1, len(r.tokens)-1)] }

// take reads a token of that kind, which is not an end's.
func (r *reader) take(kind int) api.Token {
	t := r.now()
	if t.Kind != kind {
		r.wrong()
	}
	r.tokens = r.tokens[1:]
	return t
}

// accept reads a sign, if it stands there.
func (r *reader) accept(text string) bool {
	if !isSign(r.now(), text) {
		return false
	}
	r.take(api.TSign)
	return true
}

func (r *reader) sign(text string) {
	if !r.accept(text) {
		r.wrong()
	}
}

func (r *reader) labels() []string {
	var names []string
	for r.now().Kind == api.TName && isSign(r.then(), ":") {
		names = append(names, r.take(api.TName).Text)
		r.sign(":")
	}
	return names
}

func (r *reader) register() int {
	n, ok := registerOf(r.take(api.TName).Text)
	if !ok {
		r.wrong()
	}
	return n
}

func (r *reader) value() value {
	v := r.term()
	switch {
	case r.accept("+"):
		return v.plus(r.take(api.TNum).N)
	case r.accept("-"):
		return v.plus(-r.take(api.TNum).N)
	}
	return v
}

func (r *reader) term() value {
	if r.accept("-") {
		return known(-r.take(api.TNum).N)
	}
	if r.now().Kind == api.TName {
		return named{name: r.take(api.TName).Text}
	}
	return known(r.take(api.TNum).N)
}

// rest reads what stands behind the verb of s.
func (r *reader) rest(s *statement) {
	switch s.verb {
	case ".org", ".space", ".align", ".entry":
		s.value = r.value()
	case ".equ":
		s.name = r.take(api.TName).Text
		r.sign(",")
		s.value = r.value()
	case ".word":
		s.cells = r.list(instruction, within(-1<<31, 1<<32-1))
	case ".byte":
		s.cells = r.list(1, within(-128, 255))
	case ".ascii":
		for _, b := range []byte(r.take(api.TStr).Text) {
			s.cells = append(s.cells, cell{1, known(b), same})
		}
	default:
		s.isCode = true
		s.cells = r.code(s.verb)
	}
}

// list reads values with commas between, each of which is so many bytes.
func (r *reader) list(size int, t turn) []cell {
	cells := []cell{{size, r.value(), t}}
	for r.accept(",") {
		cells = append(cells, cell{size, r.value(), t})
	}
	return cells
}

// code reads what stands behind an instruction's name, or behind one that stands for others.
func (r *reader) code(name string) []cell {
	switch name {
	case "li":
		a := r.register()
		r.sign(",")
		v := r.value()
		return []cell{
			encoded(api.Ins{Op: isa.Op("lui"), A: a}, v, high),
			encoded(api.Ins{Op: isa.Op("ori"), A: a, B: a}, v, low),
		}
	case "mv":
		a := r.register()
		r.sign(",")
		return whole(api.Ins{Op: isa.Op("addi"), A: a, B: r.register()})
	case "j":
		return []cell{encoded(api.Ins{Op: isa.Op("jal")}, r.value(), distance)}
	case "call":
		return []cell{encoded(api.Ins{Op: isa.Op("jal"), A: returning}, r.value(), distance)}
	case "ret":
		return whole(api.Ins{Op: isa.Op("jalr"), B: returning})
	case "nop":
		return whole(api.Ins{Op: isa.Op("addi")})
	}
	return []cell{r.fields(isa.Op(name))}
}

// fields reads the fields of an operation's instruction; of an operation that is none the line is none.
func (r *reader) fields(op int) cell {
	if op == 0 {
		r.wrong()
	}
	i := api.Ins{Op: op}
	if _, _, _, ok := cpu.Access(op); ok {
		i.A = r.register()
		r.sign(",")
		b, v := r.address()
		i.B = b
		return encoded(i, v, same)
	}
	n, hasImm := fieldsOf(op)
	for k, field := range []*int{&i.A, &i.B, &i.C}[:n] {
		if k > 0 {
			r.sign(",")
		}
		*field = r.register()
	}
	if !hasImm {
		return encoded(i, known(0), same)
	}
	r.sign(",")
	if isBranch(op) {
		return encoded(i, r.value(), distance)
	}
	return encoded(i, r.value(), same)
}

// address reads the last two fields of a load or a store, in either form. A comma tells the forms apart, not what stands ahead of it:
// a register's name may be a value's, too, though it is one that is never there.
func (r *reader) address() (int, value) {
	if isSign(r.then(), ",") {
		b := r.register()
		r.sign(",")
		return b, r.value()
	}
	v := r.value()
	r.sign("(")
	b := r.register()
	r.sign(")")
	return b, v
}

// fieldsOf tells how many registers an operation's instruction has, and whether an Imm stands behind them, by how isa.Show writes it.
func fieldsOf(op int) (int, bool) {
	text := isa.Show(api.Ins{Op: op})
	return strings.Count(text, " r0"), strings.HasSuffix(text, " 0")
}

// isBranch tells whether an instruction's value is where it leads to.
func isBranch(op int) bool {
	_, ok := cpu.Taken(op, 0, 0)
	return ok || op == isa.Op("jal")
}

// whole is an instruction that hangs on no value.
func whole(i api.Ins) []cell { return []cell{encoded(i, known(0), same)} }

// encoded is an instruction whose Imm t tells of v.
func encoded(i api.Ins, v value, t turn) cell {
	return cell{instruction, v, func(v, at int) (int, bool) {
		imm, ok := t(v, at)
		if !ok {
			return 0, false
		}
		w, err := isa.Encode(api.Ins{Op: i.Op, A: i.A, B: i.B, C: i.C, Imm: imm})
		return w, err == api.OK
	}}
}

func same(v, at int) (int, bool) { return v, true }

// within takes what is from least to most.
func within(least, most int) turn {
	return func(v, at int) (int, bool) { return v, v >= least && v <= most }
}

// distance tells how many instructions it is from at to v.
func distance(v, at int) (int, bool) { return (v - at) / instruction, (v-at)%instruction == 0 }

// high and low tell the halves of v as a word.
func high(v, at int) (int, bool) { return word.Bits(v, 31, 16), true }
func low(v, at int) (int, bool)  { return word.Bits(v, 15, 0), true }
