package asm_test

import (
	"math/big"
	"math/rand"
	"regexp"
	"slices"
	"strconv"
	"strings"
	"testing"

	"trunnion/api"
	"trunnion/lexer"
)

// The model of the assembler: lines are texts, told by patterns; numbers are big ones; the image is a map of bytes.

// plain tells each line of a source's tokens as a text: blanks between tokens, numbers in decimal, strings as hexadecimal digits.
func plain(tokens []api.Token) []string {
	lines := []string{""}
	for _, t := range tokens {
		text := t.Text
		switch t.Kind {
		case api.TLine:
			lines = append(lines, "")
			continue
		case api.TEnd:
			continue
		case api.TNum:
			text = strconv.Itoa(t.N)
		case api.TStr:
			text = `"`
			for _, b := range []byte(t.Text) {
				text += strconv.FormatInt(int64(b)+256, 16)[1:]
			}
		}
		lines[len(lines)-1] += " " + text
	}
	return lines
}

const (
	aName  = ` [^ "0-9,:+()=-][^ ]*`
	aTerm  = `(?: [0-9]+| - [0-9]+|` + aName + `)`
	aValue = `(` + aTerm + `(?: [+-] [0-9]+)?)`
	aReg   = ` r([0-9]|1[0-5])`
)

var (
	labelled = regexp.MustCompile(`^(` + aName + `) :`)
	valued   = regexp.MustCompile(`^( - | )([^ ]+)(?: ([+-]) ([0-9]+))?$`)
)

// forms are the patterns of instructions' operands, with their fields' places in what the pattern finds.
var forms = []struct {
	pattern string
	a, b, c int
	value   int
	kind    string // how the value becomes Imm: the letter of its form, or b: a branch's, j: a jump's
	ops     map[string]int
}{
	{aReg + " ," + aReg + " ," + aReg, 1, 2, 3, 0, "", map[string]int{"add": 1, "sub": 2, "and": 3, "or": 4, "xor": 5, "sll": 6, "srl": 7, "sra": 8, "mul": 9, "slt": 10, "sltu": 11, "divu": 12, "remu": 13}},
	{aReg + " ," + aReg + " ," + aValue, 1, 2, 0, 3, "I", map[string]int{"addi": 16, "slti": 24, "lw": 32, "lh": 33, "lhu": 34, "lb": 35, "lbu": 36, "sw": 40, "sh": 41, "sb": 42, "jalr": 57}},
	{aReg + " ," + aValue + ` \(` + aReg + ` \)`, 1, 3, 0, 2, "I", map[string]int{"lw": 32, "lh": 33, "lhu": 34, "lb": 35, "lbu": 36, "sw": 40, "sh": 41, "sb": 42}},
	{aReg + " ," + aReg + " ," + aValue, 1, 2, 0, 3, "b", map[string]int{"beq": 48, "bne": 49, "blt": 50, "bge": 51, "bltu": 52, "bgeu": 53}},
	{aReg + " ," + aReg + " ," + aValue, 1, 2, 0, 3, "U", map[string]int{"andi": 17, "ori": 18, "xori": 19}},
	{aReg + " ," + aReg + " ," + aValue, 1, 2, 0, 3, "H", map[string]int{"slli": 20, "srli": 21, "srai": 22}},
	{aReg + " ," + aValue, 1, 0, 0, 2, "L", map[string]int{"lui": 23}},
	{aReg + " ," + aValue, 1, 0, 0, 2, "j", map[string]int{"jal": 56}},
	{aReg + " ," + aValue, 1, 0, 0, 2, "C", map[string]int{"csrr": 68, "csrw": 69}},
	{"", 0, 0, 0, 0, "", map[string]int{"ecall": 64, "sret": 65, "wfi": 66, "brk": 70}},
}

// edges are the least and the greatest Imm of a kind.
var edges = map[string][2]int64{"I": {-32768, 32767}, "b": {-32768, 32767}, "U": {0, 65535}, "H": {0, 31}, "L": {0, 65535}, "j": {-524288, 524287}, "C": {0, 10}}

// shorts are the texts that stand for others.
var shorts = []struct{ pattern, text string }{
	{" mv" + aReg + " ," + aReg, " addi r$1 , r$2 , 0"},
	{" j" + aValue, " jal r0 ,$1"},
	{" call" + aValue, " jal r15 ,$1"},
	{" ret", " jalr r0 , r15 , 0"},
	{" nop", " addi r0 , r0 , 0"},
}

type model struct {
	names  map[string]*big.Int
	labels []api.Sym
	entry  int
	bytes  map[int]byte
}

var patterns = map[string]*regexp.Regexp{}

// whole is a pattern of all of a text.
func whole(pattern string) *regexp.Regexp {
	p, ok := patterns[pattern]
	if !ok {
		p = regexp.MustCompile("^" + pattern + "$")
		patterns[pattern] = p
	}
	return p
}

// find tells the groups that a pattern finds in all of the text.
func find(pattern, text string) []string { return whole(pattern).FindStringSubmatch(text) }

// long tells what a text stands for.
func long(text string) string {
	for _, s := range shorts {
		text = whole(s.pattern).ReplaceAllString(text, s.text)
	}
	return text
}

// sum tells a value's text as a number; nil: there is no such name.
func (m *model) sum(text string) *big.Int {
	f := valued.FindStringSubmatch(text)
	n, ok := new(big.Int).SetString(f[2], 10)
	if !ok {
		if n = m.names[f[2]]; n == nil {
			return nil
		}
		n = new(big.Int).Set(n)
	}
	if f[1] == " - " {
		n.Neg(n)
	}
	if f[3] != "" {
		more, _ := new(big.Int).SetString(f[3]+f[4], 10)
		n.Add(n, more)
	}
	return n
}

func inside(n *big.Int, least, most int64) bool {
	return n.Cmp(big.NewInt(least)) >= 0 && n.Cmp(big.NewInt(most)) <= 0
}

// listed are the values of a row with commas between.
func listed(text string) []string { return strings.Split(text, " ,") }

// size tells how many bytes a text without labels takes, whether it is code, and whether it is one at all.
func size(text string) (int, bool, bool) {
	text = long(text)
	switch {
	case text == "":
		return 0, false, true
	case find(` \.(?:org|space|align|entry)`+aValue, text) != nil, find(` \.equ`+aName+` ,`+aValue, text) != nil:
		return 0, false, true
	case find(` \.(?:word|byte)`+aValue+`(?: ,`+aValue+`)*`, text) != nil:
		n := len(listed(text))
		if strings.HasPrefix(text, " .word") {
			n *= 4
		}
		return n, false, true
	case find(` \.ascii "[0-9a-f]*`, text) != nil:
		return (len(text) - len(` .ascii "`)) / 2, false, true
	case find(" li"+aReg+" ,"+aValue, text) != nil:
		return 8, true, true
	}
	for _, f := range forms {
		for name := range f.ops {
			if find(" "+name+f.pattern, text) != nil {
				return 4, true, true
			}
		}
	}
	return 0, false, false
}

// first makes the first pass over a line: where it ends, and what is left of it for the second one.
func (m *model) first(text string, at int) (int, string, api.Errno) {
	var labels []string
	for f := labelled.FindStringSubmatch(text); f != nil; f = labelled.FindStringSubmatch(text) {
		labels = append(labels, f[1][1:])
		text = text[len(f[0]):]
	}
	n, isCode, ok := size(text)
	if !ok {
		return 0, "", api.ErrSyntax
	}
	define := func(name string, n *big.Int) bool {
		if find(aReg, " "+name) != nil || m.names[name] != nil || n == nil {
			return false
		}
		m.names[name] = n
		return true
	}
	for _, l := range labels {
		if !define(l, big.NewInt(int64(at))) {
			return 0, "", api.ErrLabel
		}
		m.labels = append(m.labels, api.Sym{Name: l, Addr: at})
	}
	if f := find(` \.equ(`+aName+`) ,`+aValue, text); f != nil && !define(f[1][1:], m.sum(f[2])) {
		return 0, "", api.ErrLabel
	}
	end := big.NewInt(int64(at + n))
	if f := find(` \.(org|space|align)`+aValue, text); f != nil {
		v := m.sum(f[2])
		if v == nil {
			return 0, "", api.ErrLabel
		}
		switch f[1] {
		case "org":
			if v.Cmp(end) < 0 {
				return 0, "", api.ErrRange
			}
			end = v
		case "space":
			if v.Sign() < 0 {
				return 0, "", api.ErrRange
			}
			end.Add(end, v)
		case "align":
			if !slices.Contains([]string{"1", "2", "4", "8", "16", "32", "64", "128", "256", "512", "1024", "2048", "4096"}, v.String()) {
				return 0, "", api.ErrRange
			}
			for new(big.Int).Mod(end, v).Sign() != 0 {
				end.Add(end, big.NewInt(1))
			}
		}
	}
	if isCode && at%4 != 0 {
		return 0, "", api.ErrRange
	}
	if !inside(end, 0, 1048576) {
		return 0, "", api.ErrLong
	}
	return int(end.Int64()), text, api.OK
}

func (m *model) put(at, n, size int) {
	for range size {
		m.bytes[at] = byte(n & 255)
		n >>= 8
		at++
	}
}

// second makes the second pass over what the first one left.
func (m *model) second(text string, at int) api.Errno {
	text = long(text)
	if f := find(` \.entry`+aValue, text); f != nil {
		n := m.sum(f[1])
		if n == nil {
			return api.ErrLabel
		}
		m.entry = int(n.Mod(n, big.NewInt(1<<32)).Int64())
	}
	if f := find(` \.(word|byte)(.*)`, text); f != nil {
		least, most, bytes := int64(-2147483648), int64(4294967295), 4
		if f[1] == "byte" {
			least, most, bytes = -128, 255, 1
		}
		err := api.OK
		for k, v := range listed(f[2]) {
			n := m.sum(v)
			if n == nil {
				return api.ErrLabel
			}
			if !inside(n, least, most) {
				err = api.ErrRange
			}
			m.put(at+k*bytes, int(n.Int64()), bytes)
		}
		return err
	}
	if f := find(` \.ascii "(.*)`, text); f != nil {
		for k := 0; k < len(f[1]); k += 2 {
			n, _ := strconv.ParseInt(f[1][k:k+2], 16, 32)
			m.put(at+k/2, int(n), 1)
		}
	}
	if f := find(" li"+aReg+" ,"+aValue, text); f != nil {
		n := m.sum(f[2])
		if n == nil {
			return api.ErrLabel
		}
		n.Mod(n, big.NewInt(1<<32))
		half := big.NewInt(65536)
		a, _ := strconv.Atoi(f[1])
		m.put(at, 23<<24+a<<20+int(new(big.Int).Div(n, half).Int64()), 4)
		m.put(at+4, 18<<24+a<<20+a<<16+int(new(big.Int).Mod(n, half).Int64()), 4)
		return api.OK
	}
	return m.instruction(text, at)
}

// instruction puts an instruction, if the text is one.
func (m *model) instruction(text string, at int) api.Errno {
	for _, form := range forms {
		for name, op := range form.ops {
			f := find(" "+name+form.pattern, text)
			if f == nil {
				continue
			}
			w := op << 24
			for k, group := range []int{form.a, form.b, form.c} {
				if group > 0 {
					n, _ := strconv.Atoi(f[group])
					w += n << (20 - 4*k)
				}
			}
			if form.value == 0 {
				m.put(at, w, 4)
				return api.OK
			}
			imm := m.sum(f[form.value])
			if imm == nil {
				return api.ErrLabel
			}
			bits := 16
			if form.kind == "j" {
				bits = 20
			}
			if form.kind == "b" || form.kind == "j" {
				rest := new(big.Int)
				imm.Sub(imm, big.NewInt(int64(at))).DivMod(imm, big.NewInt(4), rest)
				if rest.Sign() != 0 {
					return api.ErrRange
				}
			}
			if !inside(imm, edges[form.kind][0], edges[form.kind][1]) {
				return api.ErrRange
			}
			m.put(at, w+int(imm.Int64())&(1<<bits-1), 4)
			return api.OK
		}
	}
	return api.OK
}

func modelOf(s string) told {
	tokens, line, _, err := lexer.Tokens(s)
	if err != api.OK {
		return fails(line, err)
	}
	m := model{names: map[string]*big.Int{}, bytes: map[int]byte{}}
	lines, starts, at := plain(tokens), []int(nil), 0
	for k := range lines {
		starts = append(starts, at)
		at, lines[k], err = m.first(lines[k], at)
		if err != api.OK {
			return fails(k+1, err)
		}
	}
	for k := range lines {
		if err = m.second(lines[k], starts[k]); err != api.OK {
			return fails(k+1, err)
		}
	}
	image := api.Image{Entry: m.entry, Bytes: make([]byte, at)}
	for at, b := range m.bytes {
		image.Bytes[at] = b
	}
	return told{image: image, labels: m.labels}
}

// checkModel tells with which error the source is answered.
func checkModel(t *testing.T, s string) api.Errno {
	t.Helper()
	got, want := ask(s), modelOf(s)
	if !got.same(want) {
		t.Fatalf("%q: %s, want %s", s, brief(got), brief(want))
	}
	return got.err
}

// chance makes lines, always the same ones.
type chance struct{ *rand.Rand }

func (c chance) pick(l ...string) string { return l[c.Intn(len(l))] }

func (c chance) name() string { return c.pick("a", "b", "c", "d", "é", ".x", "li", "add") }

func (c chance) number() string {
	return c.pick("0", "1", "2", "3", "4", "5", "8", "10", "11", "12", "16", "31", "32", "'a'", "0x7F", "128", "255", "256", "4096",
		"0x7fff", "0x8000", "65535", "65536", "131068", "2147483648", "0xFFFFFFFF")
}

func (c chance) register() string {
	if c.Intn(200) == 0 {
		return c.pick("r16", "a", "5", "R1", "r01")
	}
	return "r" + strconv.Itoa(c.Intn(16))
}

func (c chance) value() string {
	v := c.number()
	switch c.Intn(8) {
	case 0, 1, 2:
		v = c.name()
	case 3:
		v = "-" + v
	case 4:
		if c.Intn(40) == 0 {
			v = c.pick("r1", "r15", "none", "-a", "+1", "(1)")
		}
	}
	if c.Intn(4) == 0 {
		v += c.pick(" + ", "-", "+", " - ") + c.number()
	}
	return v
}

// near is a value that most things take.
func (c chance) near() string {
	if c.Intn(5) > 0 {
		return c.pick("0", "4", "8", "12", "a", "b", "c", "a+4", "8-4")
	}
	return c.value()
}

func (c chance) row(value func() string) string {
	l := []string{value()}
	for c.Intn(2) == 0 {
		l = append(l, value())
	}
	return strings.Join(l, c.pick(",", ", "))
}

func (c chance) statement() string {
	registers := func(n int) string {
		var l []string
		for range n {
			l = append(l, c.register())
		}
		return strings.Join(l, ", ")
	}
	switch c.Intn(18) {
	case 0:
		return ".org " + c.pick("0", "4", "8", "32", "64", "100", "1048568", c.value())
	case 1:
		return ".word " + c.row(c.value)
	case 2:
		return ".byte " + c.row(c.near)
	case 3:
		return ".ascii " + c.pick(`"abcd"`, `""`, `"a\n"`, `"é;"`)
	case 4:
		return ".space " + c.near()
	case 5, 6:
		return ".align " + c.pick("4", "4", "4", "4", "1", "2", "64", "4096", c.value())
	case 7:
		return ".equ " + c.pick(c.name(), c.name(), "r3", "r16") + ", " + c.value()
	case 8:
		return ".entry " + c.value()
	case 9:
		return c.pick("li ", "csrr ", "csrw ", "lui ") + registers(1) + ", " + c.near()
	case 10:
		return c.pick("mv "+registers(2), "j "+c.near(), "call "+c.near(), "ret", "nop", "ecall", "sret", "wfi", "brk")
	case 11:
		return c.pick("add", "sub", "and", "or", "xor", "sll", "srl", "sra", "mul", "slt", "sltu", "divu", "remu") + " " + registers(3)
	case 12, 13:
		return c.pick("addi", "slti", "andi", "ori", "xori", "slli", "srli", "srai", "jalr", "lw", "sb") + " " + registers(2) + ", " + c.near()
	case 14:
		return c.pick("lw", "lh", "lhu", "lb", "lbu", "sw", "sh", "sb", "addi") + " " + registers(1) + ", " + c.near() + "(" + c.register() + ")"
	case 15:
		return c.pick("beq", "bne", "blt", "bge", "bltu", "bgeu") + " " + registers(2) + ", " + c.near()
	case 16:
		return c.pick("jal ") + registers(1) + ", " + c.near()
	}
	return ""
}

func (c chance) line() string {
	l := c.statement()
	for c.Intn(6) == 0 {
		l = c.pick(c.name(), c.name(), c.name(), c.name(), "r7", "r16") + c.pick(":", ": ") + l
	}
	if c.Intn(60) == 0 { // one thing goes, or comes
		things := strings.Fields(l)
		if n := len(things); n > 0 {
			at := c.Intn(n)
			things[at] = c.pick("", ",", ":", "(", ")", "+", "-", "1", "a", "r1", "=", `"s"`, "$", things[at]+" "+things[at])
			l = strings.Join(things, " ")
		}
	}
	return l + c.pick("", "", " ", "\t; x", "\r")
}

// TestP1201Model asks for sources that are put together by chance.
func TestP1201Model(t *testing.T) {
	c := chance{rand.New(rand.NewSource(1))}
	told := map[api.Errno]int{}
	for range 20000 {
		var l []string
		for range 1 + c.Intn(8) {
			l = append(l, c.line())
		}
		if c.Intn(2) == 0 { // the names that many values ask for
			l = append(l, "a: b: nop", "c:")
		}
		told[checkModel(t, strings.Join(l, "\n"))]++
	}
	for _, err := range []api.Errno{api.OK, api.ErrSyntax, api.ErrLabel, api.ErrRange, api.ErrLong} {
		if told[err] < 100 {
			t.Errorf("only %d sources with error %d", told[err], err)
		}
	}
	t.Log(told)
}

// TestP1201Changes asks for a source without a fault, and for the same with a token taken away, or changed, or put in.
func TestP1201Changes(t *testing.T) {
	source := []string{
		".equ", "w", ",", "-", "8", "+", "12", "\n", "go", ":", "li", "r1", ",", "go", "+", "4", "\n", "lw", "r2", ",", "w", "-", "4", "(", "r1", ")", "\n",
		"sw", "r2", ",", "r1", ",", "4", "\n", "bne", "r2", ",", "r3", ",", "go", "\n", "call", "end", "\n", "x", ":", "y", ":", ".word", "1", ",", "x", "\n",
		".ascii", `"ab"`, "\n", ".align", "w", "\n", ".org", "64", "\n", ".space", "w", "\n", ".byte", "w", ",", "-", "1", "\n", ".entry", "x", "\n",
		".align", "4", "\n", "end", ":", "ret", "\n", "add", "r1", ",", "r2", ",", "r3", "\n", "csrr", "r1", ",", "w",
	}
	if err := checkModel(t, strings.Join(source, " ")); err != api.OK {
		t.Fatalf("error %d", err)
	}
	others := []string{",", ":", "(", ")", "+", "-", "=", "0", "3", "65536", "4294967295", "w", "go", "x", "none", "r1", "li", ".org", ".word", ".equ", `"ab"`, "\n"}
	for at := range source {
		ahead, behind := strings.Join(source[:at], " ")+" ", " "+strings.Join(source[at+1:], " ")
		checkModel(t, ahead+behind)
		for _, o := range others {
			checkModel(t, ahead+o+behind)
			checkModel(t, ahead+o+" "+source[at]+behind)
		}
	}
}
