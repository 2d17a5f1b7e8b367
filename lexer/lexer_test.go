package lexer_test

import (
	"slices"
	"strings"
	"sync"
	"testing"

	"trunnion/api"
	"trunnion/lexer"
)

// told is all that a call answers.
type told struct {
	tokens    []api.Token
	line, col int
	err       api.Errno
}

func ask(s string) told {
	tokens, line, col, err := lexer.Tokens(s)
	return told{tokens, line, col, err}
}

func (x told) same(y told) bool {
	return slices.Equal(x.tokens, y.tokens) && x.line == y.line && x.col == y.col && x.err == y.err
}

func fails(line, col int, err api.Errno) told { return told{nil, line, col, err} }

func token(kind int, text string, n, line, col int) api.Token {
	return api.Token{Kind: kind, Text: text, N: n, Line: line, Col: col}
}

// Tokens at a line and a column.
func name(line, col int, text string) api.Token { return token(api.TName, text, 0, line, col) }
func num(line, col, n int) api.Token            { return token(api.TNum, "", n, line, col) }
func str(line, col int, text string) api.Token  { return token(api.TStr, text, 0, line, col) }
func sign(line, col int, text string) api.Token { return token(api.TSign, text, 0, line, col) }
func newline(line, col int) api.Token           { return token(api.TLine, "", 0, line, col) }
func end(line, col int) api.Token               { return token(api.TEnd, "", 0, line, col) }

func tells(tokens ...api.Token) told { return told{tokens: tokens} }

// row is a source and what is to be told of it.
type row struct {
	source string
	want   told
}

func short(s string) string { return s[:min(len(s), 60)] }

func check(t *testing.T, rows []row) {
	t.Helper()
	for _, r := range rows {
		if got := ask(r.source); !got.same(r.want) {
			t.Errorf("%q: %+v, want %+v", short(r.source), got, r.want)
		}
	}
}

func TestP1101Example(t *testing.T) {
	check(t, []row{{"li r1, 0x10 ; x", tells(name(1, 1, "li"), name(1, 4, "r1"), sign(1, 6, ","), num(1, 8, 16), end(1, 16))}})
}

func TestP1101End(t *testing.T) {
	check(t, []row{
		{"", tells(end(1, 1))},
		{"   ", tells(end(1, 4))},
		{"\n", tells(newline(1, 1), end(2, 1))},
		{"a\n b", tells(name(1, 1, "a"), newline(1, 2), name(2, 2, "b"), end(2, 3))},
		{"\n\n\n", tells(newline(1, 1), newline(2, 1), newline(3, 1), end(4, 1))},
		{"; é", tells(end(1, 4))},
		{"é\n€𐍈", tells(name(1, 1, "é"), newline(1, 2), name(2, 1, "€𐍈"), end(2, 3))},
	})
}

func TestP1101BlanksAndRemarks(t *testing.T) {
	check(t, []row{
		{" \t\ra\r\n\tb", tells(name(1, 4, "a"), newline(1, 6), name(2, 2, "b"), end(2, 3))},
		{"a;b\nc", tells(name(1, 1, "a"), newline(1, 4), name(2, 1, "c"), end(2, 2))},
		{";", tells(end(1, 2))},
		{";;\"'$\\0x\x00\x7F\t\r;9z\n;\n", tells(newline(1, 16), newline(2, 2), end(3, 1))},
		{"\";\"';'", tells(str(1, 1, ";"), num(1, 4, 59), end(1, 7))},
		{"; " + strings.Repeat("a", 41) + " 99999999999", tells(end(1, 56))},
	})
}

func TestP1101Names(t *testing.T) {
	forty := strings.Repeat("a", 40)
	wide := strings.Repeat("€", 40)
	check(t, []row{
		{"a z A Z _ .", tells(name(1, 1, "a"), name(1, 3, "z"), name(1, 5, "A"), name(1, 7, "Z"), name(1, 9, "_"), name(1, 11, "."), end(1, 12))},
		{".org a0 a9b _1 x2.3", tells(name(1, 1, ".org"), name(1, 6, "a0"), name(1, 9, "a9b"), name(1, 13, "_1"), name(1, 16, "x2.3"), end(1, 20))},
		{"\u0080 \u00A0 \u0661 \u2028 \uFEFF \uFFFD \U0010FFFF", tells(name(1, 1, "\u0080"), name(1, 3, "\u00A0"), name(1, 5, "\u0661"),
			name(1, 7, "\u2028"), name(1, 9, "\uFEFF"), name(1, 11, "\uFFFD"), name(1, 13, "\U0010FFFF"), end(1, 14))},
		{"a:b,c(d)", tells(name(1, 1, "a"), sign(1, 2, ":"), name(1, 3, "b"), sign(1, 4, ","), name(1, 5, "c"), sign(1, 6, "("), name(1, 7, "d"), sign(1, 8, ")"), end(1, 9))},
		{"a\"b\"c'd'e", tells(name(1, 1, "a"), str(1, 2, "b"), name(1, 5, "c"), num(1, 6, 100), name(1, 9, "e"), end(1, 10))},
		{forty, tells(name(1, 1, forty), end(1, 41))},
		{wide, tells(name(1, 1, wide), end(1, 41))},
		{" " + forty + "b", fails(1, 2, api.ErrLong)},
		{"\n" + wide + "0", fails(2, 1, api.ErrLong)},
		{forty + " " + forty, tells(name(1, 1, forty), name(1, 42, forty), end(1, 82))},
		{strings.Repeat("é", 30000), fails(1, 1, api.ErrLong)},
	})
}

func TestP1101Numbers(t *testing.T) {
	zeros := strings.Repeat("0", 3000)
	check(t, []row{
		{"0 7 10 007", tells(num(1, 1, 0), num(1, 3, 7), num(1, 5, 10), num(1, 8, 7), end(1, 11))},
		{"0x0 0xa 0xF 0x0123456 0x789abcde 0xFABCDEF", tells(num(1, 1, 0), num(1, 5, 10), num(1, 9, 15), num(1, 13, 0x123456), num(1, 23, 0x789ABCDE), num(1, 34, 0xFABCDEF), end(1, 43))},
		{"4294967295 0xFFFFFFFF", tells(num(1, 1, 1<<32-1), num(1, 12, 1<<32-1), end(1, 22))},
		{zeros + "4294967295", tells(num(1, 1, 1<<32-1), end(1, 3011))},
		{"0x" + zeros + "ffffffff", tells(num(1, 1, 1<<32-1), end(1, 3011))},
		{"\t4294967296", fails(1, 2, api.ErrRange)},
		{"\t0x100000000", fails(1, 2, api.ErrRange)},
		{"99999999999999999999", fails(1, 1, api.ErrRange)},
		{"18446744073709551616", fails(1, 1, api.ErrRange)}, // 2^64, of which an int sees 0
		{"0x10000000000000000", fails(1, 1, api.ErrRange)},
		{"1" + zeros, fails(1, 1, api.ErrRange)},
		{"0x1" + zeros, fails(1, 1, api.ErrRange)},
		{"-1", tells(sign(1, 1, "-"), num(1, 2, 1), end(1, 3))},
		{"1,2", tells(num(1, 1, 1), sign(1, 2, ","), num(1, 3, 2), end(1, 4))},
		{"1'a'2\"b\"3", tells(num(1, 1, 1), num(1, 2, 97), num(1, 5, 2), str(1, 6, "b"), num(1, 9, 3), end(1, 10))},
	})
}

func TestP1101LetterBehindDigits(t *testing.T) {
	check(t, []row{
		{"12a", fails(1, 3, api.ErrSyntax)},
		{"12_", fails(1, 3, api.ErrSyntax)},
		{"1.5", fails(1, 2, api.ErrSyntax)},
		{"1é", fails(1, 2, api.ErrSyntax)},
		{"1\u0661", fails(1, 2, api.ErrSyntax)},
		{"0x", fails(1, 2, api.ErrSyntax)},
		{"0x ", fails(1, 2, api.ErrSyntax)},
		{"0x\n", fails(1, 2, api.ErrSyntax)},
		{"0xg", fails(1, 2, api.ErrSyntax)},
		{"0x$", fails(1, 2, api.ErrSyntax)},
		{"0X1", fails(1, 2, api.ErrSyntax)},
		{"00x1", fails(1, 3, api.ErrSyntax)},
		{"1x1", fails(1, 2, api.ErrSyntax)},
		{"0x1g", fails(1, 4, api.ErrSyntax)},
		{"0x1x", fails(1, 4, api.ErrSyntax)},
		{"0xABCDEFG", fails(1, 9, api.ErrSyntax)},
		{"99999999999a", fails(1, 12, api.ErrSyntax)},
		{"0x123456789z", fails(1, 12, api.ErrSyntax)},
		{"\n 1b 99999999999", fails(2, 3, api.ErrSyntax)},
		{"0 x", tells(num(1, 1, 0), name(1, 3, "x"), end(1, 4))},
		{"'1'a", tells(num(1, 1, 49), name(1, 4, "a"), end(1, 5))},
	})
}

func TestP1101Runes(t *testing.T) {
	check(t, []row{
		{`'a' ' ' '0' '"' ';'`, tells(num(1, 1, 97), num(1, 5, 32), num(1, 9, 48), num(1, 13, 34), num(1, 17, 59), end(1, 20))},
		{`'\n' '\\' '\''`, tells(num(1, 1, 10), num(1, 6, 92), num(1, 11, 39), end(1, 15))},
		{"'\t''\r''\x00'", tells(num(1, 1, 9), num(1, 4, 13), num(1, 7, 0), end(1, 10))},
		{"'é''€''\uFFFD''\U0010FFFF'", tells(num(1, 1, 0xE9), num(1, 4, 0x20AC), num(1, 7, 0xFFFD), num(1, 10, 0x10FFFF), end(1, 13))},
		{"a '", fails(1, 3, api.ErrSyntax)},
		{"a ''", fails(1, 3, api.ErrSyntax)},
		{"a '''", fails(1, 3, api.ErrSyntax)},
		{"a 'b", fails(1, 3, api.ErrSyntax)},
		{"a 'bc'", fails(1, 3, api.ErrSyntax)},
		{"a '\n'", fails(1, 3, api.ErrSyntax)},
		{"a 'b\n'", fails(1, 3, api.ErrSyntax)},
		{"a '\\", fails(1, 3, api.ErrSyntax)},
		{"a '\\\n'", fails(1, 3, api.ErrSyntax)},
		{`a '\'`, fails(1, 3, api.ErrSyntax)},
		{`a '\t'`, fails(1, 3, api.ErrSyntax)},
		{`a '\"'`, fails(1, 3, api.ErrSyntax)},
		{`a '\é'`, fails(1, 3, api.ErrSyntax)},
		{`a '\nn'`, fails(1, 3, api.ErrSyntax)},
	})
}

func TestP1101Strings(t *testing.T) {
	check(t, []row{
		{`""`, tells(str(1, 1, ""), end(1, 3))},
		{`"a b;c'd"e`, tells(str(1, 1, "a b;c'd"), name(1, 10, "e"), end(1, 11))},
		{`"\n\\\"" "\\n"`, tells(str(1, 1, "\n\\\""), str(1, 10, `\n`), end(1, 15))},
		{`"a""b"`, tells(str(1, 1, "a"), str(1, 4, "b"), end(1, 7))},
		{"\"\t\r\x00é€\uFFFD\U0010FFFF\"", tells(str(1, 1, "\t\r\x00é€\uFFFD\U0010FFFF"), end(1, 10))},
		{`"` + strings.Repeat("x", 60000) + `"`, tells(str(1, 1, strings.Repeat("x", 60000)), end(1, 60003))},
		{`a "`, fails(1, 3, api.ErrSyntax)},
		{`a "b`, fails(1, 3, api.ErrSyntax)},
		{"a \"b\n\"", fails(1, 3, api.ErrSyntax)},
		{`a "b\`, fails(1, 3, api.ErrSyntax)},
		{`a "b\"`, fails(1, 3, api.ErrSyntax)},
		{"a \"b\\\n\"", fails(1, 3, api.ErrSyntax)},
		{`a "b\t"`, fails(1, 3, api.ErrSyntax)},
		{`a "b\'"`, fails(1, 3, api.ErrSyntax)},
		{`a "b\N"`, fails(1, 3, api.ErrSyntax)},
		{`a "b\\\"`, fails(1, 3, api.ErrSyntax)},
	})
}

// TestP1101Signs asks for each rune below 128 what it is where it stands alone.
func TestP1101Signs(t *testing.T) {
	for r := range rune(128) {
		s := string(r)
		want := fails(2, 1, api.ErrSyntax)
		switch {
		case strings.ContainsRune(",:-+()=", r):
			want = tells(newline(1, 1), sign(2, 1, s), end(2, 2))
		case r == 32 || r == 9 || r == 13 || r == ';':
			want = tells(newline(1, 1), end(2, 2))
		case r == 10:
			want = tells(newline(1, 1), newline(2, 1), end(3, 1))
		case r >= '0' && r <= '9':
			want = tells(newline(1, 1), num(2, 1, int(r-'0')), end(2, 2))
		case r == '_' || r == '.' || strings.ToLower(s) != strings.ToUpper(s):
			want = tells(newline(1, 1), name(2, 1, s), end(2, 2))
		}
		check(t, []row{{"\n" + s, want}})
	}
	check(t, []row{{"+-=", tells(sign(1, 1, "+"), sign(1, 2, "-"), sign(1, 3, "="), end(1, 4))}})
}

func TestP1101FirstError(t *testing.T) {
	check(t, []row{
		{"$ 1a", fails(1, 1, api.ErrSyntax)},
		{"1a $", fails(1, 2, api.ErrSyntax)},
		{"99999999999 1a", fails(1, 1, api.ErrRange)},
		{strings.Repeat("a", 41) + " $", fails(1, 1, api.ErrLong)},
		{"ok \"\n$", fails(1, 4, api.ErrSyntax)},
		{"\té$", fails(1, 3, api.ErrSyntax)},
		{"a b\nc $", fails(2, 3, api.ErrSyntax)},
		{"$\xFF", fails(1, 1, api.ErrSyntax)},
		{"\xFF$", fails(1, 1, api.ErrByte)},
		{"; $ \xFF", fails(1, 5, api.ErrByte)},
		{"\"a\nb\xFF", fails(1, 1, api.ErrSyntax)},
		{"\"\\q\xFF", fails(1, 1, api.ErrSyntax)},
		{"'ab\xFF", fails(1, 1, api.ErrSyntax)},
	})
}

// TestP1101BrokenByte holds where bytes that are no rune are told: within quotes at them,
// while a name and digits end ahead of them, so that an error of their own is the first.
func TestP1101BrokenByte(t *testing.T) {
	check(t, []row{
		{"\x80", fails(1, 1, api.ErrByte)},
		{"a\xFF", fails(1, 2, api.ErrByte)},
		{"é\n\té\xFFa", fails(2, 3, api.ErrByte)},
		{"12\xFF", fails(1, 3, api.ErrByte)},
		{"0x1\xFF", fails(1, 4, api.ErrByte)},
		{"\"a\xFF\"", fails(1, 3, api.ErrByte)},
		{"\"a\xFF\n", fails(1, 3, api.ErrByte)},
		{"\"a\\\xFF\"", fails(1, 4, api.ErrByte)},
		{"'\xFF'", fails(1, 2, api.ErrByte)},
		{"'\\\xFF'", fails(1, 3, api.ErrByte)},
		{"'a\xFF", fails(1, 3, api.ErrByte)},
		{strings.Repeat("a", 40) + "\xFF", fails(1, 41, api.ErrByte)},
		{strings.Repeat("a", 41) + "\xFF", fails(1, 1, api.ErrLong)},
		{"4294967295\xFF", fails(1, 11, api.ErrByte)},
		{"4294967296\xFF", fails(1, 1, api.ErrRange)},
		{"0x\xFF", fails(1, 2, api.ErrSyntax)},
		{"1a\xFF", fails(1, 2, api.ErrSyntax)},
	})
}

func TestP1101Source(t *testing.T) {
	check(t, []row{
		{strings.Repeat(" ", api.MaxSource), tells(end(1, api.MaxSource+1))},
		{strings.Repeat(" ", api.MaxSource+1), fails(1, 1, api.ErrLong)},
		{"\n" + strings.Repeat(" ", api.MaxSource-2) + "$", fails(2, api.MaxSource-1, api.ErrSyntax)},
		{"\n$\xFF" + strings.Repeat(" ", api.MaxSource), fails(1, 1, api.ErrLong)},
		{strings.Repeat("\n", api.MaxSource+1), fails(1, 1, api.ErrLong)},
		{strings.Repeat("é", api.MaxSource/2) + "é", fails(1, 1, api.ErrLong)},
		{";" + strings.Repeat("é", api.MaxSource/2-1), tells(end(1, api.MaxSource/2+1))},
	})
	many := ask(strings.Repeat("=", api.MaxSource))
	if len(many.tokens) != api.MaxSource+1 || many.tokens[api.MaxSource] != end(1, api.MaxSource+1) {
		t.Errorf("of %d signs there are %d tokens", api.MaxSource, len(many.tokens))
	}
}

// lines are n bytes 10, with a name ahead of each.
func lines(n int) string { return strings.Repeat("a\n", n) }

func tokensOfLines(n int) []api.Token {
	var tokens []api.Token
	for k := range n {
		tokens = append(tokens, name(k+1, 1, "a"), newline(k+1, 2))
	}
	return tokens
}

func TestP1102Lines(t *testing.T) {
	most := api.MaxLines
	whole := tokensOfLines(most)
	check(t, []row{
		{lines(most), tells(append(slices.Clone(whole), end(most+1, 1))...)},
		{lines(most) + "b c", tells(append(slices.Clone(whole), name(most+1, 1, "b"), name(most+1, 3, "c"), end(most+1, 4))...)},
		{lines(most + 1), fails(most+1, 2, api.ErrLong)},
		{lines(most) + "\n", fails(most+1, 1, api.ErrLong)},
		{lines(most) + ";é\n", fails(most+1, 3, api.ErrLong)},
		{lines(most+1) + "$\xFF", fails(most+1, 2, api.ErrLong)},
		{lines(most+1) + lines(most), fails(most+1, 2, api.ErrLong)},
		{lines(most) + "$\n", fails(most+1, 1, api.ErrSyntax)},
		{lines(most) + "a\"\n", fails(most+1, 2, api.ErrSyntax)},
		{lines(most) + "a'\n'", fails(most+1, 2, api.ErrSyntax)},
		{lines(most) + "99999999999\n", fails(most+1, 1, api.ErrRange)},
		{lines(most) + "\xFF\n", fails(most+1, 1, api.ErrByte)},
		{"1a" + lines(most+1), fails(1, 2, api.ErrSyntax)},
		{lines(most) + `"\n\n"'\n'`, tells(append(slices.Clone(whole), str(most+1, 1, "\n\n"), num(most+1, 7, 10), end(most+1, 11))...)},
	})
}

// TestP1102SameAgain holds that no call hangs on another one, ahead of it or beside it.
func TestP1102SameAgain(t *testing.T) {
	sources := []string{"", "li r1, 0x10 ; x", "\"a\\n\" 'b'\n$", "a\xFF", lines(50), lines(api.MaxLines + 1), strings.Repeat(" ", api.MaxSource+1)}
	var first []told
	for _, s := range sources {
		first = append(first, ask(s))
	}
	var group sync.WaitGroup
	same := make([]bool, 8)
	for g := range same {
		group.Go(func() {
			same[g] = true
			for k := range sources {
				at := (k + g) % len(sources)
				same[g] = same[g] && ask(sources[at]).same(first[at])
			}
		})
	}
	group.Wait()
	if slices.Contains(same, false) {
		t.Error("a call answers otherwise than before")
	}
}

// TestP1102NewMemory holds that what a call answered is its caller's own.
func TestP1102NewMemory(t *testing.T) {
	const source = "a \"b\" 3\n"
	first, second := ask(source), ask(source)
	want := tells(name(1, 1, "a"), str(1, 3, "b"), num(1, 7, 3), newline(1, 8), end(2, 1))
	clear(first.tokens[:cap(first.tokens)])
	if !second.same(want) || !ask(source).same(want) {
		t.Error("two answers share their tokens")
	}
}
