package lexer_test

import (
	"math/rand"
	"regexp"
	"strconv"
	"strings"
	"testing"
	"unicode/utf8"

	"trunnion/api"
)

// runeLength is the model of UTF-8: of how many bytes the rune is with which b begins; 0, if they are none.
func runeLength(b string) int {
	lead := int(b[0])
	length, value, least := 0, 0, 0
	switch {
	case lead < 0x80:
		return 1
	case lead/32 == 6:
		length, value, least = 2, lead%32, 0x80
	case lead/16 == 14:
		length, value, least = 3, lead%16, 0x800
	case lead/8 == 30:
		length, value, least = 4, lead%8, 0x10000
	default:
		return 0
	}
	if len(b) < length {
		return 0
	}
	for _, c := range []byte(b[1:length]) {
		if c/64 != 2 {
			return 0
		}
		value = value*64 + int(c)%64
	}
	if value < least || value > 0x10FFFF || value >= 0xD800 && value <= 0xDFFF {
		return 0
	}
	return length
}

// wholeRunes tells how many bytes of s stand ahead of the first that is none.
func wholeRunes(s string) int {
	at := 0
	for at < len(s) {
		n := runeLength(s[at:])
		if n == 0 {
			break
		}
		at += n
	}
	return at
}

// The things of a source, each as a pattern.
var (
	noToken   = regexp.MustCompile(`^(?:[ \t\r]+|;[^\n]*)`)
	aName     = regexp.MustCompile(`^[A-Za-z_.\x{80}-\x{10FFFF}][A-Za-z_.0-9\x{80}-\x{10FFFF}]*`)
	aNumber   = regexp.MustCompile(`^(?:0x[0-9a-fA-F]+|[0-9]+)`)
	aRune     = regexp.MustCompile(`^'(?:[^\n'\\]|\\[n\\'])'`)
	aString   = regexp.MustCompile(`^"(?:[^\n"\\]|\\[n\\"])*"`)
	aSign     = regexp.MustCompile(`^[-,:+()=]`)
	aLine     = regexp.MustCompile(`^\n`)
	openQuote = regexp.MustCompile(`^(?:'(?:[^\n'\\]|\\[n\\']|\\)?|"(?:[^\n"\\]|\\[n\\"])*\\?)$`)
)

// meaning is what stands between quotes, with what the escapes mean.
func meaning(quoted string) string {
	return strings.NewReplacer(`\n`, "\n", `\\`, `\`, `\'`, `'`, `\"`, `"`).Replace(quoted[1 : len(quoted)-1])
}

// placeOf tells the line and the column of the byte at in s.
func placeOf(s string, at int) (int, int) {
	ahead := s[:at]
	return 1 + strings.Count(ahead, "\n"), 1 + utf8.RuneCountInString(ahead[strings.LastIndex(ahead, "\n")+1:])
}

// modelOf is the model of Tokens: patterns are held against what is left, one by one.
func modelOf(s string) told {
	if len(s) > api.MaxSource {
		return fails(1, 1, api.ErrLong)
	}
	text := s[:wholeRunes(s)]
	var tokens []api.Token
	fault := func(at int, err api.Errno) told {
		line, col := placeOf(text, at)
		return fails(line, col, err)
	}
	for at := 0; at < len(text); {
		rest := text[at:]
		line, col := placeOf(text, at)
		add := func(kind int, text string, n int) {
			tokens = append(tokens, token(kind, text, n, line, col))
		}
		var found string
		has := func(p *regexp.Regexp) bool {
			found = p.FindString(rest)
			return found != ""
		}
		switch {
		case has(noToken):
		case has(aName):
			if utf8.RuneCountInString(found) > 40 {
				return fault(at, api.ErrLong)
			}
			add(api.TName, found, 0)
		case has(aNumber):
			if aName.MatchString(rest[len(found):]) {
				return fault(at+len(found), api.ErrSyntax)
			}
			digits, base := found, 10
			if strings.HasPrefix(found, "0x") {
				digits, base = found[2:], 16
			}
			n, err := strconv.ParseUint(digits, base, 32)
			if err != nil {
				return fault(at, api.ErrRange)
			}
			add(api.TNum, "", int(n))
		case has(aRune):
			add(api.TNum, "", int([]rune(meaning(found))[0]))
		case has(aString):
			add(api.TStr, meaning(found), 0)
		case has(aSign):
			add(api.TSign, found, 0)
		case has(aLine):
			if line > 8000 {
				return fault(at, api.ErrLong)
			}
			add(api.TLine, "", 0)
		case len(text) < len(s) && openQuote.MatchString(rest):
			return fault(len(text), api.ErrByte)
		default:
			return fault(at, api.ErrSyntax)
		}
		at += len(found)
	}
	if len(text) < len(s) {
		return fault(len(text), api.ErrByte)
	}
	line, col := placeOf(text, len(text))
	return tells(append(tokens, end(line, col))...)
}

func checkModel(t *testing.T, s string) {
	t.Helper()
	if got, want := ask(s), modelOf(s); !got.same(want) {
		t.Fatalf("%q: %+v, want %+v", s, got, want)
	}
}

// TestP1101Utf8 goes through all rows of two bytes, and through those of up to four at which a rune ends to be one,
// alone, in a remark, in quotes, and with a letter behind.
func TestP1101Utf8(t *testing.T) {
	around := []string{"=%s", "; %s", "\"%s\"", "'%s'", "%sz", "\n\t%s 1"}
	try := func(bytes ...byte) {
		for _, a := range around {
			checkModel(t, strings.Replace(a, "%s", string(bytes), 1))
		}
	}
	for a := range 256 {
		try(byte(a))
		for b := range 256 {
			try(byte(a), byte(b))
		}
	}
	edges := []byte{0x00, 0x41, 0x7F, 0x80, 0x8F, 0x90, 0x9F, 0xA0, 0xBF, 0xC0, 0xC1, 0xC2, 0xE0, 0xFF}
	for _, a := range []byte{0xC2, 0xDF, 0xE0, 0xE1, 0xEC, 0xED, 0xEE, 0xEF, 0xF0, 0xF1, 0xF3, 0xF4, 0xF5, 0xF7, 0xF8} {
		for _, b := range edges {
			for _, c := range edges {
				try(a, b, c)
				for _, d := range edges {
					try(a, b, c, d)
				}
			}
		}
	}
}

// TestP1101Model asks for texts that are put together of pieces by chance, always the same ones.
func TestP1101Model(t *testing.T) {
	pieces := []string{
		" ", "\t", "\r", "\n", ";", ",", ":", "-", "+", "(", ")", "=", "'", "\"", "\\", "n", "0", "1", "9", "x", "0x", "f", "G", "_", ".", "é", "€", "\uFFFD",
		"$", "\x00", "\x7F", "\xFF", "\xC3", "\x80", "\xED\xA0\x80", "'a'", `'\n'`, `'\''`, `"b"`, `"\""`, `"\\"`, "4294967295", "4294967296", "0xFFFFFFFF", "0x100000000",
		"li", "r15", "; x", strings.Repeat("a", 39), strings.Repeat("é", 40), "99999999999999999999",
	}
	random := rand.New(rand.NewSource(1))
	wholes := 0
	for range 200000 {
		var s strings.Builder
		for range random.Intn(9) {
			s.WriteString(pieces[random.Intn(len(pieces))])
		}
		checkModel(t, s.String())
		if ask(s.String()).err == api.OK {
			wholes++
		}
	}
	if wholes < 1000 {
		t.Errorf("only %d of the texts have no fault", wholes)
	}
}

// TestP1101Sources asks for longer sources without a fault, and for the same with a byte put in at some place.
func TestP1101Sources(t *testing.T) {
	const source = ".org 0x100\n_start: li r1, 'a' ; letters\n\tlw r2, -4(r1)\n.ascii \"é\\n\\\"\\\\\"\n.equ größe, 3+4\r\n\nj _start\n"
	checkModel(t, source)
	if x := ask(source); x.err != api.OK || len(x.tokens) != 34 {
		t.Errorf("%d tokens, %+v", len(x.tokens), x)
	}
	for at := range len(source) + 1 {
		for b := range 256 {
			checkModel(t, source[:at]+string([]byte{byte(b)})+source[at:])
		}
		checkModel(t, source[:at])
		checkModel(t, source[at:])
	}
}
