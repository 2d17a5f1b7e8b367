package image_test

import (
	"bytes"
	"math"
	"math/big"
	"math/rand"
	"slices"
	"strings"
	"sync"
	"testing"

	"trunnion/api"
	"trunnion/asm"
	"trunnion/image"
)

const most = 256 * 4096 // bytes of an image

// four is a number's lowest four bytes, the lowest first, by divisions of a big number.
func four(n *big.Int) []byte {
	var b []byte
	rest := new(big.Int).Set(n)
	for range 4 {
		var low big.Int
		rest.DivMod(rest, big.NewInt(256), &low)
		b = append(b, byte(low.Int64()))
	}
	return b
}

// packed is what the chapter says of an image that can be.
func packed(entry int, own []byte) []byte {
	b := bytes.Join([][]byte{{0x54, 0x52, 0x55, 0x31}, four(big.NewInt(int64(entry))), four(big.NewInt(int64(len(own)))), own}, nil)
	sum := new(big.Int)
	for _, c := range b {
		sum.Add(sum, big.NewInt(int64(c)))
	}
	return append(b, four(sum)...)
}

// resum is b with the sum of what is ahead as its last four bytes.
func resum(b []byte) []byte {
	b = slices.Clone(b)
	sum := new(big.Int)
	for _, c := range b[:len(b)-4] {
		sum.Add(sum, big.NewInt(int64(c)))
	}
	copy(b[len(b)-4:], four(sum))
	return b
}

// some are n bytes in which each value is found.
func some(n int) []byte {
	b := make([]byte, n)
	for k := range b {
		b[k] = byte(k*7 + k/256*3 + 1)
	}
	return b
}

// refused holds Unpack to ErrByte and nothing beside it.
func refused(t *testing.T, b []byte, why string) {
	t.Helper()
	i, err := image.Unpack(b)
	if err != api.ErrByte || i.Entry != 0 || len(i.Bytes) != 0 {
		t.Errorf("P1301: Unpack of %s: %d bytes, Entry %d, error %d, want ErrByte alone", why, len(i.Bytes), i.Entry, err)
	}
}

// taken holds Unpack to an image.
func taken(t *testing.T, b []byte, entry int, own []byte) {
	t.Helper()
	i, err := image.Unpack(b)
	if err != api.OK || i.Entry != entry || !bytes.Equal(i.Bytes, own) {
		t.Errorf("P1301: Unpack: %d bytes, Entry %d, error %d, want %d bytes, Entry %d", len(i.Bytes), i.Entry, err, len(own), entry)
	}
}

func TestP1301Example(t *testing.T) {
	want := []byte{0x54, 0x52, 0x55, 0x31, 0, 0, 0, 0, 0, 0, 0, 0, 0x2C, 1, 0, 0}
	for _, own := range [][]byte{nil, {}} {
		b, err := image.Pack(api.Image{Bytes: own})
		if err != api.OK || !bytes.Equal(b, want) {
			t.Errorf("P1301: Pack of no bytes: % X, error %d", b, err)
		}
	}
	taken(t, want, 0, nil)
}

func TestP1301Check(t *testing.T) {
	long, full := make([]byte, most+1), make([]byte, most)
	for _, x := range []struct {
		entry int
		own   []byte
		want  api.Errno
	}{
		{0, nil, api.OK}, {4, nil, api.OK}, {8, []byte{1}, api.OK}, {4096, some(7), api.OK},
		{1 << 31, nil, api.OK}, {1<<32 - 4, nil, api.OK}, {1<<32 - 4, full, api.OK}, {api.Mmio, nil, api.OK},
		{1, nil, api.ErrImage}, {2, nil, api.ErrImage}, {3, nil, api.ErrImage}, {5, nil, api.ErrImage}, {6, some(9), api.ErrImage},
		{-1, nil, api.ErrImage}, {-4, nil, api.ErrImage}, {-1 << 32, nil, api.ErrImage}, {math.MinInt, nil, api.ErrImage},
		{1<<32 - 1, nil, api.ErrImage}, {1<<32 - 2, nil, api.ErrImage}, {1 << 32, nil, api.ErrImage}, {1<<32 + 4, nil, api.ErrImage},
		{1 << 62, nil, api.ErrImage}, {math.MaxInt, nil, api.ErrImage}, {math.MaxInt - 3, nil, api.ErrImage},
		{0, full, api.OK}, {0, full[:most-1], api.OK}, {0, long, api.ErrLong}, {4, make([]byte, 2*most), api.ErrLong},
		{1, long, api.ErrImage}, {-4, long, api.ErrImage}, {1 << 32, long, api.ErrImage},
	} {
		i := api.Image{Entry: x.entry, Bytes: x.own}
		if got := image.Check(i); got != x.want {
			t.Errorf("P1301: Check of Entry %d, %d bytes: %d, want %d", x.entry, len(x.own), got, x.want)
		}
		b, err := image.Pack(i)
		if err != x.want {
			t.Errorf("P1301: Pack of Entry %d, %d bytes: error %d, want %d", x.entry, len(x.own), err, x.want)
		}
		if x.want != api.OK {
			if len(b) != 0 {
				t.Errorf("P1301: Pack tells %d bytes beside error %d", len(b), err)
			}
			continue
		}
		if !bytes.Equal(b, packed(x.entry, x.own)) {
			t.Errorf("P1301: Pack of Entry %d, %d bytes tells others than the chapter", x.entry, len(x.own))
		}
		taken(t, b, x.entry, x.own)
	}
}

// TestP1301Numbers: both numbers and the sum stand lowest byte first.
func TestP1301Numbers(t *testing.T) {
	b, _ := image.Pack(api.Image{Entry: 0x12345678, Bytes: some(0x10203)})
	if !bytes.HasPrefix(b, []byte{'T', 'R', 'U', '1', 0x78, 0x56, 0x34, 0x12, 3, 2, 1, 0, 1, 8, 15}) {
		t.Errorf("P1301: Pack begins with % X", b[:15])
	}
	b, _ = image.Pack(api.Image{Bytes: []byte{0xFF, 0x80, 7}})
	if !bytes.Equal(b[8:], []byte{3, 0, 0, 0, 0xFF, 0x80, 7, 0xB5, 2, 0, 0}) {
		t.Errorf("P1301: Pack ends with % X", b[8:])
	}
	b, _ = image.Pack(api.Image{Bytes: bytes.Repeat([]byte{0xFF}, most)})
	if !bytes.Equal(b[len(b)-4:], []byte{0x3C, 1, 0xF0, 0x0F}) {
		t.Errorf("P1301: the greatest sum is % X", b[len(b)-4:])
	}
}

// TestP1301Short: of packed bytes none can be missing, and none more stand behind.
func TestP1301Short(t *testing.T) {
	refused(t, nil, "nothing")
	refused(t, []byte{}, "nothing")
	refused(t, []byte("TRU1"), "the mark")
	for _, own := range [][]byte{nil, {0}, {1, 2, 3, 4}, some(40)} {
		b := packed(8, own)
		for n := range b {
			refused(t, b[:n], "bytes cut at their end")
			refused(t, b[n+1:], "bytes cut at their front")
			if n >= 4 {
				refused(t, resum(b[:n]), "bytes cut at their end, with their sum")
			}
		}
		for n := 1; n <= 5; n++ {
			longer := append(slices.Clone(b), make([]byte, n)...)
			refused(t, longer, "bytes with more behind")
			refused(t, resum(longer), "bytes with more behind, and their sum")
		}
	}
}

// TestP1301Changed: one byte changed is told by the sum, and all but Entry and the image's own bytes even with a right sum.
func TestP1301Changed(t *testing.T) {
	b := packed(0x100, []byte{9, 8, 7})
	for k := range b {
		for d := 1; d < 256; d++ {
			x := slices.Clone(b)
			x[k] += byte(d)
			refused(t, x, "bytes of which one is changed")
			x = resum(x)
			switch {
			case k >= len(b)-4:
				taken(t, x, 0x100, []byte{9, 8, 7})
			case k >= 12:
				taken(t, x, 0x100, x[12:15])
			case k == 4 && d%4 != 0 || k < 4 || k >= 8:
				refused(t, x, "bytes of which one is changed, with their sum")
			default:
				taken(t, x, int(x[4])+int(x[5])<<8+int(x[6])<<16+int(x[7])<<24, []byte{9, 8, 7})
			}
		}
	}
}

// TestP1301TooLong: no bytes are those of an image that Pack refuses.
func TestP1301TooLong(t *testing.T) {
	taken(t, packed(0, some(most)), 0, some(most))
	refused(t, packed(0, some(most+1)), "an image too long")
	refused(t, packed(2, nil), "an odd Entry")
	refused(t, packed(1<<32-1, nil), "the greatest word as Entry")
	taken(t, packed(1<<32-4, nil), 1<<32-4, nil)
	far := packed(0, some(4))
	copy(far[8:12], []byte{4, 0, 0, 0x80})
	refused(t, resum(far), "a count far above")
	copy(far[8:12], []byte{0xFF, 0xFF, 0xFF, 0xFF})
	refused(t, resum(far), "the greatest count")
}

// TestP1301Chance: there and back by chance, and bytes by chance hold Unpack to Pack.
func TestP1301Chance(t *testing.T) {
	r := rand.New(rand.NewSource(13))
	for range 2000 {
		own := make([]byte, r.Intn(300))
		r.Read(own)
		entry := int(r.Uint32()) &^ 3
		b, err := image.Pack(api.Image{Entry: entry, Bytes: own})
		if err != api.OK || !bytes.Equal(b, packed(entry, own)) {
			t.Fatalf("P1301: Pack of Entry %d, % X: % X, error %d", entry, own, b, err)
		}
		taken(t, b, entry, own)
		for range 3 {
			b[r.Intn(len(b))] = byte(r.Intn(256))
		}
		for _, x := range [][]byte{b, resum(b)} {
			i, err := image.Unpack(x)
			back, perr := image.Pack(i)
			if err == api.OK && (perr != api.OK || !bytes.Equal(back, x)) {
				t.Fatalf("P1301: Unpack takes % X, of which Pack tells % X", x, back)
			}
			rule := bytes.HasPrefix(x, []byte("TRU1")) && x[4]%4 == 0 && bytes.Equal(x[8:12], four(big.NewInt(int64(len(x)-16)))) && bytes.Equal(x, resum(x))
			if rule != (err == api.OK) {
				t.Fatalf("P1301: Unpack of % X: error %d", x, err)
			}
		}
	}
}

// TestP1301Assembled: what the assembler tells goes there and back.
func TestP1301Assembled(t *testing.T) {
	i, _, line, err := asm.Assemble(strings.Repeat("nop\n", 9) + ".entry 8\n.ascii \"TRU1\"")
	if err != api.OK {
		t.Fatalf("line %d: error %d", line, err)
	}
	b, err := image.Pack(i)
	if err != api.OK {
		t.Fatalf("P1301: Pack: error %d", err)
	}
	taken(t, b, 8, i.Bytes)
}

// TestP1302Pack: an answer shares nothing with what was handed in, nor with another one; what is handed in stays, its spare room too.
func TestP1302Pack(t *testing.T) {
	room := some(64)
	kept := slices.Clone(room)
	i := api.Image{Entry: 4, Bytes: room[:32]}
	a, _ := image.Pack(i)
	b, _ := image.Pack(i)
	if !bytes.Equal(room, kept) {
		t.Error("P1302: Pack changed what was handed in, or its spare room")
	}
	want := slices.Clone(a)
	clear(b[:cap(b)])
	clear(room)
	if !bytes.Equal(a, want) {
		t.Error("P1302: Pack's answer shares bytes")
	}
	clear(a)
	if c, _ := image.Pack(api.Image{Entry: 4, Bytes: kept[:32]}); !bytes.Equal(c, want) {
		t.Error("P1302: Pack keeps something")
	}
}

func TestP1302Unpack(t *testing.T) {
	room := append(packed(4, some(32)), 0xEE, 0xEE, 0xEE)
	kept := slices.Clone(room)
	given := room[:len(room)-3]
	a, _ := image.Unpack(given)
	b, _ := image.Unpack(given)
	clear(b.Bytes[:cap(b.Bytes)])
	_ = append(b.Bytes, 1, 2, 3, 4, 5, 6, 7, 8)
	if !bytes.Equal(room, kept) || !bytes.Equal(a.Bytes, some(32)) {
		t.Error("P1302: Unpack's answer shares bytes with what was handed in, or with another answer")
	}
	_ = append(a.Bytes, 1, 2, 3, 4)
	clear(room)
	if !bytes.Equal(a.Bytes, some(32)) {
		t.Error("P1302: Unpack keeps what was handed in")
	}
	image.Unpack(kept[:20])
	if !bytes.HasPrefix(kept, []byte("TRU1")) || kept[len(kept)-1] != 0xEE {
		t.Error("P1302: a refused Unpack changed what was handed in")
	}
}

// TestP1302SameAgain: many at once tell the same.
func TestP1302SameAgain(t *testing.T) {
	own := some(5000)
	want := packed(16, own)
	var all sync.WaitGroup
	for range 8 {
		all.Go(func() {
			for range 20 {
				b, err := image.Pack(api.Image{Entry: 16, Bytes: own})
				if err != api.OK || !bytes.Equal(b, want) {
					t.Errorf("P1302: Pack tells otherwise: error %d", err)
				}
				taken(t, want, 16, own)
			}
		})
	}
	all.Wait()
}
