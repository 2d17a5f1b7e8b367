package config

import (
	"bytes"
	"errors"

	"trunnion/api"
)

const (
	mark = "TRC1" // what packed bytes begin with
	cell = 4      // bytes of a packed number
)

// Pack tells the bytes of a configuration: the mark, its numbers and names, and the sum of all these.
func Pack(c api.Config) ([]byte, api.Errno) {
	if err := Check(c); err != api.OK {
		return nil, err
	}
	b := appendNumbers([]byte(mark), c.Pages, c.Major, c.Switch, len(c.Parts))
	for _, p := range c.Parts {
		b = appendNumbers(b, len(p.Name), p.Pages, p.Action)
		b = append(b, p.Name...)
	}
	b = appendNumbers(b, len(c.Channels))
	for _, h := range c.Channels {
		b = appendNumbers(b, h.Kind, h.From, h.To, h.Size, h.Depth)
	}
	b = appendNumbers(b, len(c.Windows))
	for _, w := range c.Windows {
		b = appendNumbers(b, w.Start, w.Len, w.Part)
	}
	return appendNumbers(b, sum(b)), api.OK
}

// appendNumbers tells b with numbers behind it, the lowest byte of each first.
func appendNumbers(b []byte, numbers ...int) []byte {
	for _, n := range numbers {
		b = append(b, byte(n), byte(n>>8), byte(n>>16), byte(n>>24))
	}
	return b
}

// sum tells the sum of bytes; those of a configuration are so few that it is a word.
func sum(b []byte) int {
	all := 0
	for _, c := range b {
		all += int(c)
	}
	return all
}

// unreadable goes up, as a panic's error, from where bytes can be no configuration's to the call that tells it.
type unreadable struct{}

// Error tells the fault as a text.
func (unreadable) Error() string { return "the bytes are no configuration's" }

// reader reads packed bytes; where they can't go on it gives up.
type reader struct{ rest []byte }

// Unpack tells the configuration of which Pack tells just b. It packs what it read anew: so nothing that Pack would tell otherwise is taken, whatever it be.
func Unpack(b []byte) (c api.Config, errno api.Errno) {
	defer func() {
		var u unreadable
		if err, ok := recover().(error); ok && errors.As(err, &u) {
			c, errno = api.Config{}, api.ErrByte
		}
	}()
	r := reader{b}
	read := r.config()
	if packed, err := Pack(read); err != api.OK || !bytes.Equal(packed, b) {
		return api.Config{}, api.ErrByte
	}
	return read, api.OK
}

// config reads all but the sum.
func (r *reader) config() api.Config {
	r.take(len(mark))
	c := api.Config{Pages: r.number(), Major: r.number(), Switch: r.number()}
	for range r.count(api.MaxParts) {
		c.Parts = append(c.Parts, r.part())
	}
	for range r.count(api.MaxPorts) {
		c.Channels = append(c.Channels, api.Channel{Kind: r.number(), From: r.number(), To: r.number(), Size: r.number(), Depth: r.number()})
	}
	for range r.count(api.MaxWin) {
		c.Windows = append(c.Windows, api.Window{Start: r.number(), Len: r.number(), Part: r.number()})
	}
	return c
}

func (r *reader) part() api.Part {
	length := r.count(longestName)
	p := api.Part{Pages: r.number(), Action: r.number()}
	p.Name = string(r.take(length))
	return p
}

// take tells the next n bytes, and leaves them.
func (r *reader) take(n int) []byte {
	if n > len(r.rest) {
		panic(unreadable{})
	}
	taken := r.rest[:n]
	r.rest = r.rest[n:]
	return taken
}

func (r *reader) number() int {
	b := r.take(cell)
	return int(uint32(b[0]) | uint32(b[1])<<8 | uint32(b[2])<<16 | uint32(b[3])<<24)
}

// count reads how many of something there are: no more than most, so that what is read stays small, whatever the bytes say.
func (r *reader) count(most int) int {
	n := r.number()
	if n > most {
		panic(unreadable{})
	}
	return n
}
