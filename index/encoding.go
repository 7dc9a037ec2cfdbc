package index

import "mailsack/api"

// The bytes of integers.
const (
	wide  = 4
	half  = 2
	short = 1
)

// reader takes an encoding apart; failed is true once bytes were missing.
type reader struct {
	rest   string
	failed bool
}

// Put returns the encoding of x.
func Put(x Index) (string, api.Errno) {
	if !Right(x) {
		return "", api.ErrArg
	}
	out := number(nil, x.Given, wide)
	out = number(out, len(x.Boxes), short)
	for _, b := range x.Boxes {
		out = text(out, b.Name)
		out = number(out, b.Validity, wide)
		out = number(out, b.Next, wide)
		out = number(out, len(b.Mails), short)
		for _, m := range b.Mails {
			out = number(out, m.UID, wide)
			out = number(out, m.Flags, short)
			out = number(out, m.Object, wide)
			out = number(out, m.Size, half)
		}
	}
	out = number(out, len(x.Subs), short)
	for _, s := range x.Subs {
		out = text(out, s)
	}
	return string(out), api.OK
}

// Take returns the index whose encoding is s.
func Take(s string) (Index, api.Errno) {
	r := &reader{rest: s}
	x := Index{Given: r.number(wide)}
	for range r.number(short) {
		x.Boxes = append(x.Boxes, r.box())
	}
	for range r.number(short) {
		x.Subs = append(x.Subs, r.text())
	}
	if r.failed || r.rest != "" || !Right(x) {
		return Index{}, api.ErrForm
	}
	return x, api.OK
}

// number appends n in so many bytes, least significant first.
func number(out []byte, n int, bytes int) []byte {
	for i := range bytes {
		out = append(out, byte(n>>(8*i)))
	}
	return out
}

// text appends the length of s and s itself.
func text(out []byte, s string) []byte {
	return append(number(out, len(s), short), s...)
}

// bytes returns the next n bytes, or none if there are fewer.
func (r *reader) bytes(n int) string {
	if n > len(r.rest) {
		r.failed = true
		r.rest = ""
		return ""
	}
	s := r.rest[:n]
	r.rest = r.rest[n:]
	return s
}

func (r *reader) number(bytes int) int {
	s := r.bytes(bytes)
	n := 0
	for i := range len(s) {
		n |= int(s[i]) << (8 * i)
	}
	return n
}

func (r *reader) text() string {
	return r.bytes(r.number(short))
}

func (r *reader) box() Box {
	b := Box{Name: r.text(), Validity: r.number(wide), Next: r.number(wide)}
	for range r.number(short) {
		m := Mail{UID: r.number(wide), Flags: r.number(short), Object: r.number(wide), Size: r.number(half)}
		b.Mails = append(b.Mails, m)
	}
	return b
}
