package conf

import (
	"strconv"
	"strings"

	"casemate/api"
)

// The words that may stand last in a line.
const (
	allowWord = "allow"
	denyWord  = "deny"
	proxyWord = "proxy"
)

// draft is a configuration of which some lines were read.
type draft struct {
	api.Config
}

// reader takes a line's words behind its first one into a draft.
type reader func(d *draft, w *words)

// words are those of a line that weren't read yet. They are bad for good, once one of them isn't what stands there in such a line.
type words struct {
	left []string
	bad  bool
}

// newDraft is the configuration of no lines.
func newDraft() *draft {
	return &draft{api.Config{Lo: 1024, Hi: 65535, Tcp: 1000, Other: 100, Budget: 10}}
}

// read takes a line.
func (d *draft) read(line string) api.Errno {
	if len(line) > api.MaxRow {
		return api.ErrLong
	}
	list := strings.FieldsFunc(line, isBlank)
	if len(list) == 0 || strings.HasPrefix(list[0], "#") {
		return api.OK
	}
	take := readerOf(list[0])
	if take == nil {
		return api.ErrName
	}
	w := &words{left: list[1:]}
	take(d, w)
	if w.bad || len(w.left) > 0 {
		return api.ErrForm
	}
	return api.OK
}

// isBlank: other white space stands in words, so that a line has one reading.
func isBlank(r rune) bool {
	return r == ' '
}

// readerOf is the reader of the lines with a first word, or nil.
func readerOf(word string) reader {
	switch word {
	case "route":
		return (*draft).readRoute
	case "rule":
		return (*draft).readRule
	case "outside":
		return (*draft).readOutside
	case "public":
		return (*draft).readPublic
	case "forward":
		return (*draft).readForward
	case "life":
		return (*draft).readLife
	case "budget":
		return (*draft).readBudget
	}
	return nil
}

func (d *draft) readRoute(w *words) {
	var r api.Route
	r.Net, r.Bits = w.net()
	r.Zone = w.number()
	r.Mtu = w.number()
	d.Routes = append(d.Routes, r)
}

func (d *draft) readRule(w *words) {
	var r api.Rule
	r.From = w.number()
	r.To = w.number()
	r.Proto = w.number()
	r.Src, r.SrcBits = w.net()
	r.Dst, r.DstBits = w.net()
	r.Lo = w.number()
	r.Hi = w.number()
	r.Action = w.action()
	d.Rules = append(d.Rules, r)
}

func (d *draft) readOutside(w *words) {
	d.Outside = w.number()
}

func (d *draft) readPublic(w *words) {
	d.Public = w.address()
	d.Lo = w.number()
	d.Hi = w.number()
}

func (d *draft) readForward(w *words) {
	var f api.Forward
	f.Proto = w.number()
	f.Port = w.number()
	f.Addr = w.address()
	f.To = w.number()
	f.Proxy = w.perhaps(proxyWord)
	d.Forwards = append(d.Forwards, f)
}

func (d *draft) readLife(w *words) {
	d.Tcp = w.number()
	d.Other = w.number()
}

func (d *draft) readBudget(w *words) {
	d.Budget = w.number()
}

// next is the next word. Where there is none, it is one that nothing is formed like.
func (w *words) next() string {
	if len(w.left) == 0 {
		return ""
	}
	word := w.left[0]
	w.left = w.left[1:]
	return word
}

// check keeps that a word wasn't formed so.
func (w *words) check(formed bool) {
	w.bad = w.bad || !formed
}

func (w *words) number() int {
	n, ok := numberOf(w.next())
	w.check(ok)
	return n
}

func (w *words) address() uint32 {
	addr, ok := addressOf(w.next())
	w.check(ok)
	return addr
}

// net is an address, and how many bits of it count.
func (w *words) net() (uint32, int) {
	first, second, _ := strings.Cut(w.next(), "/")
	addr, ok := addressOf(first)
	w.check(ok)
	bits, ok := numberOf(second)
	w.check(ok)
	return addr, bits
}

func (w *words) action() int {
	switch w.next() {
	case allowWord:
		return api.Allow
	case denyWord:
		return api.Deny
	}
	w.check(false)
	return 0
}

// perhaps tells whether a word stands there; where nothing stands, it doesn't.
func (w *words) perhaps(word string) bool {
	if len(w.left) == 0 {
		return false
	}
	w.check(w.next() == word)
	return true
}

// numberOf is the number that a word is.
func numberOf(word string) (int, bool) {
	digits := strings.TrimPrefix(word, "-")
	needless := len(digits) > 1 && digits[0] == '0'
	// ParseInt would take a plus, too.
	if needless || strings.HasPrefix(word, "+") {
		return 0, false
	}
	n, err := strconv.ParseInt(word, 10, 32)
	if err != nil {
		return 0, false
	}
	return int(n), true
}

// addressOf is the address that a word is.
func addressOf(word string) (uint32, bool) {
	parts := strings.Split(word, ".")
	if len(parts) != 4 {
		return 0, false
	}
	var addr uint32
	for _, part := range parts {
		n, ok := numberOf(part)
		if !ok || !isFrom(n, 0, 255) {
			return 0, false
		}
		addr = addr<<8 | uint32(n)
	}
	return addr, true
}
