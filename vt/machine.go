package vt

import (
	"beacon/api"
	"beacon/utf"
)

// Bytes that are named by what they do, not by how they look.
const (
	byteBell   = 0x07
	byteCancel = 0x18
	byteSub    = 0x1a
	byteEscape = 0x1b
	byteDelete = 0x7f
)

// A machine is a state that may be, and the events so far.
type machine struct {
	api.Parse
	events []event
}

// comes takes one byte.
func (m *machine) comes(b byte) {
	switch {
	case b == byteCancel || b == byteSub:
		m.flush()
		m.tell(control(b))
		m.enter(api.StGround)
	case b == byteEscape && m.State != api.StOsc && m.State != api.StString:
		m.flush()
		m.enter(api.StEscape)
	default:
		m.step(b)
	}
}

// step takes a byte that does not do the same in all states.
func (m *machine) step(b byte) {
	switch m.State {
	case api.StGround:
		m.inGround(b)
	case api.StEscape:
		m.inEscape(b)
	case api.StInter:
		m.inInter(b)
	case api.StCsi:
		m.inCsi(b)
	case api.StSkip:
		m.inSkip(b)
	case api.StOsc:
		m.inOsc(b)
	case api.StOscEsc:
		m.inOscEscape(b)
	case api.StString:
		m.inString(b)
	case api.StStringEsc:
		m.inStringEscape(b)
	}
}

func (m *machine) tell(v event) {
	m.events = append(m.events, v)
}

// enter goes to a state, and leaves behind all that the one before had.
func (m *machine) enter(state int) {
	m.Parse = api.Parse{State: state}
}

// end tells what the state comes to.
func (m *machine) end(v event) {
	m.tell(v)
	m.enter(api.StGround)
}

// between puts b behind what stands between.
func (m *machine) between(b byte) {
	m.Inter += string(rune(b))
}

// print tells the runes that are seen.
func (m *machine) print(l []int) {
	for _, r := range l {
		if r < 0x80 || r > 0x9f {
			m.tell(printed(r))
		}
	}
}

// flush gives up a part: utf refuses none that a state may have.
func (m *machine) flush() {
	l, _ := utf.Flush(m.Part)
	m.print(l)
	m.Part = ""
}

func (m *machine) inGround(b byte) {
	switch {
	case b < ' ':
		m.flush()
		m.tell(control(b))
	case b == byteDelete:
		m.flush()
	default:
		l, part, _ := utf.Next(m.Part, b)
		m.print(l)
		m.Part = part
	}
}

func (m *machine) inEscape(b byte) {
	switch {
	case b < ' ':
		m.tell(control(b))
	case b <= '/':
		m.enter(api.StInter)
		m.between(b)
	case b == '[':
		m.enter(api.StCsi)
	case b == ']':
		m.enter(api.StOsc)
	case b == 'P' || b == 'X' || b == '^' || b == '_':
		m.enter(api.StString)
	case b < byteDelete:
		m.end(escape{last: b})
	case b > byteDelete:
		m.enter(api.StGround)
	}
}

func (m *machine) inInter(b byte) {
	switch {
	case b < ' ':
		m.tell(control(b))
	case b <= '/':
		if len(m.Inter) < maxInter {
			m.between(b)
		}
	case b < byteDelete:
		m.end(escape{last: b, inter: m.Inter})
	case b > byteDelete:
		m.enter(api.StGround)
	}
}

func (m *machine) inCsi(b byte) {
	switch {
	case b < ' ':
		m.tell(control(b))
	case b <= '/':
		if len(m.Inter) < maxInter {
			m.between(b)
			return
		}
		m.enter(api.StSkip)
	case b <= '?':
		m.parameter(b)
	case b < byteDelete:
		m.end(csi{escape{last: b, inter: m.Inter}, m.Params})
	case b > byteDelete:
		m.enter(api.StGround)
	}
}

// parameter takes a byte of a csi from 0x30 to 0x3f.
func (m *machine) parameter(b byte) {
	n := len(m.Inter)
	switch {
	case n > 0 && m.Inter[n-1] <= '/':
		m.enter(api.StSkip)
	case b <= '9':
		m.digit(int(b - '0'))
	case b <= ';':
		m.separate()
	case n > 0 || len(m.Params) > 0:
		m.enter(api.StSkip)
	default:
		m.between(b)
	}
}

// begin sees to it that there is a number: the first one is not told yet.
func (m *machine) begin() {
	if len(m.Params) == 0 {
		m.Params = []int{-1}
	}
}

func (m *machine) digit(n int) {
	m.begin()
	last := &m.Params[len(m.Params)-1]
	*last = min(max(*last, 0)*10+n, api.MaxValue)
}

func (m *machine) separate() {
	if len(m.Params) == api.MaxParams {
		m.enter(api.StSkip)
		return
	}
	m.begin()
	m.Params = append(m.Params, -1)
}

func (m *machine) inSkip(b byte) {
	switch {
	case b < ' ':
		m.tell(control(b))
	case b >= '@' && b != byteDelete:
		m.enter(api.StGround)
	}
}

func (m *machine) inOsc(b byte) {
	switch {
	case b == byteBell:
		m.end(osc(m.Text))
	case b == byteEscape:
		m.State = api.StOscEsc
	case b >= ' ' && len(m.Text) < api.MaxString:
		m.Text += string([]byte{b})
	}
}

func (m *machine) inOscEscape(b byte) {
	if b == '\\' {
		m.end(osc(m.Text))
		return
	}
	m.enter(api.StEscape)
	m.comes(b)
}

func (m *machine) inString(b byte) {
	if b == byteEscape {
		m.enter(api.StStringEsc)
	}
}

func (m *machine) inStringEscape(b byte) {
	if b == '\\' {
		m.enter(api.StGround)
		return
	}
	m.enter(api.StEscape)
	m.comes(b)
}
