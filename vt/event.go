package vt

import "beacon/api"

// An event is a printed rune, a control, an escape, a csi or an osc.
type event any

type printed rune

type control byte

// An escape's last byte, and what stands between.
type escape struct {
	last  byte
	inter string
}

// A csi is an escape with numbers.
type csi struct {
	escape
	params []int
}

type osc string

// told makes of events what the face tells.
func told(events []event) []api.Event {
	var l []api.Event
	for _, v := range events {
		l = append(l, plain(v))
	}
	return l
}

func plain(v event) api.Event {
	if r, ok := v.(printed); ok {
		return api.Event{Kind: api.EvPrint, Rune: int(r)}
	}
	if b, ok := v.(control); ok {
		return api.Event{Kind: api.EvControl, Rune: int(b)}
	}
	if x, ok := v.(escape); ok {
		return api.Event{Kind: api.EvEscape, Rune: int(x.last), Inter: x.inter}
	}
	if x, ok := v.(csi); ok {
		return api.Event{Kind: api.EvCsi, Rune: int(x.last), Params: x.params, Inter: x.inter}
	}
	return api.Event{Kind: api.EvOsc, Text: string(v.(osc))}
}
