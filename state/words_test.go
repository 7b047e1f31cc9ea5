package state_test

import (
	"bytes"

	"lethe/api"
)

// The chapter's sentences, made without any of what the program uses. Numbers are taken as int64, in which no sum or difference of them wraps round.

func isZero(b []byte) bool { return bytes.Equal(b, zeros(len(b))) }

func helloZero(h api.Hello) bool {
	return isZero(h.Identity[:]) && isZero(h.Once[:]) && h.Prekey == 0
}

// wordsRules: of the chapter's six rules, which ones hold; the first stands at 1.
func wordsRules(s api.State) [7]bool {
	own, turns := int64(s.Own), int64(s.Turns)
	sent, prev, serial := int64(s.Sent), int64(s.Prev), int64(s.Serial)
	noIdentity := isZero(s.Hello.Identity[:])
	nothingSent := isZero(s.SendKey[:]) && sent == 0 && prev == 0 && serial == 0 && helloZero(s.Hello)
	return [7]bool{
		1: own-turns <= 1 && turns-own <= 1 && (own+turns > 0 || nothingSent),
		2: own > 0 || nothingSent,
		3: turns > 0 || isZero(s.RecvKey[:]) && s.Got == 0,
		4: (own != 1 || prev == 0 && serial == sent) && (own == 0 || serial >= sent && serial-sent >= prev),
		5: helloZero(s.Hello) || !noIdentity && turns == 0,
		6: noIdentity || bytes.Equal(s.Hello.Identity[:], s.Bind[:32]),
	}
}

func wordsMayBe(s api.State) bool {
	for rule, holds := range wordsRules(s) {
		if rule > 0 && !holds {
			return false
		}
	}
	return true
}

// wordsBytes: of any state, whether it may be or not, with this byte ahead of the hello, which is written if the byte is 1.
func wordsBytes(s api.State, mark byte) []byte {
	b := joined([]byte{1}, s.Sid[:], s.Bind[:], s.Root[:], s.Pair.Priv[:], s.Pair.Pub[:], s.Peer[:], four(s.Own), four(s.Turns), four(s.Serial))
	if s.Own > 0 {
		b = joined(b, s.SendKey[:], four(s.Sent), four(s.Prev))
	}
	if s.Turns > 0 {
		b = joined(b, s.RecvKey[:], four(s.Got))
	}
	b = joined(b, []byte{mark})
	if mark == 1 {
		b = joined(b, s.Hello.Once[:], four(s.Hello.Prekey))
	}
	return b
}

func wordsMark(s api.State) byte {
	if helloZero(s.Hello) {
		return 0
	}
	return 1
}

func wordsEncode(s api.State) ([]byte, api.Errno) {
	if !wordsMayBe(s) {
		return nil, 180
	}
	return wordsBytes(s, wordsMark(s)), 0
}

func wordsNumber(b []byte) uint32 {
	return uint32(b[0])*256*256*256 + uint32(b[1])*256*256 + uint32(b[2])*256 + uint32(b[3])
}

// wordsDecode: by places that are counted from the front, not by a reader.
func wordsDecode(b []byte) (api.State, api.Errno) {
	none := api.State{}
	if len(b) == 0 {
		return none, 10
	}
	if b[0] != 1 {
		return none, 140
	}
	if len(b) < 221 {
		return none, 10
	}
	s := api.State{Sid: api.Sid(b[1:17]), Bind: [64]byte(b[17:81]), Root: api.Key(b[81:113]), Pair: api.Pair{Priv: api.Key(b[113:145]), Pub: api.Key(b[145:177])}, Peer: api.Key(b[177:209])}
	s.Own, s.Turns, s.Serial = wordsNumber(b[209:213]), wordsNumber(b[213:217]), wordsNumber(b[217:221])
	markAt, recvAt := 221, 221
	if s.Own > 0 {
		markAt, recvAt = markAt+40, 261
	}
	if s.Turns > 0 {
		markAt += 36
	}
	if len(b) <= markAt {
		return none, 10
	}
	if s.Own > 0 {
		s.SendKey, s.Sent, s.Prev = api.Key(b[221:253]), wordsNumber(b[253:257]), wordsNumber(b[257:261])
	}
	if s.Turns > 0 {
		s.RecvKey, s.Got = api.Key(b[recvAt:recvAt+32]), wordsNumber(b[recvAt+32:recvAt+36])
	}
	end := markAt + 1
	switch b[markAt] {
	case 0:
	case 1:
		end += 36
	default:
		return none, 180
	}
	switch {
	case len(b) < end:
		return none, 10
	case len(b) > end:
		return none, 11
	}
	if b[markAt] == 1 {
		s.Hello = api.Hello{Identity: api.Key(s.Bind[:32]), Once: api.Key(b[markAt+1 : markAt+33]), Prekey: wordsNumber(b[markAt+33:])}
		if helloZero(s.Hello) {
			return none, 180
		}
	}
	if !wordsMayBe(s) {
		return none, 180
	}
	return s, 0
}

func wordsLimitsMayBe(l api.Limits) bool {
	return l.Peers >= 1 && l.Peers <= 16 && l.Prekeys >= 1 && l.Prekeys <= 64 && l.Skip >= 0 && l.Skip <= 64 && l.Skips >= 0 && l.Skips <= 256 && l.Outbox >= 1 && l.Outbox <= 64 && l.Counter >= 1
}

// wordsLimitsBytes: of any limits whose numbers have room in their bytes.
func wordsLimitsBytes(l api.Limits) []byte {
	var b []byte
	for _, n := range []int{l.Peers, l.Prekeys, l.Skip, l.Skips, l.Outbox} {
		b = append(b, byte(n/256), byte(n%256))
	}
	return joined(b, four(l.Counter))
}

func wordsEncodeLimits(l api.Limits) ([]byte, api.Errno) {
	if !wordsLimitsMayBe(l) {
		return nil, 2
	}
	return wordsLimitsBytes(l), 0
}

func wordsDecodeLimits(b []byte) (api.Limits, api.Errno) {
	switch {
	case len(b) < 14:
		return api.Limits{}, 10
	case len(b) > 14:
		return api.Limits{}, 11
	}
	two := func(at int) int { return int(b[at])*256 + int(b[at+1]) }
	l := api.Limits{Peers: two(0), Prekeys: two(2), Skip: two(4), Skips: two(6), Outbox: two(8), Counter: wordsNumber(b[10:])}
	if !wordsLimitsMayBe(l) {
		return api.Limits{}, 2
	}
	return l, 0
}
