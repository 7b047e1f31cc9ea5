package state_test

import (
	"fmt"
	"math"
	"math/rand"
	"testing"

	"lethe/api"
	"lethe/state"
)

// P18.2: each rule broken alone, one field at a time.
func TestEachRuleBroken(t *testing.T) {
	last := uint32(math.MaxUint32)
	for _, c := range []struct {
		what string
		from api.State
		turn func(s *api.State)
	}{
		{"1: an own turn too many", waiting(), func(s *api.State) { s.Own = 2 }},
		{"1: a turn of the peer too many", waiting(), func(s *api.State) { s.Turns = 2 }},
		{"1: one less than none", waiting(), func(s *api.State) { s.Turns = last }},
		{"1: one less than none, the other way", waiting(), func(s *api.State) { s.Own = last }},
		{"1: two apart, high up", talking(), func(s *api.State) { s.Turns = s.Own - 2 }},
		{"1: two apart, high up, the other way", talking(), func(s *api.State) { s.Turns = s.Own + 2 }},
		{"1: half of all numbers apart", talking(), func(s *api.State) { s.Turns = s.Own + 1<<31 }},
		{"2: a sending key", waiting(), func(s *api.State) { s.SendKey[31] = 1 }},
		{"2: a sending key, Turns 1", listening(), func(s *api.State) { s.SendKey[0] = 1 }},
		{"2: Sent and Serial", waiting(), func(s *api.State) { s.Sent, s.Serial = 1, 1 }},
		{"2: Sent", listening(), func(s *api.State) { s.Sent = 1 }},
		{"2: Prev and Serial", listening(), func(s *api.State) { s.Prev, s.Serial = 1, 1 }},
		{"2: Prev", listening(), func(s *api.State) { s.Prev = 1 }},
		{"2: Serial", waiting(), func(s *api.State) { s.Serial = 1 }},
		{"2: Serial, Turns 1", listening(), func(s *api.State) { s.Serial = last }},
		{"2: a hello", waiting(), func(s *api.State) { s.Hello.Identity = key(0x21) }},
		{"2: a hello's once key", waiting(), func(s *api.State) { s.Hello.Once[5] = 1 }},
		{"2: a hello's prekey", waiting(), func(s *api.State) { s.Hello.Prekey = 1 }},
		{"3: a receiving key", waiting(), func(s *api.State) { s.RecvKey[31] = 1 }},
		{"3: a receiving key, Own 1", writing(), func(s *api.State) { s.RecvKey[0] = 1 }},
		{"3: Got", waiting(), func(s *api.State) { s.Got = 1 }},
		{"3: Got, Own 1", greeting(), func(s *api.State) { s.Got = last }},
		{"4: Prev, Own 1", writing(), func(s *api.State) { s.Prev = 1 }},
		{"4: Prev, Own 1, Serial below Sent", writing(), func(s *api.State) { s.Prev, s.Serial = last, s.Sent-1 }},
		{"4: Serial above Sent, Own 1", writing(), func(s *api.State) { s.Serial++ }},
		{"4: Serial above Sent by Prev, Own 1", answering(), func(s *api.State) { s.Prev = 2; s.Serial += 2 }},
		{"4: Serial below Sent, Own 1", writing(), func(s *api.State) { s.Serial-- }},
		{"4: Serial below Sent", talking(), func(s *api.State) { s.Prev, s.Serial = 0, s.Sent-1 }},
		{"4: Serial below Sent and Prev", talking(), func(s *api.State) { s.Serial = s.Sent + s.Prev - 1 }},
		{"4: Sent and Prev wrap round", talking(), func(s *api.State) { s.Sent, s.Prev, s.Serial = last, 1, last }},
		{"4: Sent and Prev wrap round to Serial", talking(), func(s *api.State) { s.Sent, s.Prev, s.Serial = last, 2, 1 }},
		{"5: a hello without an identity", greeting(), func(s *api.State) { s.Hello.Identity = api.Key{} }},
		{"5: no identity on either side", greeting(), func(s *api.State) { s.Hello.Identity, s.Bind = api.Key{}, [64]byte{} }},
		{"5: a prekey alone", writing(), func(s *api.State) { s.Hello.Prekey = 1 }},
		{"5: a once key alone", writing(), func(s *api.State) { s.Hello.Once[31] = 1 }},
		{"5: a hello behind the peer's turn", greeting(), func(s *api.State) { s.Turns = 1 }},
		{"5: a hello behind the peer's second turn", greeting(), func(s *api.State) { s.Turns = 2 }},
		{"6: another identity", greeting(), func(s *api.State) { s.Hello.Identity[0]++ }},
		{"6: another identity, its last byte", greeting(), func(s *api.State) { s.Hello.Identity[31]++ }},
		{"6: another bind", greeting(), func(s *api.State) { s.Bind[31]++ }},
		{"6: the bind's other half", greeting(), func(s *api.State) { copy(s.Hello.Identity[:], s.Bind[32:]) }},
	} {
		isChecked(t, c.what+", ahead of the fault", c.from, 0)
		s := c.from
		c.turn(&s)
		isChecked(t, c.what, s, 180)
		var rule int
		if _, err := fmt.Sscanf(c.what, "%d", &rule); err != nil || wordsRules(s)[rule] {
			t.Errorf("%s: it's not that rule that is broken: %v", c.what, wordsRules(s))
		}
	}
}

// P18.2: what lies just within the rules.
func TestWithinTheRules(t *testing.T) {
	last := uint32(math.MaxUint32)
	for _, c := range []struct {
		what string
		from api.State
		turn func(s *api.State)
	}{
		{"Own one ahead", talking(), func(s *api.State) { s.Turns = s.Own - 1 }},
		{"both alike", talking(), func(s *api.State) { s.Turns = s.Own }},
		{"Turns one ahead", talking(), func(s *api.State) { s.Turns = s.Own + 1 }},
		{"both at the last number", talking(), func(s *api.State) { s.Own, s.Turns = last, last }},
		{"Own at the last number", talking(), func(s *api.State) { s.Own, s.Turns = last, last-1 }},
		{"Turns at the last number", talking(), func(s *api.State) { s.Own, s.Turns = last-1, last }},
		{"Own 1, Turns 2", answering(), func(s *api.State) { s.Turns = 2 }},
		{"Own 1, nothing sent", writing(), func(s *api.State) { s.Sent, s.Serial = 0, 0 }},
		{"Own 1, all sent that there is", writing(), func(s *api.State) { s.Sent, s.Serial = last, last }},
		{"Got 0 in a turn", answering(), func(s *api.State) { s.Got = 0 }},
		{"Got at the last number", listening(), func(s *api.State) { s.Got = last }},
		{"keys that count, and are zero", talking(), func(s *api.State) { s.SendKey, s.RecvKey = api.Key{}, api.Key{} }},
		{"Serial just Sent and Prev", talking(), func(s *api.State) { s.Serial = s.Sent + s.Prev }},
		{"Serial just Sent", talking(), func(s *api.State) { s.Serial, s.Prev = s.Sent, 0 }},
		{"nothing sent in later turns", talking(), func(s *api.State) { s.Sent, s.Prev, s.Serial = 0, 0, 0 }},
		{"the last numbers", talking(), func(s *api.State) { s.Sent, s.Prev, s.Serial = 1, last-1, last }},
		{"the last numbers, Sent alone", talking(), func(s *api.State) { s.Sent, s.Prev, s.Serial = last, 0, last }},
		{"the last numbers, Prev alone", talking(), func(s *api.State) { s.Sent, s.Prev, s.Serial = 0, last, last }},
		{"a hello of an identity alone", greeting(), func(s *api.State) { s.Hello.Once, s.Hello.Prekey = api.Key{}, 0 }},
		{"a hello whose identity has one byte", greeting(), func(s *api.State) { s.Hello.Identity, s.Bind = api.Key{31: 1}, [64]byte{31: 1} }},
		{"no hello, whatever Bind says", greeting(), func(s *api.State) { s.Hello = api.Hello{} }},
		{"a peer's key without an own turn", waiting(), func(s *api.State) { s.Peer = key(9) }},
		{"all bytes zero", talking(), func(s *api.State) {
			s.Sid, s.Root, s.Pair, s.Peer, s.Bind = api.Sid{}, api.Key{}, api.Pair{}, api.Key{}, [64]byte{}
		}},
	} {
		s := c.from
		c.turn(&s)
		isChecked(t, c.what, s, 0)
	}
}

// P18.2: all states of small numbers, with and without keys and hellos.
func TestAllSmallStates(t *testing.T) {
	x := api.Key{3}
	hellos := []api.Hello{{}, {Identity: x}, {Identity: api.Key{4}, Prekey: 1}, {Prekey: 1}, {Once: x}}
	numbers := []uint32{0, 1, 2, 3}
	for _, own := range numbers {
		for _, turns := range numbers {
			for rest := range 4 * 4 * 4 * 4 {
				s := api.State{Own: own, Turns: turns, Sent: numbers[rest%4], Got: numbers[rest/4%4], Prev: numbers[rest/16%4], Serial: numbers[rest/64]}
				for other := range len(hellos) * 8 {
					s.Hello = hellos[other/8]
					s.SendKey, s.RecvKey, s.Bind = api.Key{byte(other & 1)}, api.Key{}, [64]byte{}
					if other&2 > 0 {
						s.RecvKey = x
					}
					if other&4 > 0 {
						s.Bind[0] = 3
					}
					if got, want := state.Check(s) == api.OK, wordsMayBe(s); got != want {
						t.Fatalf("P18.2: Check says %v, the words %v: %+v", got, want, s)
					}
				}
			}
		}
	}
}

// P18.2, rule 4 of the document: at numbers whose sums and differences would wrap round.
func TestAllFarNumbers(t *testing.T) {
	far := []uint32{0, 1, 2, math.MaxInt32, 1 << 31, 1<<31 + 1, math.MaxUint32 - 1, math.MaxUint32}
	for n := range 8 * 8 * 8 * 8 * 8 {
		s := api.State{Own: far[n%8], Turns: far[n/8%8], Sent: far[n/64%8], Prev: far[n/512%8], Serial: far[n/4096]}
		if got, want := state.Check(s) == api.OK, wordsMayBe(s); got != want {
			t.Fatalf("P18.2: Check says %v, the words %v: %+v", got, want, s)
		}
	}
}

// P18.2, P18.3: drawn states; both kinds must be among them often.
func TestDrawnStates(t *testing.T) {
	r := rand.New(rand.NewSource(18))
	right := 0
	for n := range 20000 {
		s := drawnState(r)
		if wordsMayBe(s) {
			right++
		}
		followsWords(t, fmt.Sprintf("draw %d", n), s)
	}
	if right < 2000 || right > 18000 {
		t.Errorf("%d of the drawn states may be: the draws are no good", right)
	}
}
