package state

import "lethe/api"

// apart: how far two numbers are from each other. The lower one is taken from the higher, so that 0 and the last number are not beside each other.
func apart(a, b uint32) uint32 { return max(a, b) - min(a, b) }

// counted: the same state with every field zero that doesn't count yet, or no more.
func counted(s api.State) api.State {
	if s.Own == 0 {
		s.SendKey = api.Key{}
		s.Sent, s.Serial = 0, 0
	}
	if s.Own <= 1 {
		s.Prev = 0
	}
	if s.Turns == 0 {
		s.RecvKey = api.Key{}
		s.Got = 0
	}
	if s.Own == 0 || s.Turns > 0 {
		s.Hello = api.Hello{}
	}
	return s
}

// rightSerial: can so many messages have been sent in all? What the last two own turns have is taken away one by one, because their sum might wrap round.
func rightSerial(s api.State) bool {
	if s.Serial < s.Sent {
		return false
	}
	earlier := s.Serial - s.Sent
	if s.Own == 1 {
		return earlier == 0
	}
	return earlier >= s.Prev
}

// rightHello: none at all, or that of the one who wrote first.
func rightHello(s api.State) bool {
	if s.Hello == (api.Hello{}) {
		return true
	}
	return s.Hello.Identity != (api.Key{}) && s.Hello.Identity == firstWriter(s)
}

// firstWriter: the identity of the one who wrote first.
func firstWriter(s api.State) api.Key { return api.Key(s.Bind[:keySize]) }
