package lethe

import (
	"strconv"
	"strings"

	"lethe/api"
	"lethe/sha"
	"lethe/wire"
	"lethe/world"
)

// play: a new world's transcript.
func play(w *world.World, steps []api.Step) string {
	var out strings.Builder
	for _, s := range steps {
		out.WriteString(answerLine(w.Play(s)))
	}
	for _, v := range w.Views() {
		out.WriteString(viewLine(v, imageSum(w, v.Node)))
	}
	for _, f := range w.Flights() {
		out.WriteString(flightLine(f))
	}
	return out.String()
}

func answerLine(a api.Answer) string {
	return lineOf(strconv.Itoa(int(a.Code)), strconv.Itoa(a.A), strconv.Itoa(a.B), writeBytes([]byte(a.Bytes)))
}

func viewLine(v api.View, sum string) string {
	return lineOf("=", strconv.Itoa(v.Node), writeBool(v.Created), writeBool(v.Up), strconv.Itoa(v.Peers), strconv.Itoa(v.Prekeys), strconv.Itoa(v.Unanswered), strconv.Itoa(v.Pages), sum)
}

func flightLine(f api.Flight) string {
	return lineOf(">", strconv.Itoa(f.Number), strconv.Itoa(f.From), strconv.Itoa(f.To), writeBytes(f.Bytes))
}

// imageSum: what tells a node's disk from every other one; a node that was not created has none.
func imageSum(w *world.World, number int) string {
	image, e := w.Image(number)
	if e != api.OK {
		return nothing
	}
	sum := sha.Sum(image)
	return wire.Hex(sum[:])
}

func writeBool(is bool) string {
	if is {
		return "1"
	}
	return "0"
}
