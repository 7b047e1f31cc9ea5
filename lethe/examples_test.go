package lethe_test

import (
	"regexp"
	"strings"
	"testing"

	"lethe/api"
	"lethe/lethe"
)

// P28.2: the chapter's first table, row by row.
func TestChapterLines(t *testing.T) {
	for _, x := range []struct {
		line string
		want api.Step
	}{
		{"send 1 2 6869 -", api.Step{Kind: 4, Node: 1, Peer: 2, Text: []byte{0x68, 0x69}}},
		{"send 1 2 - 00", api.Step{Kind: 4, Node: 1, Peer: 2, Data: []byte{0}}},
		{"send -1 2 - -", api.Step{Kind: 4, Node: -1, Peer: 2}},
		{"arm 1 3 0000000000000005 -1 512", api.Step{Kind: 11, Node: 1, A: 3, Loss: api.Loss{Keep: []uint64{5}, Torn: -1, Offset: 512}}},
		{"arm 1 3 - 0 0", api.Step{Kind: 11, Node: 1, A: 3}},
	} {
		got := parse(head + "\n" + x.line)
		want := answer{nodes: 2, lim: api.Limits{Peers: 1, Prekeys: 1, Skip: 1, Skips: 1, Outbox: 1, Counter: 9}, steps: []api.Step{x.want}}
		if !got.is(want) {
			t.Errorf("P28.2: %s: %v, want %v", x.line, got, want)
		}
	}
	for _, x := range []struct {
		line string
		e    api.Errno
	}{
		{"send 1 2 6869", badArg}, {"send 1 2 6869 - ", badArg}, {"send 1 2 686 -", badArg}, {"send 1 2 68AA -", badArg},
		{"send 01 2 - -", badArg}, {"send +1 2 - -", badArg}, {"send -0 2 - -", badArg},
		{"create 1 40 " + strings.Repeat("7", 63), badArg}, {"arm 1 3 5 0 0", badArg},
		{"tick 1", badWord}, {"room 2 1 1 1 1 1 9", badWord},
	} {
		isFault(t, head+"\n"+x.line, 2, x.e)
	}
}

// P28.2, P28.3, P28.5: the chapter's second table, row by row.
func TestChapterCalls(t *testing.T) {
	isFault(t, "", 1, badScript)
	isFault(t, "\n\n", 3, badScript)
	isFault(t, "close 1", 1, badScript)
	isFault(t, "room 2 1 1 1 1 1 4294967296", 1, badArg)
	for _, x := range []struct {
		script, want string
		line         int
		e            api.Errno
	}{
		{"#\nroom 1 1 1 1 1 1 9", "", 2, noNode},
		{"room 2 0 1 1 1 1 9", "", 1, noLimits},
		{"room 2 1 1 1 1 1 9", "= 1 0 0 0 0 0 0 -\n= 2 0 0 0 0 0 0 -\n", 0, 0},
		{"room 2 1 1 1 1 1 9\nclose 1", "242 0 0 -\n= 1 0 0 0 0 0 0 -\n= 2 0 0 0 0 0 0 -\n", 0, 0},
	} {
		if got, line, e := lethe.Run(x.script); got != x.want || line != x.line || e != x.e {
			t.Errorf("P28.5: Run(%q): %q, line %d, error %d, want %q, %d, %d", x.script, got, line, e, x.want, x.line, x.e)
		}
	}
	for _, x := range []struct {
		s api.Step
		e api.Errno
	}{
		{api.Step{Kind: 13, A: 1}, extra}, {api.Step{Kind: 13, Node: 1, A: 1}, extra}, {api.Step{}, noStep}, {api.Step{Kind: 6, A: 1000000000000000000}, badArg},
	} {
		if got, e := lethe.Print(2, api.Limits{}, []api.Step{x.s}); got != "" || e != x.e {
			t.Errorf("P28.3: Print of %v: %q, error %d, want %d", x.s, got, e, x.e)
		}
	}
}

const (
	own1    = "422c8e7a6227d7bca1350b3e2bb7279f7897b87bb6854b783c60e80311ae3079"
	own2    = "8d20f8c7bbfb9af3da4ef532ed44efc68ce642bc5d0c5cb1d7b91b96c74edf02"
	bundle  = "01038d20f8c7bbfb9af3da4ef532ed44efc68ce642bc5d0c5cb1d7b91b96c74edf0200000001ae8b046f96cb5841c86fd8b63d3d6265b209dfa0df66bdaa42b7a9fc59779523"
	packet0 = "0101422c8e7a6227d7bca1350b3e2bb7279f7897b87bb6854b783c60e80311ae30790f524bef7e12258fd9eefcd9e468b21e" +
		"543d90cc4a54b347f48cc5969febf43200000001bf3412d4e13c430e952c48438d6fa11d0000000087558542bbbfff0f9390" +
		"2ffa8434b44235daa830ccffb1a6b5300b3cda701d05000000000000000000221a3082d11b525935c463d82725c20b93a1cd" +
		"a48a74d126704924eaf002a0df674491"
)

// opening: with which all of the document's examples but the last begin.
const opening = `room 2 2 2 2 4 2 9
create 1 20 D1
create 2 20 D2
publish 2 1 D3
initiate 1 2 D4 D5 6869 -
`

const openingTold = "0 0 0 " + own1 + "\n0 0 0 " + own2 + "\n0 1 1 " + bundle + "\n0 0 0 " + packet0 + "\n"

// The document's examples of the whole: what is behind the opening, and its transcript, in which P stands for a packet that is not told.
var wholes = []struct{ script, transcript string }{
	{`deliver 0 D6 -
send 2 1 796573 -
deliver 1 D7 -
status 1 2
`, `0 2 1 6869
0 1 0 P
0 1 2 796573
0 0 1 bf3412d4e13c430e952c48438d6fa11d0000000200000001
= 1 1 1 1 0 1 1 9bd82874ff94cc762c18f3b9c53d3da0e97429aa96c80ff0619929a565affefb
= 2 1 1 1 0 1 1 effb1d84ff60f516b9cb06770beb1c5b659a7edd15e0137c1612790353021236
`},
	{`drop 0
replay 1 2
deliver 1 D6 -
ack 1 2 0
replay 1 2
`, `0 0 0 -
0 1 0 -
0 2 1 6869
0 0 0 -
0 0 0 -
= 1 1 1 1 0 0 1 d875f953f5fa4161e85d46e027843b28a4ec0e976fa66e7a745f4b86e579c38b
= 2 1 1 1 0 0 1 68c453f0efd193584e27fdfcc810a927d6726097033568fbd2af162d42bfb372
`},
	{`copy 0
deliver 0 D6 -
deliver 1 D7 -
`, `0 1 0 -
0 2 1 6869
161 0 0 -
= 1 1 1 1 0 1 1 987c7f33f8a156eb809a42f3b342f21a123ad63486860123fd71c7baa43b82a8
= 2 1 1 1 0 0 1 68c453f0efd193584e27fdfcc810a927d6726097033568fbd2af162d42bfb372
`},
	{`send 1 2 61 -
deliver 1 D6 -
deliver 0 D7 -
deliver 0 D8 -
`, `0 1 1 P
0 2 1 61
0 2 1 6869
230 0 0 -
= 1 1 1 1 0 2 1 56e6c641b32c688b3b9cec467c7349d9ec1bc2803a4c714a06d8817ad30f3e80
= 2 1 1 1 0 0 1 8ba23f512443badb8246ddf62b52cf5675fd8cf1defee9e1acd0fafe0dd191b2
`},
	{`deliver 0 D6 -
arm 2 3 - -1 0
send 2 1 61 -
send 2 1 61 -
boot 2 0 - 0 0
send 2 1 62 -
deliver 1 D7 -
`, `0 2 1 6869
0 0 0 -
80 0 0 -
80 0 0 -
0 4 0 -
0 1 0 P
0 1 2 62
= 1 1 1 1 0 1 1 9bd82874ff94cc762c18f3b9c53d3da0e97429aa96c80ff0619929a565affefb
= 2 1 1 1 0 1 1 c7ea0593a626b2c845002651d428c90e2c4687a1359c225e4c8c8fedf6a8a876
`},
	{`deliver 0 D6 -
arm 2 12 ffffffffffffffff -1 0
send 2 1 61 -
boot 2 0 - 0 0
replay 2 1
deliver 1 D7 -
`, `0 2 1 6869
0 0 0 -
80 0 0 -
0 5 0 -
0 1 0 -
0 1 2 61
= 1 1 1 1 0 1 1 9bd82874ff94cc762c18f3b9c53d3da0e97429aa96c80ff0619929a565affefb
= 2 1 1 1 0 1 1 c9e30d0a93d017e6d7156d68bffb0f43e006cbd2e005263dde63bb1345e0612d
`},
	{`copy 0
deliver 0 D6 01
deliver 1 D6 -
`, `0 1 0 -
50 0 0 -
0 2 1 6869
= 1 1 1 1 0 1 1 987c7f33f8a156eb809a42f3b342f21a123ad63486860123fd71c7baa43b82a8
= 2 1 1 1 0 0 1 68c453f0efd193584e27fdfcc810a927d6726097033568fbd2af162d42bfb372
`},
	{`deliver 0 D6 -
forget 1 2
forget 2 1
forget 2 1
`, `0 2 1 6869
0 0 0 -
0 0 0 -
211 0 0 -
= 1 1 1 0 0 0 1 2cf58e9a395ed0818e80892f98132ba113ec7a7c53edddf26232bc6950395166
= 2 1 1 0 0 0 1 d072f5d6a76a325b9793207eaef1f26e308918c0408d4d3d8a6ee7dd2599cd9b
`},
	{`copy 0
deliver 0 D6 -
forget 2 1
deliver 1 D6 -
`, `0 1 0 -
0 2 1 6869
0 0 0 -
190 0 0 -
= 1 1 1 1 0 1 1 987c7f33f8a156eb809a42f3b342f21a123ad63486860123fd71c7baa43b82a8
= 2 1 1 0 0 0 1 d072f5d6a76a325b9793207eaef1f26e308918c0408d4d3d8a6ee7dd2599cd9b
`},
}

// isTranscript: a script's transcript is this one, byte for byte, but where P stands.
func isTranscript(t *testing.T, what, script, want string) {
	t.Helper()
	got, line, e := lethe.Run(withKeys(script))
	if line != 0 || e != 0 {
		t.Fatalf("P28.5, P2: %s: line %d, error %d", what, line, e)
	}
	pattern := strings.ReplaceAll(regexp.QuoteMeta(want), " P\n", " 010[12]([0-9a-f]{2})+\n")
	if !regexp.MustCompile(`\A` + pattern + `\z`).MatchString(got) {
		t.Errorf("P28.5, P2: %s:\n%s\nwant\n%s", what, got, want)
	}
}

// P28.5, P2: the document's ten examples of the whole.
func TestWholeExamples(t *testing.T) {
	for i, x := range wholes {
		isTranscript(t, "example "+string(rune('1'+i)), opening+x.script, openingTold+x.transcript)
	}
	created := strings.Join(strings.SplitAfter(opening, "\n")[:3], "")
	isTranscript(t, "example 10", created, "0 0 0 "+own1+"\n0 0 0 "+own2+`
= 1 1 1 0 0 0 1 2cf58e9a395ed0818e80892f98132ba113ec7a7c53edddf26232bc6950395166
= 2 1 1 0 0 0 1 6d4cab493ceb554fe93e102df57b4dda70011afebd8bbe67b4dc8b16073fcff3
`)
}

// P28.5: what is on its way stands at the end, by its number.
func TestOnTheirWay(t *testing.T) {
	for _, x := range []struct{ more, answers, flights string }{
		{"", "", "> 0 1 2 " + packet0 + "\n"},
		{"copy 0\ncopy 1\n", "0 1 0 -\n0 2 0 -\n", "> 0 1 2 " + packet0 + "\n> 1 1 2 " + packet0 + "\n> 2 1 2 " + packet0 + "\n"},
		{"copy 0\ncopy 0\ndrop 1\n", "0 1 0 -\n0 2 0 -\n0 0 0 -\n", "> 0 1 2 " + packet0 + "\n> 2 1 2 " + packet0 + "\n"},
	} {
		got, _, e := lethe.Run(withKeys(opening + x.more))
		nodes := `= 1 1 1 1 0 1 1 987c7f33f8a156eb809a42f3b342f21a123ad63486860123fd71c7baa43b82a8
= 2 1 1 0 1 0 1 [0-9a-f]{64}
`
		if want := regexp.MustCompile(`\A` + openingTold + x.answers + nodes + x.flights + `\z`); e != 0 || !want.MatchString(got) {
			t.Errorf("P28.5: behind %q: error %d\n%s\nwant\n%s", x.more, e, got, want)
		}
	}
}
