package world_test

import (
	"fmt"
	"strings"
	"testing"

	"lethe/api"
)

// P24.1: the chapter's table, row by row.
func TestChapterExamples(t *testing.T) {
	b := newBench(t, 2, narrow())
	b.is("send 1 2 - -", 242, 0, 0, "")
	b.is("create 1 40 *", 0, 0, 0, "+")
	b.is("create 2 40 *", 0, 0, 0, "+")
	b.is("create 1 40 *", 241, 0, 0, "")
	b.is("publish 2 1 *", 0, 1, 1, "+")
	b.is("initiate 2 1 * * - -", 245, 0, 0, "")
	b.is("initiate 1 2 * * 'hi -", 0, 0, 0, "+")
	b.is("copy 0", 0, 1, 0, "")
	b.is("deliver 0 * -", 0, 2, 1, "hi")
	b.is("deliver 1 * -", 161, 0, 0, "")
	packet := b.is("send 2 1 'yes -", 0, 2, 0, "+")
	b.is("deliver 2 * 'other", 50, 0, 0, "")
	if n := len(b.w.Flights()); n != 0 {
		t.Errorf("P24.1: %d packets are on their way, want none", n)
	}
	b.is("replay 2 1", 0, 1, 0, "")
	if list := b.w.Flights(); len(list) != 1 || !sameFlight(list[0], api.Flight{Number: 3, From: 2, To: 1, Bytes: []byte(packet)}) {
		t.Errorf("P24.1: behind Replay %v is on its way", list)
	}
	b.is("deliver 3 * -", 0, 1, 2, "yes")
	b.is("ack 2 1 0", 0, 0, 0, "")
	b.is("ack 2 1 0", 201, 0, 0, "")
	b.is("close 1", 0, 0, 0, "")
	b.is("status 1 2", 220, 0, 0, "")
	b.is("boot 1 0 - 0 0", 0, 5, 0, "")
	list, e := b.w.Records(1)
	var tables []int
	for _, r := range list {
		tables = append(tables, r.Table)
	}
	if fmt.Sprint(tables) != "[1 2 4 6 7]" || e != 0 {
		t.Errorf("P24.1: 1's records are of the tables %v, error %d", tables, e)
	}
}

const (
	own1     = "422c8e7a6227d7bca1350b3e2bb7279f7897b87bb6854b783c60e80311ae3079"
	own2     = "8d20f8c7bbfb9af3da4ef532ed44efc68ce642bc5d0c5cb1d7b91b96c74edf02"
	bundle   = "01038d20f8c7bbfb9af3da4ef532ed44efc68ce642bc5d0c5cb1d7b91b96c74edf0200000001ae8b046f96cb5841c86fd8b63d3d6265b209dfa0df66bdaa42b7a9fc59779523"
	packet0a = "0101422c8e7a6227d7bca1350b3e2bb7279f7897b87bb6854b783c60e80311ae30790f524bef7e12258fd9eefcd9e468b21e"
	packet0b = "543d90cc4a54b347f48cc5969febf43200000001bf3412d4e13c430e952c48438d6fa11d0000000087558542bbbfff0f9390"
	packet0c = "2ffa8434b44235daa830ccffb1a6b5300b3cda701d05000000000000000000221a3082d11b525935c463d82725c20b93a1cd"
	packet0d = "a48a74d126704924eaf002a0df674491"
)

const opening = `create 1 20 D1
create 2 20 D2
publish 2 1 D3
initiate 1 2 D4 D5 6869 -
`

const openingTold = "0 0 0 " + own1 + "\n0 0 0 " + own2 + "\n0 1 1 " + bundle + "\n0 0 0 " + packet0a + packet0b + packet0c + packet0d + "\n"

// The document's examples of the whole: behind the opening a script, and its transcript, in which P stands for a packet that is not told.
var wholes = []struct{ script, transcript string }{
	{"deliver 0 D6 -\nsend 2 1 796573 -\ndeliver 1 D7 -\nstatus 1 2", `0 2 1 6869
0 1 0 P
0 1 2 796573
0 0 1 bf3412d4e13c430e952c48438d6fa11d0000000200000001
= 1 1 1 1 0 1 1 9bd82874ff94cc762c18f3b9c53d3da0e97429aa96c80ff0619929a565affefb
= 2 1 1 1 0 1 1 effb1d84ff60f516b9cb06770beb1c5b659a7edd15e0137c1612790353021236`},
	{"drop 0\nreplay 1 2\ndeliver 1 D6 -\nack 1 2 0\nreplay 1 2", `0 0 0 -
0 1 0 -
0 2 1 6869
0 0 0 -
0 0 0 -
= 1 1 1 1 0 0 1 d875f953f5fa4161e85d46e027843b28a4ec0e976fa66e7a745f4b86e579c38b
= 2 1 1 1 0 0 1 68c453f0efd193584e27fdfcc810a927d6726097033568fbd2af162d42bfb372`},
	{"copy 0\ndeliver 0 D6 -\ndeliver 1 D7 -", `0 1 0 -
0 2 1 6869
161 0 0 -
= 1 1 1 1 0 1 1 987c7f33f8a156eb809a42f3b342f21a123ad63486860123fd71c7baa43b82a8
= 2 1 1 1 0 0 1 68c453f0efd193584e27fdfcc810a927d6726097033568fbd2af162d42bfb372`},
	{"send 1 2 61 -\ndeliver 1 D6 -\ndeliver 0 D7 -\ndeliver 0 D8 -", `0 1 1 P
0 2 1 61
0 2 1 6869
230 0 0 -
= 1 1 1 1 0 2 1 56e6c641b32c688b3b9cec467c7349d9ec1bc2803a4c714a06d8817ad30f3e80
= 2 1 1 1 0 0 1 8ba23f512443badb8246ddf62b52cf5675fd8cf1defee9e1acd0fafe0dd191b2`},
	{"deliver 0 D6 -\narm 2 3 - -1 0\nsend 2 1 61 -\nsend 2 1 61 -\nboot 2 0 - 0 0\nsend 2 1 62 -\ndeliver 1 D7 -", `0 2 1 6869
0 0 0 -
80 0 0 -
80 0 0 -
0 4 0 -
0 1 0 P
0 1 2 62
= 1 1 1 1 0 1 1 9bd82874ff94cc762c18f3b9c53d3da0e97429aa96c80ff0619929a565affefb
= 2 1 1 1 0 1 1 c7ea0593a626b2c845002651d428c90e2c4687a1359c225e4c8c8fedf6a8a876`},
	{"deliver 0 D6 -\narm 2 12 ffffffffffffffff -1 0\nsend 2 1 61 -\nboot 2 0 - 0 0\nreplay 2 1\ndeliver 1 D7 -", `0 2 1 6869
0 0 0 -
80 0 0 -
0 5 0 -
0 1 0 -
0 1 2 61
= 1 1 1 1 0 1 1 9bd82874ff94cc762c18f3b9c53d3da0e97429aa96c80ff0619929a565affefb
= 2 1 1 1 0 1 1 c9e30d0a93d017e6d7156d68bffb0f43e006cbd2e005263dde63bb1345e0612d`},
	{"copy 0\ndeliver 0 D6 01\ndeliver 1 D6 -", `0 1 0 -
50 0 0 -
0 2 1 6869
= 1 1 1 1 0 1 1 987c7f33f8a156eb809a42f3b342f21a123ad63486860123fd71c7baa43b82a8
= 2 1 1 1 0 0 1 68c453f0efd193584e27fdfcc810a927d6726097033568fbd2af162d42bfb372`},
	{"deliver 0 D6 -\nforget 1 2\nforget 2 1\nforget 2 1", `0 2 1 6869
0 0 0 -
0 0 0 -
211 0 0 -
= 1 1 1 0 0 0 1 2cf58e9a395ed0818e80892f98132ba113ec7a7c53edddf26232bc6950395166
= 2 1 1 0 0 0 1 d072f5d6a76a325b9793207eaef1f26e308918c0408d4d3d8a6ee7dd2599cd9b`},
	{"copy 0\ndeliver 0 D6 -\nforget 2 1\ndeliver 1 D6 -", `0 1 0 -
0 2 1 6869
0 0 0 -
190 0 0 -
= 1 1 1 1 0 1 1 987c7f33f8a156eb809a42f3b342f21a123ad63486860123fd71c7baa43b82a8
= 2 1 1 0 0 0 1 d072f5d6a76a325b9793207eaef1f26e308918c0408d4d3d8a6ee7dd2599cd9b`},
}

// bit: as a transcript has it.
func bit(is bool) int {
	if is {
		return 1
	}
	return 0
}

// transcript: what a script's lines answer, and what the nodes look like then.
func (b *bench) transcript(script string) string {
	b.t.Helper()
	var out []string
	for line := range strings.SplitSeq(strings.TrimSpace(script), "\n") {
		a := b.does(line)
		text := fmt.Sprintf("%x", a.Bytes)
		if text == "" {
			text = "-"
		}
		out = append(out, fmt.Sprint(int(a.Code), " ", a.A, " ", a.B, " ", text))
	}
	for _, v := range b.w.Views() {
		out = append(out, fmt.Sprint("= ", v.Node, " ", bit(v.Created), " ", bit(v.Up), " ", v.Peers, " ", v.Prekeys, " ", v.Unanswered, " ", v.Pages, " ", b.digest(v.Node)))
	}
	for _, f := range b.w.Flights() {
		out = append(out, fmt.Sprintf("> %d %d %d %x", f.Number, f.From, f.To, f.Bytes))
	}
	return strings.Join(out, "\n")
}

// P24.2, P2: the document's ten examples, byte for byte.
func TestWholeExamples(t *testing.T) {
	for i, x := range wholes {
		got := strings.Split(newBench(t, 2, narrow()).transcript(opening+x.script), "\n")
		want := strings.Split(openingTold+x.transcript, "\n")
		for k := range max(len(got), len(want)) {
			if k >= len(got) || k >= len(want) {
				t.Fatalf("P2: example %d: %d lines, want %d", i+1, len(got), len(want))
			}
			told, isPacket := strings.CutSuffix(want[k], " P")
			if got[k] != want[k] && !(isPacket && strings.HasPrefix(got[k], told+" 0102")) && !(isPacket && strings.HasPrefix(got[k], told+" 0101")) {
				t.Errorf("P2: example %d: line %d is\n%s\nwant\n%s", i+1, k+1, got[k], want[k])
			}
		}
	}
	got := newBench(t, 2, narrow()).transcript("create 1 20 D1\ncreate 2 20 D2")
	want := "0 0 0 " + own1 + "\n0 0 0 " + own2 + `
= 1 1 1 0 0 0 1 2cf58e9a395ed0818e80892f98132ba113ec7a7c53edddf26232bc6950395166
= 2 1 1 0 0 0 1 6d4cab493ceb554fe93e102df57b4dda70011afebd8bbe67b4dc8b16073fcff3`
	if got != want {
		t.Errorf("P2: example 10:\n%s\nwant\n%s", got, want)
	}
}
