package outbox_test

import (
	"bytes"
	"sort"
	"strings"

	"lethe/api"
)

// The chapter's sentences, said of a plain list of records, with nothing of what the program uses.

// four: a number's bytes, by division.
func four(n int) string {
	return string([]byte{byte(n / 16777216 % 256), byte(n / 65536 % 256), byte(n / 256 % 256), byte(n % 256)})
}

func wordsNumber(b string) int {
	n := 0
	for i := range len(b) {
		n = 256*n + int(b[i])
	}
	return n
}

// wordsBytes: a peer's bytes.
func wordsBytes(peer string) string { return string([]byte{byte(len(peer))}) + peer }

func wordsKey(peer string, serial uint32) []byte {
	return []byte(wordsBytes(peer) + four(int(serial)))
}

// wordsPut: the list with this record, in its order.
func wordsPut(list []api.Record, r api.Record) []api.Record {
	all := append(wordsDelete(list, r.Table, r.Key), r)
	sort.Slice(all, func(i, j int) bool {
		return all[i].Table < all[j].Table || all[i].Table == all[j].Table && string(all[i].Key) < string(all[j].Key)
	})
	return all
}

func wordsDelete(list []api.Record, table int, key []byte) []api.Record {
	var left []api.Record
	for _, r := range list {
		if r.Table != table || !bytes.Equal(r.Key, key) {
			left = append(left, r)
		}
	}
	return left
}

// wordsPackets: the records of table 6 whose keys begin with the peer's bytes.
func wordsPackets(list []api.Record, peer string) []api.Record {
	var some []api.Record
	for _, r := range list {
		if r.Table == 6 && strings.HasPrefix(string(r.Key), wordsBytes(peer)) {
			some = append(some, r)
		}
	}
	return some
}

func wordsHas(list []api.Record, peer string, serial uint32) bool {
	for _, r := range wordsPackets(list, peer) {
		if bytes.Equal(r.Key, wordsKey(peer, serial)) {
			return true
		}
	}
	return false
}

func wordsName(peer string) api.Errno {
	if len(peer) < 1 || len(peer) > 16 {
		return 212
	}
	return 0
}

// wordsFirst: the errors that go ahead of all else, of every call but Ack.
func wordsFirst(list []api.Record, peer string) api.Errno {
	if e := wordsName(peer); e != 0 {
		return e
	}
	for _, r := range wordsPackets(list, peer) {
		if len(r.Key) != 1+len(peer)+4 {
			return 180
		}
	}
	return 0
}

// wordsOutboxPut, wordsAck, wordsDrop: the records behind the call, and its answers.

func wordsOutboxPut(list []api.Record, peer string, serial uint32, packet []byte, most int) ([]api.Record, api.Errno) {
	if e := wordsFirst(list, peer); e != 0 {
		return list, e
	}
	if len(packet) > 900 {
		return list, 5
	}
	if wordsHas(list, peer, serial) {
		return list, 151
	}
	if len(wordsPackets(list, peer)) >= most {
		return list, 200
	}
	return wordsPut(list, rec(6, wordsKey(peer, serial), bytes.Clone(packet))), 0
}

func wordsAck(list []api.Record, peer string, serial uint32) ([]api.Record, api.Errno) {
	if e := wordsName(peer); e != 0 {
		return list, e
	}
	if !wordsHas(list, peer, serial) {
		return list, 201
	}
	return wordsDelete(list, 6, wordsKey(peer, serial)), 0
}

func wordsList(list []api.Record, peer string) ([]api.Mail, api.Errno) {
	if e := wordsFirst(list, peer); e != 0 {
		return nil, e
	}
	var mails []api.Mail
	for _, r := range wordsPackets(list, peer) {
		mails = append(mails, api.Mail{Peer: peer, Serial: uint32(wordsNumber(string(r.Key[1+len(peer):]))), Bytes: r.Value})
	}
	sort.Slice(mails, func(i, j int) bool { return mails[i].Serial < mails[j].Serial })
	return mails, 0
}

func wordsDrop(list []api.Record, peer string) ([]api.Record, int, api.Errno) {
	if e := wordsFirst(list, peer); e != 0 {
		return list, 0, e
	}
	some := wordsPackets(list, peer)
	for _, r := range some {
		list = wordsDelete(list, 6, r.Key)
	}
	return list, len(some), 0
}
