package store

import (
	"errors"

	"lethe/api"
	"lethe/pack"
	"lethe/sectors"
	"lethe/wal"
)

// Format: a new store on a disk, whatever stood there.
func Format(d *sectors.Device) (*Store, error) { return load("Format", d, nil) }

// Load: a new store on a disk that holds just these records, made by one transaction.
func Load(d *sectors.Device, list []api.Record) (*Store, error) { return load("Load", d, list) }

// load: what Format and Load do; call is the one that was called.
func load(call string, d *sectors.Device, list []api.Record) (*Store, error) {
	if e := diskFault(d); e != api.OK {
		return nil, fault(call, 0, e)
	}
	if at, e := listFault(list); e != api.OK {
		return nil, fault(call, at, e)
	}
	wanted, e := layoutOf(list, wal.Room(d.Sectors()))
	if e != api.OK {
		return nil, fault(call, 0, e)
	}
	log, err := lay(d, wanted)
	if err != nil {
		return nil, fault(call, 0, err)
	}
	return &Store{log: log, list: copied(list), used: wanted.used()}, nil
}

func diskFault(d *sectors.Device) api.Errno {
	switch {
	case d == nil:
		return api.ErrHandle
	case d.Down():
		return api.ErrDown
	case wal.Room(d.Sectors()) == 0:
		return api.ErrRoom
	}
	return api.OK
}

// listFault: the first that is no record is told ahead of any that stands out of order, wherever they are.
func listFault(list []api.Record) (at int, e api.Errno) {
	for i, r := range list {
		if e := pack.Check(r); e != api.OK {
			return i, e
		}
	}
	for i := 1; i < len(list); i++ {
		if pack.Compare(list[i-1], list[i]) >= 0 {
			return i, api.ErrOrder
		}
	}
	return 0, api.OK
}

// lay: the disk becomes this layout, whatever stood there; its log, open.
func lay(d *sectors.Device, wanted layout) (*wal.Log, error) {
	log, err := openAnyLog(d)
	if err != nil {
		return nil, err
	}
	if e := wipeRest(d); e != api.OK {
		return nil, e
	}
	was, err := homes(log)
	if err != nil {
		return nil, err
	}
	if err := log.Commit(changes(was, wanted, log.Pages())...); err != nil {
		return nil, err
	}
	return log, nil
}

// openAnyLog: a log that makes no sense holds nothing that anybody waits for: it is given up.
func openAnyLog(d *sectors.Device) (*wal.Log, error) {
	log, _, err := wal.Open(d)
	if !makesNoSense(err) {
		return log, err
	}
	if err := wal.Clear(d); err != nil {
		return nil, err
	}
	log, _, err = wal.Open(d)
	return log, err
}

func makesNoSense(err error) bool {
	var e api.Errno
	return errors.As(err, &e) && e == api.ErrLog
}

// rest: the sectors behind the homes that are not all zeros, rising.
func rest(d *sectors.Device) ([]int, api.Errno) {
	var list []int
	for i := wal.Need(wal.Room(d.Sectors())); i < d.Sectors(); i++ {
		b, e := d.Read(i)
		if e != api.OK {
			return nil, e
		}
		if !allZeros(b) {
			list = append(list, i)
		}
	}
	return list, api.OK
}

// wipeRest: what no page can reach must not last either.
func wipeRest(d *sectors.Device) api.Errno {
	list, e := rest(d)
	if e != api.OK || len(list) == 0 {
		return e
	}
	for _, i := range list {
		if e := d.Write(i, make([]byte, api.SectorSize)); e != api.OK {
			return e
		}
	}
	return d.Flush()
}
