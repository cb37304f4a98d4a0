package journal

import (
	"bytes"
	"slices"

	"election/api"
	"election/disk"
)

// The disk consists of slots of four sectors. The first slot has the head in its first sector: the title and the generation of the journal. Each other slot has room for an entry: its length, the generation of the journal to which it belongs, and its bytes. The entries of a journal are in the slots that carry its generation.
const (
	minSectors      = 8
	slotSectors     = 4
	headSector      = 0
	title           = "journal"
	maxEntry        = 200 // bytes of an entry
	lengthBytes     = 1
	generationBytes = 2
	entryStart      = lengthBytes + generationBytes
)

// fits reports whether an entry can have that many bytes.
func fits(length int) bool { return length >= 1 && length <= maxEntry }

// capacity returns the number of slots for entries.
func capacity(d *disk.Disk) int { return max(0, d.Sectors()/slotSectors-1) }

// slot returns the first sector of the slot for the entry k.
func slot(k int) int { return slotSectors * (k + 1) }

// head returns the contents of the head.
func head(generation int) []byte { return append([]byte(title), generationCode(generation)...) }

// readHead returns the generation of the journal on the disk, and true, or false if there is none.
func readHead(d *disk.Disk) (int, bool) {
	b, _ := d.Read(headSector)
	rest, ok := bytes.CutPrefix(b, []byte(title))
	if !ok {
		return 0, false
	}
	return generationOf(rest), true
}

// unused returns the least generation that no slot carries, so that nothing that is on the disk can become an entry of a journal with this generation. It has two bytes, since a disk has at most 1,023 slots for entries.
func unused(d *disk.Disk) int {
	carried := map[int]bool{}
	for k := range capacity(d) {
		first, _ := d.Read(slot(k))
		carried[generationOf(first[lengthBytes:])] = true
	}
	generation := 0
	for carried[generation] {
		generation++
	}
	return generation
}

// readEntries returns the entries of the journal with this generation.
func readEntries(d *disk.Disk, generation int) [][]byte {
	var entries [][]byte
	for k := range capacity(d) {
		b := readSlot(d, k)
		length := int(b[0])
		if generationOf(b[lengthBytes:]) != generation || !fits(length) {
			break
		}
		entries = append(entries, b[entryStart:entryStart+length])
	}
	return entries
}

// readSlot returns the contents of the slot for the entry k.
func readSlot(d *disk.Disk, k int) []byte {
	var b []byte
	for i := range slotSectors {
		sector, _ := d.Read(slot(k) + i)
		b = append(b, sector...)
	}
	return b
}

// saveEntry writes b to the slot for the entry k. The first sector alone makes the slot an entry, and it is written when the others are durable: after a crash there is the whole entry, or none, and no part of this entry can become one together with parts of another.
func saveEntry(d *disk.Disk, k, generation int, b []byte) api.Errno {
	contents := make([]byte, slotSectors*api.Sector)
	contents[0] = byte(len(b))
	copy(contents[lengthBytes:], generationCode(generation))
	copy(contents[entryStart:], b)
	if err := save(d, slot(k)+1, contents[api.Sector:]); err != api.OK {
		return err
	}
	return save(d, slot(k), contents[:api.Sector])
}

// save writes b to the sectors from first on, and makes them durable.
func save(d *disk.Disk, first int, b []byte) api.Errno {
	for part := range slices.Chunk(b, api.Sector) {
		if err := d.Write(first, part); err != api.OK {
			return err
		}
		first++
	}
	return d.Sync()
}

// generationCode returns the bytes of a generation, the most significant first.
func generationCode(generation int) []byte { return []byte{byte(generation >> 8), byte(generation)} }

// generationOf returns the generation with which b begins.
func generationOf(b []byte) int { return int(b[0])<<8 | int(b[1]) }
