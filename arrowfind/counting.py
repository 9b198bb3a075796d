"""Nets counted: the islands of a picture, how many nets it has, and their numbers."""

from arrowfind.errors import NoSuch, Unlike
from arrowfind.nets import names_along, net_made
from arrowfind.pictures import arrows_from, both_ways, picture_of, ties_left
from arrowfind.sameness import pairs_of


def islands_of(picture):
    return islands_among(picture[0], picture[2])


def how_many(picture):
    return count_of(islands_of(picture), picture[2], {})


def net_at(picture, number):
    names, arrows, ties = picture
    islands = islands_of(picture)
    counts = {}
    if not 0 <= number < count_of(islands, ties, counts):
        raise NoSuch("no net of the picture has this number")
    return net_made(names, list(arrows) + arrows_at(number, islands, ties, counts))


def number_in(picture, net):
    if picture_of(net) != picture:
        raise Unlike("the net is none of the picture's")
    return number_among(net[1], islands_of(picture), picture[2], {})


def islands_among(names, ties):
    steps = both_ways(ties)
    islands = []
    for name in names:
        if not any([name in island for island in islands]):
            island = names_along(names, steps, name)
            if len(island) > 1:
                islands.append(island)
    return islands


# With one name of an island as its source: the islands that are left within it.
def islands_within(island, source, ties):
    inner = pairs_within(island, ties)
    return islands_among(island, ties_left(inner, arrows_from(inner, source)))


def pairs_within(island, pairs):
    return [(one, other) for one, other in pairs if one in island and other in island]


# Islands go each as it likes, so their counts are multiplied.
def count_of(islands, ties, counts):
    product = 1
    for island in islands:
        product = product * island_count(island, ties, counts)
    return product


# An island has all ties of the picture between its names, so its names alone tell its count. It
# is kept in counts, for one comes to the same island by way of many sources.
def island_count(island, ties, counts):
    key = tuple(island)
    if key not in counts:
        counts[key] = island_counted(island, ties, counts)
    return counts[key]


# Where all names are tied to one another they may go in every order, and the many islands within
# needn't be walked.
def island_counted(island, ties, counts):
    if len(pairs_within(island, ties)) == len(pairs_of(island)):
        return orders_of(island)
    return sum([source_count(island, source, ties, counts) for source in island])


def orders_of(names):
    product = 1
    for place in range(len(names)):
        product = product * (place + 1)
    return product


def source_count(island, source, ties, counts):
    return count_of(islands_within(island, source, ties), ties, counts)


# The first island weighs most, so the number is taken apart from the last one on.
def arrows_at(number, islands, ties, counts):
    arrows = []
    for island in reversed(islands):
        number, place = divmod(number, island_count(island, ties, counts))
        arrows.extend(island_arrows_at(place, island, ties, counts))
    return arrows


def island_arrows_at(place, island, ties, counts):
    source, place_behind = source_at(place, island, ties, counts)
    fixed = arrows_from(pairs_within(island, ties), source)
    return fixed + arrows_at(place_behind, islands_within(island, source, ties), ties, counts)


# The source, and the place among the nets that have it.
def source_at(place, island, ties, counts):
    for source in island[:-1]:
        many = source_count(island, source, ties, counts)
        if place < many:
            return (source, place)
        place = place - many
    return (island[-1], place)


def number_among(arrows, islands, ties, counts):
    number = 0
    for island in islands:
        place = place_in(arrows, island, ties, counts)
        number = number * island_count(island, ties, counts) + place
    return number


def place_in(arrows, island, ties, counts):
    source = source_in(arrows, island)
    sources_ahead = island[:island.index(source)]
    ahead = sum([source_count(island, name, ties, counts) for name in sources_ahead])
    return ahead + number_among(arrows, islands_within(island, source, ties), ties, counts)


def source_in(arrows, island):
    heads = [head for tail, head in pairs_within(island, arrows)]
    return [name for name in island if name not in heads][0]
